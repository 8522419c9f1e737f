/-
  Parts of the proof.
-/
import Derived.Test.YtliflleaeimngaaLongestProofNA0
import Derived.Test.YtliflleaeimngaaLongestProofNB7
import Derived.Test.YtliflleaeimngaaLongestProofNB8
import Derived.Test.YtliflleaeimngaaLongestProofNB9
import Derived.Test.YtliflleaeimngaaLongestProofNB10
import Derived.Test.YtliflleaeimngaaLongestProofNB11
import Derived.Test.YtliflleaeimngaaLongestProofNB12
import Derived.Test.YtliflleaeimngaaLongestProofNB13
import Derived.Test.YtliflleaeimngaaLongestProofNB14
import Derived.Test.YtliflleaeimngaaLongestProofNB15
import Derived.Test.YtliflleaeimngaaLongestProofNB16
import Derived.Test.YtliflleaeimngaaLongestProofNB4
import Derived.Deep.DeepCutAuto
import Derived.Test.YtliflleaeimngaaLongestProofNB2
import Derived.Laws.OwnMore
import Derived.Test.YtliflleaeimngaaLongestProofNB5
set_option linter.unusedSimpArgs false
set_option maxRecDepth 100000
set_option maxHeartbeats 8000000
namespace Go.Proofs.Ytliflleaeimngaa
open Go Go.RowKit
section
set_option linter.unusedSimpArgs false
set_option linter.unusedVariables false
attribute [local go_sem] Oper.semAt_some aQ aM
theorem aS{w:World}{f:Nat}{args:Array Value}{a b:Bool}(h:Calls Try.prog f args w fun e w'=>e=.returned (.bool a)/\wBl w w')(e:b=a):Calls Try.prog f args w fun e w'=>e=.returned (.bool b)/\wBl w w':=by rw [e];exact h
theorem jU{w:World}{p:Pg}(h:PgI w p){k:Nat}{i:Ins}(hi:p.L[k]?=some i)(hk:p.L.length<=40000)(ho:i.op=11)(hs0:i.s=0#256)(hx0:0<=i.x)(hy0:0<=i.y)(hxz:i.x=0)(hyz:i.y=0)(hnz:i.n=0)(hmnz:i.mn=0)(hmxz:i.mx=0):Calls Try.prog 31 #[.agg #[.slice p.q p.L.length p.c,.int .i64 p.g,.int .i64 p.k,.bool p.f],.int .i64 (k:Int)] w fun e w'=>e=.returned (.bool (true))/\wBl w w':=by
 have B1:Hid (wBl w (w.alloc (.cells #[.slice p.q p.L.length p.c,.int .i64 p.g,.int .i64 p.k,.bool p.f] 24))):=bz9
 have X1:Hid ((w.alloc (.cells #[.slice p.q p.L.length p.c,.int .i64 p.g,.int .i64 p.k,.bool p.f] 24)).heap[w.heap.size]?=some (.cells #[.slice p.q p.L.length p.c,.int .i64 p.g,.int .i64 p.k,.bool p.f] 24 (0,0))):=aE w _
 obtain⟨g1,o1,hq1,hl1,c0,c1,c2,c3,c4,c5,c6,c7,c8,c9⟩:=(h.li.kept B1.o).ten hi
 have hkl:=(f7.1 hi).1
 have k0:(0:Int)<=(k:Int):=by omega
 have k1:(k:Int)<(p.L.length:Int):=by omega
 have OF:=aD (aI i.op)
 have hu:usA i.op=[false,false,false,false,false,false]:=by rw [ho];rfl
 have hiso:isO i.op=true:=by rw [ho];rfl
 rw [hu,hiso] at OF
 have OF:Hid (∀ w,Calls Try.prog 42 #[.int .i64 i.op] w fun e w'=>e=.returned (.tuple #[.agg #[.bool false,.bool false,.bool false,.bool false,.bool false,.bool false],.bool true])/\wBl w w'):=OF
 have o9:(i.op==9)=false:=by rw [ho];rfl
 have o10:(i.op==10)=false:=by rw [ho];rfl
 have wl:IntKind.wrap .i64 ((p.L.length:Int)-1)=(p.L.length:Int)-1:=by rw [IntKind.wrap_i64];omega
 have exz:(i.x==0)=true:=by rw [beq_iff_eq];exact hxz
 have fxz:(i.x != 0)=false:=by simp [hxz]
 clear hxz
 have eyz:(i.y==0)=true:=by rw [beq_iff_eq];exact hyz
 have fyz:(i.y != 0)=false:=by simp [hyz]
 clear hyz
 have enz:(i.n==0)=true:=by rw [beq_iff_eq];exact hnz
 have fnz:(i.n != 0)=false:=by simp [hnz]
 clear hnz
 have emnz:(i.mn==0)=true:=by rw [beq_iff_eq];exact hmnz
 have fmnz:(i.mn != 0)=false:=by simp [hmnz]
 clear hmnz
 have emxz:(i.mx==0)=true:=by rw [beq_iff_eq];exact hmxz
 have fmxz:(i.mx != 0)=false:=by simp [hmxz]
 clear hmxz
 have Hs0:=aD hs0
 clear hs0
 clear hu hiso ho
 have HQ:=aD hq1
 clear h hi hq1
 go_enter Try.func31,Try.ntmps31
 go_upto_region 1 with fail
 generalize (w.alloc (.cells #[.slice p.q p.L.length p.c,.int .i64 p.g,.int .i64 p.k,.bool p.f] 24))=w1 at B1 X1 c0 c1 c2 c3 c4 c5 c6 c7 c8 c9 ⊢
 have p0:w1.cell? ⟨w.heap.size,0,none⟩=some (.slice p.q p.L.length p.c):=aA X1.o (i:=0) rfl
 rw [HQ.o] at p0
 go_upto_region 2 with fail
 have BA:wBl w1 (w1.alloc (.cells #[.int .i64 i.op,.int .i64 i.x,.int .i64 i.y,.int .i64 i.n,.int .i64 i.mn,.int .i64 i.mx,.int .u64 (aB i.s 0),.int .u64 (aB i.s 1),.int .u64 (aB i.s 2),.int .u64 (aB i.s 3)] 47)):=bz9
 have X2:=aD ((BA.block _ (aC X1.o)).trans X1.o)
 have I2:Hid ((w1.alloc (.cells #[.int .i64 i.op,.int .i64 i.x,.int .i64 i.y,.int .i64 i.n,.int .i64 i.mn,.int .i64 i.mx,.int .u64 (aB i.s 0),.int .u64 (aB i.s 1),.int .u64 (aB i.s 2),.int .u64 (aB i.s 3)] 47)).heap[w1.heap.size]?=some (.cells #[.int .i64 i.op,.int .i64 i.x,.int .i64 i.y,.int .i64 i.n,.int .i64 i.mn,.int .i64 i.mx,.int .u64 (aB i.s 0),.int .u64 (aB i.s 1),.int .u64 (aB i.s 2),.int .u64 (aB i.s 3)] 47 (0,0))):=aE w1 _
 have B2:=aD (aF B1.o BA lz9)
 clear BA c0 c1 c2 c3 c4 c5 c6 c7 c8 c9 p0
 generalize (w1.alloc (.cells #[.int .i64 i.op,.int .i64 i.x,.int .i64 i.y,.int .i64 i.n,.int .i64 i.mn,.int .i64 i.mx,.int .u64 (aB i.s 0),.int .u64 (aB i.s 1),.int .u64 (aB i.s 2),.int .u64 (aB i.s 3)] 47))=w2 at X2 I2 B2 ⊢
 obtain⟨ib,hib⟩:∃ ib,w1.heap.size=ib:=⟨_,rfl⟩
 rw [hib] at I2 ⊢
 clear hib
 have d0:w2.cell? ⟨ib,0,none⟩=some (.int .i64 i.op):=aA I2.o (i:=0) rfl
 go_upto_region 3 with (go_at_call 42;(with_reducible refine(OF.o _).mono ?_);rintro e w3 ⟨rfl,h3⟩;have X3:=aD ((h3.block _ (aC X2.o)).trans X2.o);have I3:=aD ((h3.block _ (aC I2.o)).trans I2.o);have B3:=aD (aF B2.o h3 lz9);clear h3)
 have BA:wBl w3 (w3.alloc (.cells #[.bool false,.bool false,.bool false,.bool false,.bool false,.bool false] 84)):=bz9
 have X4:=aD ((BA.block _ (aC X3.o)).trans X3.o)
 have I4:=aD ((BA.block _ (aC I3.o)).trans I3.o)
 have U4:Hid ((w3.alloc (.cells #[.bool false,.bool false,.bool false,.bool false,.bool false,.bool false] 84)).heap[w3.heap.size]?=some (.cells #[.bool false,.bool false,.bool false,.bool false,.bool false,.bool false] 84 (0,0))):=aE w3 _
 have B4:=aD (aF B3.o BA lz9)
 clear BA X3 I3 B3 X2 I2 B2
 generalize (w3.alloc (.cells #[.bool false,.bool false,.bool false,.bool false,.bool false,.bool false] 84))=w4 at X4 I4 U4 B4 ⊢
 obtain⟨ub,hub⟩:∃ ub,w3.heap.size=ub:=⟨_,rfl⟩
 rw [hub] at U4 ⊢
 clear hub
 have p0:w4.cell? ⟨w.heap.size,0,none⟩=some (.slice p.q p.L.length p.c):=aA X4.o (i:=0) rfl
 have p1:w4.cell? ⟨w.heap.size,1,none⟩=some (.int .i64 p.g):=aA X4.o (i:=1) rfl
 have p2:w4.cell? ⟨w.heap.size,2,none⟩=some (.int .i64 p.k):=aA X4.o (i:=2) rfl
 have d0:w4.cell? ⟨ib,0,none⟩=some (.int .i64 i.op):=aA I4.o (i:=0) rfl
 have d1:w4.cell? ⟨ib,1,none⟩=some (.int .i64 i.x):=aA I4.o (i:=1) rfl
 have d2:w4.cell? ⟨ib,2,none⟩=some (.int .i64 i.y):=aA I4.o (i:=2) rfl
 have d3:w4.cell? ⟨ib,3,none⟩=some (.int .i64 i.n):=aA I4.o (i:=3) rfl
 have d4:w4.cell? ⟨ib,4,none⟩=some (.int .i64 i.mn):=aA I4.o (i:=4) rfl
 have d5:w4.cell? ⟨ib,5,none⟩=some (.int .i64 i.mx):=aA I4.o (i:=5) rfl
 have d6:w4.cell? ⟨ib,6,none⟩=some (.int .u64 (aB i.s 0)):=aA I4.o (i:=6) rfl
 have d7:w4.cell? ⟨ib,7,none⟩=some (.int .u64 (aB i.s 1)):=aA I4.o (i:=7) rfl
 have d8:w4.cell? ⟨ib,8,none⟩=some (.int .u64 (aB i.s 2)):=aA I4.o (i:=8) rfl
 have d9:w4.cell? ⟨ib,9,none⟩=some (.int .u64 (aB i.s 3)):=aA I4.o (i:=9) rfl
 have u0:w4.cell? ⟨ub,0,none⟩=some (.bool false):=aA U4.o (i:=0) rfl
 have u1:w4.cell? ⟨ub,1,none⟩=some (.bool false):=aA U4.o (i:=1) rfl
 have u2:w4.cell? ⟨ub,2,none⟩=some (.bool false):=aA U4.o (i:=2) rfl
 have u3:w4.cell? ⟨ub,3,none⟩=some (.bool false):=aA U4.o (i:=3) rfl
 have u4:w4.cell? ⟨ub,4,none⟩=some (.bool false):=aA U4.o (i:=4) rfl
 have u5:w4.cell? ⟨ub,5,none⟩=some (.bool false):=aA U4.o (i:=5) rfl
 have hs0:=Hs0.o
 go_wp2
 go_ret
 exact⟨rfl,B4.o⟩
theorem jT{w:World}{p:Pg}(h:PgI w p){k:Nat}{i:Ins}(hi:p.L[k]?=some i)(hk:p.L.length<=40000)(ho:i.op=11)(hs0:i.s=0#256)(hx0:0<=i.x)(hy0:0<=i.y)(hxz:i.x=0)(hyz:i.y=0)(hnz:i.n=0)(hmnz:i.mn=0)(hmxz:¬ (i.mx=0)):Calls Try.prog 31 #[.agg #[.slice p.q p.L.length p.c,.int .i64 p.g,.int .i64 p.k,.bool p.f],.int .i64 (k:Int)] w fun e w'=>e=.returned (.bool (false))/\wBl w w':=by
 have B1:Hid (wBl w (w.alloc (.cells #[.slice p.q p.L.length p.c,.int .i64 p.g,.int .i64 p.k,.bool p.f] 24))):=bz9
 have X1:Hid ((w.alloc (.cells #[.slice p.q p.L.length p.c,.int .i64 p.g,.int .i64 p.k,.bool p.f] 24)).heap[w.heap.size]?=some (.cells #[.slice p.q p.L.length p.c,.int .i64 p.g,.int .i64 p.k,.bool p.f] 24 (0,0))):=aE w _
 obtain⟨g1,o1,hq1,hl1,c0,c1,c2,c3,c4,c5,c6,c7,c8,c9⟩:=(h.li.kept B1.o).ten hi
 have hkl:=(f7.1 hi).1
 have k0:(0:Int)<=(k:Int):=by omega
 have k1:(k:Int)<(p.L.length:Int):=by omega
 have OF:=aD (aI i.op)
 have hu:usA i.op=[false,false,false,false,false,false]:=by rw [ho];rfl
 have hiso:isO i.op=true:=by rw [ho];rfl
 rw [hu,hiso] at OF
 have OF:Hid (∀ w,Calls Try.prog 42 #[.int .i64 i.op] w fun e w'=>e=.returned (.tuple #[.agg #[.bool false,.bool false,.bool false,.bool false,.bool false,.bool false],.bool true])/\wBl w w'):=OF
 have o9:(i.op==9)=false:=by rw [ho];rfl
 have o10:(i.op==10)=false:=by rw [ho];rfl
 have wl:IntKind.wrap .i64 ((p.L.length:Int)-1)=(p.L.length:Int)-1:=by rw [IntKind.wrap_i64];omega
 have exz:(i.x==0)=true:=by rw [beq_iff_eq];exact hxz
 have fxz:(i.x != 0)=false:=by simp [hxz]
 clear hxz
 have eyz:(i.y==0)=true:=by rw [beq_iff_eq];exact hyz
 have fyz:(i.y != 0)=false:=by simp [hyz]
 clear hyz
 have enz:(i.n==0)=true:=by rw [beq_iff_eq];exact hnz
 have fnz:(i.n != 0)=false:=by simp [hnz]
 clear hnz
 have emnz:(i.mn==0)=true:=by rw [beq_iff_eq];exact hmnz
 have fmnz:(i.mn != 0)=false:=by simp [hmnz]
 clear hmnz
 have emxz:(i.mx==0)=false:=by rw [f8];exact hmxz
 have fmxz:(i.mx != 0)=true:=by simp [hmxz]
 clear hmxz
 have Hs0:=aD hs0
 clear hs0
 clear hu hiso ho
 have HQ:=aD hq1
 clear h hi hq1
 go_enter Try.func31,Try.ntmps31
 go_upto_region 1 with fail
 generalize (w.alloc (.cells #[.slice p.q p.L.length p.c,.int .i64 p.g,.int .i64 p.k,.bool p.f] 24))=w1 at B1 X1 c0 c1 c2 c3 c4 c5 c6 c7 c8 c9 ⊢
 have p0:w1.cell? ⟨w.heap.size,0,none⟩=some (.slice p.q p.L.length p.c):=aA X1.o (i:=0) rfl
 rw [HQ.o] at p0
 go_upto_region 2 with fail
 have BA:wBl w1 (w1.alloc (.cells #[.int .i64 i.op,.int .i64 i.x,.int .i64 i.y,.int .i64 i.n,.int .i64 i.mn,.int .i64 i.mx,.int .u64 (aB i.s 0),.int .u64 (aB i.s 1),.int .u64 (aB i.s 2),.int .u64 (aB i.s 3)] 47)):=bz9
 have X2:=aD ((BA.block _ (aC X1.o)).trans X1.o)
 have I2:Hid ((w1.alloc (.cells #[.int .i64 i.op,.int .i64 i.x,.int .i64 i.y,.int .i64 i.n,.int .i64 i.mn,.int .i64 i.mx,.int .u64 (aB i.s 0),.int .u64 (aB i.s 1),.int .u64 (aB i.s 2),.int .u64 (aB i.s 3)] 47)).heap[w1.heap.size]?=some (.cells #[.int .i64 i.op,.int .i64 i.x,.int .i64 i.y,.int .i64 i.n,.int .i64 i.mn,.int .i64 i.mx,.int .u64 (aB i.s 0),.int .u64 (aB i.s 1),.int .u64 (aB i.s 2),.int .u64 (aB i.s 3)] 47 (0,0))):=aE w1 _
 have B2:=aD (aF B1.o BA lz9)
 clear BA c0 c1 c2 c3 c4 c5 c6 c7 c8 c9 p0
 generalize (w1.alloc (.cells #[.int .i64 i.op,.int .i64 i.x,.int .i64 i.y,.int .i64 i.n,.int .i64 i.mn,.int .i64 i.mx,.int .u64 (aB i.s 0),.int .u64 (aB i.s 1),.int .u64 (aB i.s 2),.int .u64 (aB i.s 3)] 47))=w2 at X2 I2 B2 ⊢
 obtain⟨ib,hib⟩:∃ ib,w1.heap.size=ib:=⟨_,rfl⟩
 rw [hib] at I2 ⊢
 clear hib
 have d0:w2.cell? ⟨ib,0,none⟩=some (.int .i64 i.op):=aA I2.o (i:=0) rfl
 go_upto_region 3 with (go_at_call 42;(with_reducible refine(OF.o _).mono ?_);rintro e w3 ⟨rfl,h3⟩;have X3:=aD ((h3.block _ (aC X2.o)).trans X2.o);have I3:=aD ((h3.block _ (aC I2.o)).trans I2.o);have B3:=aD (aF B2.o h3 lz9);clear h3)
 have BA:wBl w3 (w3.alloc (.cells #[.bool false,.bool false,.bool false,.bool false,.bool false,.bool false] 84)):=bz9
 have X4:=aD ((BA.block _ (aC X3.o)).trans X3.o)
 have I4:=aD ((BA.block _ (aC I3.o)).trans I3.o)
 have U4:Hid ((w3.alloc (.cells #[.bool false,.bool false,.bool false,.bool false,.bool false,.bool false] 84)).heap[w3.heap.size]?=some (.cells #[.bool false,.bool false,.bool false,.bool false,.bool false,.bool false] 84 (0,0))):=aE w3 _
 have B4:=aD (aF B3.o BA lz9)
 clear BA X3 I3 B3 X2 I2 B2
 generalize (w3.alloc (.cells #[.bool false,.bool false,.bool false,.bool false,.bool false,.bool false] 84))=w4 at X4 I4 U4 B4 ⊢
 obtain⟨ub,hub⟩:∃ ub,w3.heap.size=ub:=⟨_,rfl⟩
 rw [hub] at U4 ⊢
 clear hub
 have p0:w4.cell? ⟨w.heap.size,0,none⟩=some (.slice p.q p.L.length p.c):=aA X4.o (i:=0) rfl
 have p1:w4.cell? ⟨w.heap.size,1,none⟩=some (.int .i64 p.g):=aA X4.o (i:=1) rfl
 have p2:w4.cell? ⟨w.heap.size,2,none⟩=some (.int .i64 p.k):=aA X4.o (i:=2) rfl
 have d0:w4.cell? ⟨ib,0,none⟩=some (.int .i64 i.op):=aA I4.o (i:=0) rfl
 have d1:w4.cell? ⟨ib,1,none⟩=some (.int .i64 i.x):=aA I4.o (i:=1) rfl
 have d2:w4.cell? ⟨ib,2,none⟩=some (.int .i64 i.y):=aA I4.o (i:=2) rfl
 have d3:w4.cell? ⟨ib,3,none⟩=some (.int .i64 i.n):=aA I4.o (i:=3) rfl
 have d4:w4.cell? ⟨ib,4,none⟩=some (.int .i64 i.mn):=aA I4.o (i:=4) rfl
 have d5:w4.cell? ⟨ib,5,none⟩=some (.int .i64 i.mx):=aA I4.o (i:=5) rfl
 have d6:w4.cell? ⟨ib,6,none⟩=some (.int .u64 (aB i.s 0)):=aA I4.o (i:=6) rfl
 have d7:w4.cell? ⟨ib,7,none⟩=some (.int .u64 (aB i.s 1)):=aA I4.o (i:=7) rfl
 have d8:w4.cell? ⟨ib,8,none⟩=some (.int .u64 (aB i.s 2)):=aA I4.o (i:=8) rfl
 have d9:w4.cell? ⟨ib,9,none⟩=some (.int .u64 (aB i.s 3)):=aA I4.o (i:=9) rfl
 have u0:w4.cell? ⟨ub,0,none⟩=some (.bool false):=aA U4.o (i:=0) rfl
 have u1:w4.cell? ⟨ub,1,none⟩=some (.bool false):=aA U4.o (i:=1) rfl
 have u2:w4.cell? ⟨ub,2,none⟩=some (.bool false):=aA U4.o (i:=2) rfl
 have u3:w4.cell? ⟨ub,3,none⟩=some (.bool false):=aA U4.o (i:=3) rfl
 have u4:w4.cell? ⟨ub,4,none⟩=some (.bool false):=aA U4.o (i:=4) rfl
 have u5:w4.cell? ⟨ub,5,none⟩=some (.bool false):=aA U4.o (i:=5) rfl
 have hs0:=Hs0.o
 go_wp2
 go_ret
 exact⟨rfl,B4.o⟩
theorem jS{w:World}{p:Pg}(h:PgI w p){k:Nat}{i:Ins}(hi:p.L[k]?=some i)(hk:p.L.length<=40000)(ho:i.op=11)(hs0:i.s=0#256)(hx0:0<=i.x)(hy0:0<=i.y)(hxz:i.x=0)(hyz:i.y=0)(hnz:i.n=0)(hmnz:¬ (i.mn=0)):Calls Try.prog 31 #[.agg #[.slice p.q p.L.length p.c,.int .i64 p.g,.int .i64 p.k,.bool p.f],.int .i64 (k:Int)] w fun e w'=>e=.returned (.bool (false))/\wBl w w':=by
 have B1:Hid (wBl w (w.alloc (.cells #[.slice p.q p.L.length p.c,.int .i64 p.g,.int .i64 p.k,.bool p.f] 24))):=bz9
 have X1:Hid ((w.alloc (.cells #[.slice p.q p.L.length p.c,.int .i64 p.g,.int .i64 p.k,.bool p.f] 24)).heap[w.heap.size]?=some (.cells #[.slice p.q p.L.length p.c,.int .i64 p.g,.int .i64 p.k,.bool p.f] 24 (0,0))):=aE w _
 obtain⟨g1,o1,hq1,hl1,c0,c1,c2,c3,c4,c5,c6,c7,c8,c9⟩:=(h.li.kept B1.o).ten hi
 have hkl:=(f7.1 hi).1
 have k0:(0:Int)<=(k:Int):=by omega
 have k1:(k:Int)<(p.L.length:Int):=by omega
 have OF:=aD (aI i.op)
 have hu:usA i.op=[false,false,false,false,false,false]:=by rw [ho];rfl
 have hiso:isO i.op=true:=by rw [ho];rfl
 rw [hu,hiso] at OF
 have OF:Hid (∀ w,Calls Try.prog 42 #[.int .i64 i.op] w fun e w'=>e=.returned (.tuple #[.agg #[.bool false,.bool false,.bool false,.bool false,.bool false,.bool false],.bool true])/\wBl w w'):=OF
 have o9:(i.op==9)=false:=by rw [ho];rfl
 have o10:(i.op==10)=false:=by rw [ho];rfl
 have wl:IntKind.wrap .i64 ((p.L.length:Int)-1)=(p.L.length:Int)-1:=by rw [IntKind.wrap_i64];omega
 have exz:(i.x==0)=true:=by rw [beq_iff_eq];exact hxz
 have fxz:(i.x != 0)=false:=by simp [hxz]
 clear hxz
 have eyz:(i.y==0)=true:=by rw [beq_iff_eq];exact hyz
 have fyz:(i.y != 0)=false:=by simp [hyz]
 clear hyz
 have enz:(i.n==0)=true:=by rw [beq_iff_eq];exact hnz
 have fnz:(i.n != 0)=false:=by simp [hnz]
 clear hnz
 have emnz:(i.mn==0)=false:=by rw [f8];exact hmnz
 have fmnz:(i.mn != 0)=true:=by simp [hmnz]
 clear hmnz
 have Hs0:=aD hs0
 clear hs0
 clear hu hiso ho
 have HQ:=aD hq1
 clear h hi hq1
 go_enter Try.func31,Try.ntmps31
 go_upto_region 1 with fail
 generalize (w.alloc (.cells #[.slice p.q p.L.length p.c,.int .i64 p.g,.int .i64 p.k,.bool p.f] 24))=w1 at B1 X1 c0 c1 c2 c3 c4 c5 c6 c7 c8 c9 ⊢
 have p0:w1.cell? ⟨w.heap.size,0,none⟩=some (.slice p.q p.L.length p.c):=aA X1.o (i:=0) rfl
 rw [HQ.o] at p0
 go_upto_region 2 with fail
 have BA:wBl w1 (w1.alloc (.cells #[.int .i64 i.op,.int .i64 i.x,.int .i64 i.y,.int .i64 i.n,.int .i64 i.mn,.int .i64 i.mx,.int .u64 (aB i.s 0),.int .u64 (aB i.s 1),.int .u64 (aB i.s 2),.int .u64 (aB i.s 3)] 47)):=bz9
 have X2:=aD ((BA.block _ (aC X1.o)).trans X1.o)
 have I2:Hid ((w1.alloc (.cells #[.int .i64 i.op,.int .i64 i.x,.int .i64 i.y,.int .i64 i.n,.int .i64 i.mn,.int .i64 i.mx,.int .u64 (aB i.s 0),.int .u64 (aB i.s 1),.int .u64 (aB i.s 2),.int .u64 (aB i.s 3)] 47)).heap[w1.heap.size]?=some (.cells #[.int .i64 i.op,.int .i64 i.x,.int .i64 i.y,.int .i64 i.n,.int .i64 i.mn,.int .i64 i.mx,.int .u64 (aB i.s 0),.int .u64 (aB i.s 1),.int .u64 (aB i.s 2),.int .u64 (aB i.s 3)] 47 (0,0))):=aE w1 _
 have B2:=aD (aF B1.o BA lz9)
 clear BA c0 c1 c2 c3 c4 c5 c6 c7 c8 c9 p0
 generalize (w1.alloc (.cells #[.int .i64 i.op,.int .i64 i.x,.int .i64 i.y,.int .i64 i.n,.int .i64 i.mn,.int .i64 i.mx,.int .u64 (aB i.s 0),.int .u64 (aB i.s 1),.int .u64 (aB i.s 2),.int .u64 (aB i.s 3)] 47))=w2 at X2 I2 B2 ⊢
 obtain⟨ib,hib⟩:∃ ib,w1.heap.size=ib:=⟨_,rfl⟩
 rw [hib] at I2 ⊢
 clear hib
 have d0:w2.cell? ⟨ib,0,none⟩=some (.int .i64 i.op):=aA I2.o (i:=0) rfl
 go_upto_region 3 with (go_at_call 42;(with_reducible refine(OF.o _).mono ?_);rintro e w3 ⟨rfl,h3⟩;have X3:=aD ((h3.block _ (aC X2.o)).trans X2.o);have I3:=aD ((h3.block _ (aC I2.o)).trans I2.o);have B3:=aD (aF B2.o h3 lz9);clear h3)
 have BA:wBl w3 (w3.alloc (.cells #[.bool false,.bool false,.bool false,.bool false,.bool false,.bool false] 84)):=bz9
 have X4:=aD ((BA.block _ (aC X3.o)).trans X3.o)
 have I4:=aD ((BA.block _ (aC I3.o)).trans I3.o)
 have U4:Hid ((w3.alloc (.cells #[.bool false,.bool false,.bool false,.bool false,.bool false,.bool false] 84)).heap[w3.heap.size]?=some (.cells #[.bool false,.bool false,.bool false,.bool false,.bool false,.bool false] 84 (0,0))):=aE w3 _
 have B4:=aD (aF B3.o BA lz9)
 clear BA X3 I3 B3 X2 I2 B2
 generalize (w3.alloc (.cells #[.bool false,.bool false,.bool false,.bool false,.bool false,.bool false] 84))=w4 at X4 I4 U4 B4 ⊢
 obtain⟨ub,hub⟩:∃ ub,w3.heap.size=ub:=⟨_,rfl⟩
 rw [hub] at U4 ⊢
 clear hub
 have p0:w4.cell? ⟨w.heap.size,0,none⟩=some (.slice p.q p.L.length p.c):=aA X4.o (i:=0) rfl
 have p1:w4.cell? ⟨w.heap.size,1,none⟩=some (.int .i64 p.g):=aA X4.o (i:=1) rfl
 have p2:w4.cell? ⟨w.heap.size,2,none⟩=some (.int .i64 p.k):=aA X4.o (i:=2) rfl
 have d0:w4.cell? ⟨ib,0,none⟩=some (.int .i64 i.op):=aA I4.o (i:=0) rfl
 have d1:w4.cell? ⟨ib,1,none⟩=some (.int .i64 i.x):=aA I4.o (i:=1) rfl
 have d2:w4.cell? ⟨ib,2,none⟩=some (.int .i64 i.y):=aA I4.o (i:=2) rfl
 have d3:w4.cell? ⟨ib,3,none⟩=some (.int .i64 i.n):=aA I4.o (i:=3) rfl
 have d4:w4.cell? ⟨ib,4,none⟩=some (.int .i64 i.mn):=aA I4.o (i:=4) rfl
 have d5:w4.cell? ⟨ib,5,none⟩=some (.int .i64 i.mx):=aA I4.o (i:=5) rfl
 have d6:w4.cell? ⟨ib,6,none⟩=some (.int .u64 (aB i.s 0)):=aA I4.o (i:=6) rfl
 have d7:w4.cell? ⟨ib,7,none⟩=some (.int .u64 (aB i.s 1)):=aA I4.o (i:=7) rfl
 have d8:w4.cell? ⟨ib,8,none⟩=some (.int .u64 (aB i.s 2)):=aA I4.o (i:=8) rfl
 have d9:w4.cell? ⟨ib,9,none⟩=some (.int .u64 (aB i.s 3)):=aA I4.o (i:=9) rfl
 have u0:w4.cell? ⟨ub,0,none⟩=some (.bool false):=aA U4.o (i:=0) rfl
 have u1:w4.cell? ⟨ub,1,none⟩=some (.bool false):=aA U4.o (i:=1) rfl
 have u2:w4.cell? ⟨ub,2,none⟩=some (.bool false):=aA U4.o (i:=2) rfl
 have u3:w4.cell? ⟨ub,3,none⟩=some (.bool false):=aA U4.o (i:=3) rfl
 have u4:w4.cell? ⟨ub,4,none⟩=some (.bool false):=aA U4.o (i:=4) rfl
 have u5:w4.cell? ⟨ub,5,none⟩=some (.bool false):=aA U4.o (i:=5) rfl
 have hs0:=Hs0.o
 go_wp2
 go_ret
 exact⟨rfl,B4.o⟩
theorem jR{w:World}{p:Pg}(h:PgI w p){k:Nat}{i:Ins}(hi:p.L[k]?=some i)(hk:p.L.length<=40000)(ho:i.op=11)(hs0:i.s=0#256)(hx0:0<=i.x)(hy0:0<=i.y)(hxz:i.x=0)(hyz:i.y=0)(hnz:¬ (i.n=0)):Calls Try.prog 31 #[.agg #[.slice p.q p.L.length p.c,.int .i64 p.g,.int .i64 p.k,.bool p.f],.int .i64 (k:Int)] w fun e w'=>e=.returned (.bool (false))/\wBl w w':=by
 have B1:Hid (wBl w (w.alloc (.cells #[.slice p.q p.L.length p.c,.int .i64 p.g,.int .i64 p.k,.bool p.f] 24))):=bz9
 have X1:Hid ((w.alloc (.cells #[.slice p.q p.L.length p.c,.int .i64 p.g,.int .i64 p.k,.bool p.f] 24)).heap[w.heap.size]?=some (.cells #[.slice p.q p.L.length p.c,.int .i64 p.g,.int .i64 p.k,.bool p.f] 24 (0,0))):=aE w _
 obtain⟨g1,o1,hq1,hl1,c0,c1,c2,c3,c4,c5,c6,c7,c8,c9⟩:=(h.li.kept B1.o).ten hi
 have hkl:=(f7.1 hi).1
 have k0:(0:Int)<=(k:Int):=by omega
 have k1:(k:Int)<(p.L.length:Int):=by omega
 have OF:=aD (aI i.op)
 have hu:usA i.op=[false,false,false,false,false,false]:=by rw [ho];rfl
 have hiso:isO i.op=true:=by rw [ho];rfl
 rw [hu,hiso] at OF
 have OF:Hid (∀ w,Calls Try.prog 42 #[.int .i64 i.op] w fun e w'=>e=.returned (.tuple #[.agg #[.bool false,.bool false,.bool false,.bool false,.bool false,.bool false],.bool true])/\wBl w w'):=OF
 have o9:(i.op==9)=false:=by rw [ho];rfl
 have o10:(i.op==10)=false:=by rw [ho];rfl
 have wl:IntKind.wrap .i64 ((p.L.length:Int)-1)=(p.L.length:Int)-1:=by rw [IntKind.wrap_i64];omega
 have exz:(i.x==0)=true:=by rw [beq_iff_eq];exact hxz
 have fxz:(i.x != 0)=false:=by simp [hxz]
 clear hxz
 have eyz:(i.y==0)=true:=by rw [beq_iff_eq];exact hyz
 have fyz:(i.y != 0)=false:=by simp [hyz]
 clear hyz
 have enz:(i.n==0)=false:=by rw [f8];exact hnz
 have fnz:(i.n != 0)=true:=by simp [hnz]
 clear hnz
 have Hs0:=aD hs0
 clear hs0
 clear hu hiso ho
 have HQ:=aD hq1
 clear h hi hq1
 go_enter Try.func31,Try.ntmps31
 go_upto_region 1 with fail
 generalize (w.alloc (.cells #[.slice p.q p.L.length p.c,.int .i64 p.g,.int .i64 p.k,.bool p.f] 24))=w1 at B1 X1 c0 c1 c2 c3 c4 c5 c6 c7 c8 c9 ⊢
 have p0:w1.cell? ⟨w.heap.size,0,none⟩=some (.slice p.q p.L.length p.c):=aA X1.o (i:=0) rfl
 rw [HQ.o] at p0
 go_upto_region 2 with fail
 have BA:wBl w1 (w1.alloc (.cells #[.int .i64 i.op,.int .i64 i.x,.int .i64 i.y,.int .i64 i.n,.int .i64 i.mn,.int .i64 i.mx,.int .u64 (aB i.s 0),.int .u64 (aB i.s 1),.int .u64 (aB i.s 2),.int .u64 (aB i.s 3)] 47)):=bz9
 have X2:=aD ((BA.block _ (aC X1.o)).trans X1.o)
 have I2:Hid ((w1.alloc (.cells #[.int .i64 i.op,.int .i64 i.x,.int .i64 i.y,.int .i64 i.n,.int .i64 i.mn,.int .i64 i.mx,.int .u64 (aB i.s 0),.int .u64 (aB i.s 1),.int .u64 (aB i.s 2),.int .u64 (aB i.s 3)] 47)).heap[w1.heap.size]?=some (.cells #[.int .i64 i.op,.int .i64 i.x,.int .i64 i.y,.int .i64 i.n,.int .i64 i.mn,.int .i64 i.mx,.int .u64 (aB i.s 0),.int .u64 (aB i.s 1),.int .u64 (aB i.s 2),.int .u64 (aB i.s 3)] 47 (0,0))):=aE w1 _
 have B2:=aD (aF B1.o BA lz9)
 clear BA c0 c1 c2 c3 c4 c5 c6 c7 c8 c9 p0
 generalize (w1.alloc (.cells #[.int .i64 i.op,.int .i64 i.x,.int .i64 i.y,.int .i64 i.n,.int .i64 i.mn,.int .i64 i.mx,.int .u64 (aB i.s 0),.int .u64 (aB i.s 1),.int .u64 (aB i.s 2),.int .u64 (aB i.s 3)] 47))=w2 at X2 I2 B2 ⊢
 obtain⟨ib,hib⟩:∃ ib,w1.heap.size=ib:=⟨_,rfl⟩
 rw [hib] at I2 ⊢
 clear hib
 have d0:w2.cell? ⟨ib,0,none⟩=some (.int .i64 i.op):=aA I2.o (i:=0) rfl
 go_upto_region 3 with (go_at_call 42;(with_reducible refine(OF.o _).mono ?_);rintro e w3 ⟨rfl,h3⟩;have X3:=aD ((h3.block _ (aC X2.o)).trans X2.o);have I3:=aD ((h3.block _ (aC I2.o)).trans I2.o);have B3:=aD (aF B2.o h3 lz9);clear h3)
 have BA:wBl w3 (w3.alloc (.cells #[.bool false,.bool false,.bool false,.bool false,.bool false,.bool false] 84)):=bz9
 have X4:=aD ((BA.block _ (aC X3.o)).trans X3.o)
 have I4:=aD ((BA.block _ (aC I3.o)).trans I3.o)
 have U4:Hid ((w3.alloc (.cells #[.bool false,.bool false,.bool false,.bool false,.bool false,.bool false] 84)).heap[w3.heap.size]?=some (.cells #[.bool false,.bool false,.bool false,.bool false,.bool false,.bool false] 84 (0,0))):=aE w3 _
 have B4:=aD (aF B3.o BA lz9)
 clear BA X3 I3 B3 X2 I2 B2
 generalize (w3.alloc (.cells #[.bool false,.bool false,.bool false,.bool false,.bool false,.bool false] 84))=w4 at X4 I4 U4 B4 ⊢
 obtain⟨ub,hub⟩:∃ ub,w3.heap.size=ub:=⟨_,rfl⟩
 rw [hub] at U4 ⊢
 clear hub
 have p0:w4.cell? ⟨w.heap.size,0,none⟩=some (.slice p.q p.L.length p.c):=aA X4.o (i:=0) rfl
 have p1:w4.cell? ⟨w.heap.size,1,none⟩=some (.int .i64 p.g):=aA X4.o (i:=1) rfl
 have p2:w4.cell? ⟨w.heap.size,2,none⟩=some (.int .i64 p.k):=aA X4.o (i:=2) rfl
 have d0:w4.cell? ⟨ib,0,none⟩=some (.int .i64 i.op):=aA I4.o (i:=0) rfl
 have d1:w4.cell? ⟨ib,1,none⟩=some (.int .i64 i.x):=aA I4.o (i:=1) rfl
 have d2:w4.cell? ⟨ib,2,none⟩=some (.int .i64 i.y):=aA I4.o (i:=2) rfl
 have d3:w4.cell? ⟨ib,3,none⟩=some (.int .i64 i.n):=aA I4.o (i:=3) rfl
 have d4:w4.cell? ⟨ib,4,none⟩=some (.int .i64 i.mn):=aA I4.o (i:=4) rfl
 have d5:w4.cell? ⟨ib,5,none⟩=some (.int .i64 i.mx):=aA I4.o (i:=5) rfl
 have d6:w4.cell? ⟨ib,6,none⟩=some (.int .u64 (aB i.s 0)):=aA I4.o (i:=6) rfl
 have d7:w4.cell? ⟨ib,7,none⟩=some (.int .u64 (aB i.s 1)):=aA I4.o (i:=7) rfl
 have d8:w4.cell? ⟨ib,8,none⟩=some (.int .u64 (aB i.s 2)):=aA I4.o (i:=8) rfl
 have d9:w4.cell? ⟨ib,9,none⟩=some (.int .u64 (aB i.s 3)):=aA I4.o (i:=9) rfl
 have u0:w4.cell? ⟨ub,0,none⟩=some (.bool false):=aA U4.o (i:=0) rfl
 have u1:w4.cell? ⟨ub,1,none⟩=some (.bool false):=aA U4.o (i:=1) rfl
 have u2:w4.cell? ⟨ub,2,none⟩=some (.bool false):=aA U4.o (i:=2) rfl
 have u3:w4.cell? ⟨ub,3,none⟩=some (.bool false):=aA U4.o (i:=3) rfl
 have u4:w4.cell? ⟨ub,4,none⟩=some (.bool false):=aA U4.o (i:=4) rfl
 have u5:w4.cell? ⟨ub,5,none⟩=some (.bool false):=aA U4.o (i:=5) rfl
 have hs0:=Hs0.o
 go_wp2
 go_ret
 exact⟨rfl,B4.o⟩
theorem jQ{w:World}{p:Pg}(h:PgI w p){k:Nat}{i:Ins}(hi:p.L[k]?=some i)(hk:p.L.length<=40000)(ho:i.op=11)(hs0:i.s=0#256)(hx0:0<=i.x)(hy0:0<=i.y)(hxz:i.x=0)(hyz:¬ (i.y=0)):Calls Try.prog 31 #[.agg #[.slice p.q p.L.length p.c,.int .i64 p.g,.int .i64 p.k,.bool p.f],.int .i64 (k:Int)] w fun e w'=>e=.returned (.bool (false))/\wBl w w':=by
 have B1:Hid (wBl w (w.alloc (.cells #[.slice p.q p.L.length p.c,.int .i64 p.g,.int .i64 p.k,.bool p.f] 24))):=bz9
 have X1:Hid ((w.alloc (.cells #[.slice p.q p.L.length p.c,.int .i64 p.g,.int .i64 p.k,.bool p.f] 24)).heap[w.heap.size]?=some (.cells #[.slice p.q p.L.length p.c,.int .i64 p.g,.int .i64 p.k,.bool p.f] 24 (0,0))):=aE w _
 obtain⟨g1,o1,hq1,hl1,c0,c1,c2,c3,c4,c5,c6,c7,c8,c9⟩:=(h.li.kept B1.o).ten hi
 have hkl:=(f7.1 hi).1
 have k0:(0:Int)<=(k:Int):=by omega
 have k1:(k:Int)<(p.L.length:Int):=by omega
 have OF:=aD (aI i.op)
 have hu:usA i.op=[false,false,false,false,false,false]:=by rw [ho];rfl
 have hiso:isO i.op=true:=by rw [ho];rfl
 rw [hu,hiso] at OF
 have OF:Hid (∀ w,Calls Try.prog 42 #[.int .i64 i.op] w fun e w'=>e=.returned (.tuple #[.agg #[.bool false,.bool false,.bool false,.bool false,.bool false,.bool false],.bool true])/\wBl w w'):=OF
 have o9:(i.op==9)=false:=by rw [ho];rfl
 have o10:(i.op==10)=false:=by rw [ho];rfl
 have wl:IntKind.wrap .i64 ((p.L.length:Int)-1)=(p.L.length:Int)-1:=by rw [IntKind.wrap_i64];omega
 have exz:(i.x==0)=true:=by rw [beq_iff_eq];exact hxz
 have fxz:(i.x != 0)=false:=by simp [hxz]
 clear hxz
 have eyz:(i.y==0)=false:=by rw [f8];exact hyz
 have fyz:(i.y != 0)=true:=by simp [hyz]
 clear hyz
 have Hs0:=aD hs0
 clear hs0
 clear hu hiso ho
 have HQ:=aD hq1
 clear h hi hq1
 go_enter Try.func31,Try.ntmps31
 go_upto_region 1 with fail
 generalize (w.alloc (.cells #[.slice p.q p.L.length p.c,.int .i64 p.g,.int .i64 p.k,.bool p.f] 24))=w1 at B1 X1 c0 c1 c2 c3 c4 c5 c6 c7 c8 c9 ⊢
 have p0:w1.cell? ⟨w.heap.size,0,none⟩=some (.slice p.q p.L.length p.c):=aA X1.o (i:=0) rfl
 rw [HQ.o] at p0
 go_upto_region 2 with fail
 have BA:wBl w1 (w1.alloc (.cells #[.int .i64 i.op,.int .i64 i.x,.int .i64 i.y,.int .i64 i.n,.int .i64 i.mn,.int .i64 i.mx,.int .u64 (aB i.s 0),.int .u64 (aB i.s 1),.int .u64 (aB i.s 2),.int .u64 (aB i.s 3)] 47)):=bz9
 have X2:=aD ((BA.block _ (aC X1.o)).trans X1.o)
 have I2:Hid ((w1.alloc (.cells #[.int .i64 i.op,.int .i64 i.x,.int .i64 i.y,.int .i64 i.n,.int .i64 i.mn,.int .i64 i.mx,.int .u64 (aB i.s 0),.int .u64 (aB i.s 1),.int .u64 (aB i.s 2),.int .u64 (aB i.s 3)] 47)).heap[w1.heap.size]?=some (.cells #[.int .i64 i.op,.int .i64 i.x,.int .i64 i.y,.int .i64 i.n,.int .i64 i.mn,.int .i64 i.mx,.int .u64 (aB i.s 0),.int .u64 (aB i.s 1),.int .u64 (aB i.s 2),.int .u64 (aB i.s 3)] 47 (0,0))):=aE w1 _
 have B2:=aD (aF B1.o BA lz9)
 clear BA c0 c1 c2 c3 c4 c5 c6 c7 c8 c9 p0
 generalize (w1.alloc (.cells #[.int .i64 i.op,.int .i64 i.x,.int .i64 i.y,.int .i64 i.n,.int .i64 i.mn,.int .i64 i.mx,.int .u64 (aB i.s 0),.int .u64 (aB i.s 1),.int .u64 (aB i.s 2),.int .u64 (aB i.s 3)] 47))=w2 at X2 I2 B2 ⊢
 obtain⟨ib,hib⟩:∃ ib,w1.heap.size=ib:=⟨_,rfl⟩
 rw [hib] at I2 ⊢
 clear hib
 have d0:w2.cell? ⟨ib,0,none⟩=some (.int .i64 i.op):=aA I2.o (i:=0) rfl
 go_upto_region 3 with (go_at_call 42;(with_reducible refine(OF.o _).mono ?_);rintro e w3 ⟨rfl,h3⟩;have X3:=aD ((h3.block _ (aC X2.o)).trans X2.o);have I3:=aD ((h3.block _ (aC I2.o)).trans I2.o);have B3:=aD (aF B2.o h3 lz9);clear h3)
 have BA:wBl w3 (w3.alloc (.cells #[.bool false,.bool false,.bool false,.bool false,.bool false,.bool false] 84)):=bz9
 have X4:=aD ((BA.block _ (aC X3.o)).trans X3.o)
 have I4:=aD ((BA.block _ (aC I3.o)).trans I3.o)
 have U4:Hid ((w3.alloc (.cells #[.bool false,.bool false,.bool false,.bool false,.bool false,.bool false] 84)).heap[w3.heap.size]?=some (.cells #[.bool false,.bool false,.bool false,.bool false,.bool false,.bool false] 84 (0,0))):=aE w3 _
 have B4:=aD (aF B3.o BA lz9)
 clear BA X3 I3 B3 X2 I2 B2
 generalize (w3.alloc (.cells #[.bool false,.bool false,.bool false,.bool false,.bool false,.bool false] 84))=w4 at X4 I4 U4 B4 ⊢
 obtain⟨ub,hub⟩:∃ ub,w3.heap.size=ub:=⟨_,rfl⟩
 rw [hub] at U4 ⊢
 clear hub
 have p0:w4.cell? ⟨w.heap.size,0,none⟩=some (.slice p.q p.L.length p.c):=aA X4.o (i:=0) rfl
 have p1:w4.cell? ⟨w.heap.size,1,none⟩=some (.int .i64 p.g):=aA X4.o (i:=1) rfl
 have p2:w4.cell? ⟨w.heap.size,2,none⟩=some (.int .i64 p.k):=aA X4.o (i:=2) rfl
 have d0:w4.cell? ⟨ib,0,none⟩=some (.int .i64 i.op):=aA I4.o (i:=0) rfl
 have d1:w4.cell? ⟨ib,1,none⟩=some (.int .i64 i.x):=aA I4.o (i:=1) rfl
 have d2:w4.cell? ⟨ib,2,none⟩=some (.int .i64 i.y):=aA I4.o (i:=2) rfl
 have d3:w4.cell? ⟨ib,3,none⟩=some (.int .i64 i.n):=aA I4.o (i:=3) rfl
 have d4:w4.cell? ⟨ib,4,none⟩=some (.int .i64 i.mn):=aA I4.o (i:=4) rfl
 have d5:w4.cell? ⟨ib,5,none⟩=some (.int .i64 i.mx):=aA I4.o (i:=5) rfl
 have d6:w4.cell? ⟨ib,6,none⟩=some (.int .u64 (aB i.s 0)):=aA I4.o (i:=6) rfl
 have d7:w4.cell? ⟨ib,7,none⟩=some (.int .u64 (aB i.s 1)):=aA I4.o (i:=7) rfl
 have d8:w4.cell? ⟨ib,8,none⟩=some (.int .u64 (aB i.s 2)):=aA I4.o (i:=8) rfl
 have d9:w4.cell? ⟨ib,9,none⟩=some (.int .u64 (aB i.s 3)):=aA I4.o (i:=9) rfl
 have u0:w4.cell? ⟨ub,0,none⟩=some (.bool false):=aA U4.o (i:=0) rfl
 have u1:w4.cell? ⟨ub,1,none⟩=some (.bool false):=aA U4.o (i:=1) rfl
 have u2:w4.cell? ⟨ub,2,none⟩=some (.bool false):=aA U4.o (i:=2) rfl
 have u3:w4.cell? ⟨ub,3,none⟩=some (.bool false):=aA U4.o (i:=3) rfl
 have u4:w4.cell? ⟨ub,4,none⟩=some (.bool false):=aA U4.o (i:=4) rfl
 have u5:w4.cell? ⟨ub,5,none⟩=some (.bool false):=aA U4.o (i:=5) rfl
 have hs0:=Hs0.o
 go_wp2
 go_ret
 exact⟨rfl,B4.o⟩
theorem jP{w:World}{p:Pg}(h:PgI w p){k:Nat}{i:Ins}(hi:p.L[k]?=some i)(hk:p.L.length<=40000)(ho:i.op=11)(hs0:i.s=0#256)(hx0:0<=i.x)(hy0:0<=i.y)(hxz:¬ (i.x=0)):Calls Try.prog 31 #[.agg #[.slice p.q p.L.length p.c,.int .i64 p.g,.int .i64 p.k,.bool p.f],.int .i64 (k:Int)] w fun e w'=>e=.returned (.bool (false))/\wBl w w':=by
 have B1:Hid (wBl w (w.alloc (.cells #[.slice p.q p.L.length p.c,.int .i64 p.g,.int .i64 p.k,.bool p.f] 24))):=bz9
 have X1:Hid ((w.alloc (.cells #[.slice p.q p.L.length p.c,.int .i64 p.g,.int .i64 p.k,.bool p.f] 24)).heap[w.heap.size]?=some (.cells #[.slice p.q p.L.length p.c,.int .i64 p.g,.int .i64 p.k,.bool p.f] 24 (0,0))):=aE w _
 obtain⟨g1,o1,hq1,hl1,c0,c1,c2,c3,c4,c5,c6,c7,c8,c9⟩:=(h.li.kept B1.o).ten hi
 have hkl:=(f7.1 hi).1
 have k0:(0:Int)<=(k:Int):=by omega
 have k1:(k:Int)<(p.L.length:Int):=by omega
 have OF:=aD (aI i.op)
 have hu:usA i.op=[false,false,false,false,false,false]:=by rw [ho];rfl
 have hiso:isO i.op=true:=by rw [ho];rfl
 rw [hu,hiso] at OF
 have OF:Hid (∀ w,Calls Try.prog 42 #[.int .i64 i.op] w fun e w'=>e=.returned (.tuple #[.agg #[.bool false,.bool false,.bool false,.bool false,.bool false,.bool false],.bool true])/\wBl w w'):=OF
 have o9:(i.op==9)=false:=by rw [ho];rfl
 have o10:(i.op==10)=false:=by rw [ho];rfl
 have wl:IntKind.wrap .i64 ((p.L.length:Int)-1)=(p.L.length:Int)-1:=by rw [IntKind.wrap_i64];omega
 have exz:(i.x==0)=false:=by rw [f8];exact hxz
 have fxz:(i.x != 0)=true:=by simp [hxz]
 clear hxz
 have Hs0:=aD hs0
 clear hs0
 clear hu hiso ho
 have HQ:=aD hq1
 clear h hi hq1
 go_enter Try.func31,Try.ntmps31
 go_upto_region 1 with fail
 generalize (w.alloc (.cells #[.slice p.q p.L.length p.c,.int .i64 p.g,.int .i64 p.k,.bool p.f] 24))=w1 at B1 X1 c0 c1 c2 c3 c4 c5 c6 c7 c8 c9 ⊢
 have p0:w1.cell? ⟨w.heap.size,0,none⟩=some (.slice p.q p.L.length p.c):=aA X1.o (i:=0) rfl
 rw [HQ.o] at p0
 go_upto_region 2 with fail
 have BA:wBl w1 (w1.alloc (.cells #[.int .i64 i.op,.int .i64 i.x,.int .i64 i.y,.int .i64 i.n,.int .i64 i.mn,.int .i64 i.mx,.int .u64 (aB i.s 0),.int .u64 (aB i.s 1),.int .u64 (aB i.s 2),.int .u64 (aB i.s 3)] 47)):=bz9
 have X2:=aD ((BA.block _ (aC X1.o)).trans X1.o)
 have I2:Hid ((w1.alloc (.cells #[.int .i64 i.op,.int .i64 i.x,.int .i64 i.y,.int .i64 i.n,.int .i64 i.mn,.int .i64 i.mx,.int .u64 (aB i.s 0),.int .u64 (aB i.s 1),.int .u64 (aB i.s 2),.int .u64 (aB i.s 3)] 47)).heap[w1.heap.size]?=some (.cells #[.int .i64 i.op,.int .i64 i.x,.int .i64 i.y,.int .i64 i.n,.int .i64 i.mn,.int .i64 i.mx,.int .u64 (aB i.s 0),.int .u64 (aB i.s 1),.int .u64 (aB i.s 2),.int .u64 (aB i.s 3)] 47 (0,0))):=aE w1 _
 have B2:=aD (aF B1.o BA lz9)
 clear BA c0 c1 c2 c3 c4 c5 c6 c7 c8 c9 p0
 generalize (w1.alloc (.cells #[.int .i64 i.op,.int .i64 i.x,.int .i64 i.y,.int .i64 i.n,.int .i64 i.mn,.int .i64 i.mx,.int .u64 (aB i.s 0),.int .u64 (aB i.s 1),.int .u64 (aB i.s 2),.int .u64 (aB i.s 3)] 47))=w2 at X2 I2 B2 ⊢
 obtain⟨ib,hib⟩:∃ ib,w1.heap.size=ib:=⟨_,rfl⟩
 rw [hib] at I2 ⊢
 clear hib
 have d0:w2.cell? ⟨ib,0,none⟩=some (.int .i64 i.op):=aA I2.o (i:=0) rfl
 go_upto_region 3 with (go_at_call 42;(with_reducible refine(OF.o _).mono ?_);rintro e w3 ⟨rfl,h3⟩;have X3:=aD ((h3.block _ (aC X2.o)).trans X2.o);have I3:=aD ((h3.block _ (aC I2.o)).trans I2.o);have B3:=aD (aF B2.o h3 lz9);clear h3)
 have BA:wBl w3 (w3.alloc (.cells #[.bool false,.bool false,.bool false,.bool false,.bool false,.bool false] 84)):=bz9
 have X4:=aD ((BA.block _ (aC X3.o)).trans X3.o)
 have I4:=aD ((BA.block _ (aC I3.o)).trans I3.o)
 have U4:Hid ((w3.alloc (.cells #[.bool false,.bool false,.bool false,.bool false,.bool false,.bool false] 84)).heap[w3.heap.size]?=some (.cells #[.bool false,.bool false,.bool false,.bool false,.bool false,.bool false] 84 (0,0))):=aE w3 _
 have B4:=aD (aF B3.o BA lz9)
 clear BA X3 I3 B3 X2 I2 B2
 generalize (w3.alloc (.cells #[.bool false,.bool false,.bool false,.bool false,.bool false,.bool false] 84))=w4 at X4 I4 U4 B4 ⊢
 obtain⟨ub,hub⟩:∃ ub,w3.heap.size=ub:=⟨_,rfl⟩
 rw [hub] at U4 ⊢
 clear hub
 have p0:w4.cell? ⟨w.heap.size,0,none⟩=some (.slice p.q p.L.length p.c):=aA X4.o (i:=0) rfl
 have p1:w4.cell? ⟨w.heap.size,1,none⟩=some (.int .i64 p.g):=aA X4.o (i:=1) rfl
 have p2:w4.cell? ⟨w.heap.size,2,none⟩=some (.int .i64 p.k):=aA X4.o (i:=2) rfl
 have d0:w4.cell? ⟨ib,0,none⟩=some (.int .i64 i.op):=aA I4.o (i:=0) rfl
 have d1:w4.cell? ⟨ib,1,none⟩=some (.int .i64 i.x):=aA I4.o (i:=1) rfl
 have d2:w4.cell? ⟨ib,2,none⟩=some (.int .i64 i.y):=aA I4.o (i:=2) rfl
 have d3:w4.cell? ⟨ib,3,none⟩=some (.int .i64 i.n):=aA I4.o (i:=3) rfl
 have d4:w4.cell? ⟨ib,4,none⟩=some (.int .i64 i.mn):=aA I4.o (i:=4) rfl
 have d5:w4.cell? ⟨ib,5,none⟩=some (.int .i64 i.mx):=aA I4.o (i:=5) rfl
 have d6:w4.cell? ⟨ib,6,none⟩=some (.int .u64 (aB i.s 0)):=aA I4.o (i:=6) rfl
 have d7:w4.cell? ⟨ib,7,none⟩=some (.int .u64 (aB i.s 1)):=aA I4.o (i:=7) rfl
 have d8:w4.cell? ⟨ib,8,none⟩=some (.int .u64 (aB i.s 2)):=aA I4.o (i:=8) rfl
 have d9:w4.cell? ⟨ib,9,none⟩=some (.int .u64 (aB i.s 3)):=aA I4.o (i:=9) rfl
 have u0:w4.cell? ⟨ub,0,none⟩=some (.bool false):=aA U4.o (i:=0) rfl
 have u1:w4.cell? ⟨ub,1,none⟩=some (.bool false):=aA U4.o (i:=1) rfl
 have u2:w4.cell? ⟨ub,2,none⟩=some (.bool false):=aA U4.o (i:=2) rfl
 have u3:w4.cell? ⟨ub,3,none⟩=some (.bool false):=aA U4.o (i:=3) rfl
 have u4:w4.cell? ⟨ub,4,none⟩=some (.bool false):=aA U4.o (i:=4) rfl
 have u5:w4.cell? ⟨ub,5,none⟩=some (.bool false):=aA U4.o (i:=5) rfl
 have hs0:=Hs0.o
 go_wp2
 go_ret
 exact⟨rfl,B4.o⟩
theorem jO{w:World}{p:Pg}(h:PgI w p){k:Nat}{i:Ins}(hi:p.L[k]?=some i)(hk:p.L.length<=40000)(ho:i.op=11)(hs0:i.s=0#256)(hx0:0<=i.x)(hy0:¬ (0<=i.y))(hxz:i.x=0)(hyz:¬ (i.y=0)):Calls Try.prog 31 #[.agg #[.slice p.q p.L.length p.c,.int .i64 p.g,.int .i64 p.k,.bool p.f],.int .i64 (k:Int)] w fun e w'=>e=.returned (.bool (false))/\wBl w w':=by
 have B1:Hid (wBl w (w.alloc (.cells #[.slice p.q p.L.length p.c,.int .i64 p.g,.int .i64 p.k,.bool p.f] 24))):=bz9
 have X1:Hid ((w.alloc (.cells #[.slice p.q p.L.length p.c,.int .i64 p.g,.int .i64 p.k,.bool p.f] 24)).heap[w.heap.size]?=some (.cells #[.slice p.q p.L.length p.c,.int .i64 p.g,.int .i64 p.k,.bool p.f] 24 (0,0))):=aE w _
 obtain⟨g1,o1,hq1,hl1,c0,c1,c2,c3,c4,c5,c6,c7,c8,c9⟩:=(h.li.kept B1.o).ten hi
 have hkl:=(f7.1 hi).1
 have k0:(0:Int)<=(k:Int):=by omega
 have k1:(k:Int)<(p.L.length:Int):=by omega
 have OF:=aD (aI i.op)
 have hu:usA i.op=[false,false,false,false,false,false]:=by rw [ho];rfl
 have hiso:isO i.op=true:=by rw [ho];rfl
 rw [hu,hiso] at OF
 have OF:Hid (∀ w,Calls Try.prog 42 #[.int .i64 i.op] w fun e w'=>e=.returned (.tuple #[.agg #[.bool false,.bool false,.bool false,.bool false,.bool false,.bool false],.bool true])/\wBl w w'):=OF
 have o9:(i.op==9)=false:=by rw [ho];rfl
 have o10:(i.op==10)=false:=by rw [ho];rfl
 have wl:IntKind.wrap .i64 ((p.L.length:Int)-1)=(p.L.length:Int)-1:=by rw [IntKind.wrap_i64];omega
 have exz:(i.x==0)=true:=by rw [beq_iff_eq];exact hxz
 have fxz:(i.x != 0)=false:=by simp [hxz]
 clear hxz
 have eyz:(i.y==0)=false:=by rw [f8];exact hyz
 have fyz:(i.y != 0)=true:=by simp [hyz]
 clear hyz
 have Hs0:=aD hs0
 clear hs0
 clear hu hiso ho
 have HQ:=aD hq1
 clear h hi hq1
 go_enter Try.func31,Try.ntmps31
 go_upto_region 1 with fail
 generalize (w.alloc (.cells #[.slice p.q p.L.length p.c,.int .i64 p.g,.int .i64 p.k,.bool p.f] 24))=w1 at B1 X1 c0 c1 c2 c3 c4 c5 c6 c7 c8 c9 ⊢
 have p0:w1.cell? ⟨w.heap.size,0,none⟩=some (.slice p.q p.L.length p.c):=aA X1.o (i:=0) rfl
 rw [HQ.o] at p0
 go_upto_region 2 with fail
 have BA:wBl w1 (w1.alloc (.cells #[.int .i64 i.op,.int .i64 i.x,.int .i64 i.y,.int .i64 i.n,.int .i64 i.mn,.int .i64 i.mx,.int .u64 (aB i.s 0),.int .u64 (aB i.s 1),.int .u64 (aB i.s 2),.int .u64 (aB i.s 3)] 47)):=bz9
 have X2:=aD ((BA.block _ (aC X1.o)).trans X1.o)
 have I2:Hid ((w1.alloc (.cells #[.int .i64 i.op,.int .i64 i.x,.int .i64 i.y,.int .i64 i.n,.int .i64 i.mn,.int .i64 i.mx,.int .u64 (aB i.s 0),.int .u64 (aB i.s 1),.int .u64 (aB i.s 2),.int .u64 (aB i.s 3)] 47)).heap[w1.heap.size]?=some (.cells #[.int .i64 i.op,.int .i64 i.x,.int .i64 i.y,.int .i64 i.n,.int .i64 i.mn,.int .i64 i.mx,.int .u64 (aB i.s 0),.int .u64 (aB i.s 1),.int .u64 (aB i.s 2),.int .u64 (aB i.s 3)] 47 (0,0))):=aE w1 _
 have B2:=aD (aF B1.o BA lz9)
 clear BA c0 c1 c2 c3 c4 c5 c6 c7 c8 c9 p0
 generalize (w1.alloc (.cells #[.int .i64 i.op,.int .i64 i.x,.int .i64 i.y,.int .i64 i.n,.int .i64 i.mn,.int .i64 i.mx,.int .u64 (aB i.s 0),.int .u64 (aB i.s 1),.int .u64 (aB i.s 2),.int .u64 (aB i.s 3)] 47))=w2 at X2 I2 B2 ⊢
 obtain⟨ib,hib⟩:∃ ib,w1.heap.size=ib:=⟨_,rfl⟩
 rw [hib] at I2 ⊢
 clear hib
 have d0:w2.cell? ⟨ib,0,none⟩=some (.int .i64 i.op):=aA I2.o (i:=0) rfl
 go_upto_region 3 with (go_at_call 42;(with_reducible refine(OF.o _).mono ?_);rintro e w3 ⟨rfl,h3⟩;have X3:=aD ((h3.block _ (aC X2.o)).trans X2.o);have I3:=aD ((h3.block _ (aC I2.o)).trans I2.o);have B3:=aD (aF B2.o h3 lz9);clear h3)
 have BA:wBl w3 (w3.alloc (.cells #[.bool false,.bool false,.bool false,.bool false,.bool false,.bool false] 84)):=bz9
 have X4:=aD ((BA.block _ (aC X3.o)).trans X3.o)
 have I4:=aD ((BA.block _ (aC I3.o)).trans I3.o)
 have U4:Hid ((w3.alloc (.cells #[.bool false,.bool false,.bool false,.bool false,.bool false,.bool false] 84)).heap[w3.heap.size]?=some (.cells #[.bool false,.bool false,.bool false,.bool false,.bool false,.bool false] 84 (0,0))):=aE w3 _
 have B4:=aD (aF B3.o BA lz9)
 clear BA X3 I3 B3 X2 I2 B2
 generalize (w3.alloc (.cells #[.bool false,.bool false,.bool false,.bool false,.bool false,.bool false] 84))=w4 at X4 I4 U4 B4 ⊢
 obtain⟨ub,hub⟩:∃ ub,w3.heap.size=ub:=⟨_,rfl⟩
 rw [hub] at U4 ⊢
 clear hub
 have p0:w4.cell? ⟨w.heap.size,0,none⟩=some (.slice p.q p.L.length p.c):=aA X4.o (i:=0) rfl
 have p1:w4.cell? ⟨w.heap.size,1,none⟩=some (.int .i64 p.g):=aA X4.o (i:=1) rfl
 have p2:w4.cell? ⟨w.heap.size,2,none⟩=some (.int .i64 p.k):=aA X4.o (i:=2) rfl
 have d0:w4.cell? ⟨ib,0,none⟩=some (.int .i64 i.op):=aA I4.o (i:=0) rfl
 have d1:w4.cell? ⟨ib,1,none⟩=some (.int .i64 i.x):=aA I4.o (i:=1) rfl
 have d2:w4.cell? ⟨ib,2,none⟩=some (.int .i64 i.y):=aA I4.o (i:=2) rfl
 have d3:w4.cell? ⟨ib,3,none⟩=some (.int .i64 i.n):=aA I4.o (i:=3) rfl
 have d4:w4.cell? ⟨ib,4,none⟩=some (.int .i64 i.mn):=aA I4.o (i:=4) rfl
 have d5:w4.cell? ⟨ib,5,none⟩=some (.int .i64 i.mx):=aA I4.o (i:=5) rfl
 have d6:w4.cell? ⟨ib,6,none⟩=some (.int .u64 (aB i.s 0)):=aA I4.o (i:=6) rfl
 have d7:w4.cell? ⟨ib,7,none⟩=some (.int .u64 (aB i.s 1)):=aA I4.o (i:=7) rfl
 have d8:w4.cell? ⟨ib,8,none⟩=some (.int .u64 (aB i.s 2)):=aA I4.o (i:=8) rfl
 have d9:w4.cell? ⟨ib,9,none⟩=some (.int .u64 (aB i.s 3)):=aA I4.o (i:=9) rfl
 have u0:w4.cell? ⟨ub,0,none⟩=some (.bool false):=aA U4.o (i:=0) rfl
 have u1:w4.cell? ⟨ub,1,none⟩=some (.bool false):=aA U4.o (i:=1) rfl
 have u2:w4.cell? ⟨ub,2,none⟩=some (.bool false):=aA U4.o (i:=2) rfl
 have u3:w4.cell? ⟨ub,3,none⟩=some (.bool false):=aA U4.o (i:=3) rfl
 have u4:w4.cell? ⟨ub,4,none⟩=some (.bool false):=aA U4.o (i:=4) rfl
 have u5:w4.cell? ⟨ub,5,none⟩=some (.bool false):=aA U4.o (i:=5) rfl
 have hs0:=Hs0.o
 go_wp2
 go_ret
 exact⟨rfl,B4.o⟩
theorem jN{w:World}{p:Pg}(h:PgI w p){k:Nat}{i:Ins}(hi:p.L[k]?=some i)(hk:p.L.length<=40000)(ho:i.op=11)(hs0:i.s=0#256)(hx0:0<=i.x)(hy0:¬ (0<=i.y))(hxz:¬ (i.x=0)):Calls Try.prog 31 #[.agg #[.slice p.q p.L.length p.c,.int .i64 p.g,.int .i64 p.k,.bool p.f],.int .i64 (k:Int)] w fun e w'=>e=.returned (.bool (false))/\wBl w w':=by
 have B1:Hid (wBl w (w.alloc (.cells #[.slice p.q p.L.length p.c,.int .i64 p.g,.int .i64 p.k,.bool p.f] 24))):=bz9
 have X1:Hid ((w.alloc (.cells #[.slice p.q p.L.length p.c,.int .i64 p.g,.int .i64 p.k,.bool p.f] 24)).heap[w.heap.size]?=some (.cells #[.slice p.q p.L.length p.c,.int .i64 p.g,.int .i64 p.k,.bool p.f] 24 (0,0))):=aE w _
 obtain⟨g1,o1,hq1,hl1,c0,c1,c2,c3,c4,c5,c6,c7,c8,c9⟩:=(h.li.kept B1.o).ten hi
 have hkl:=(f7.1 hi).1
 have k0:(0:Int)<=(k:Int):=by omega
 have k1:(k:Int)<(p.L.length:Int):=by omega
 have OF:=aD (aI i.op)
 have hu:usA i.op=[false,false,false,false,false,false]:=by rw [ho];rfl
 have hiso:isO i.op=true:=by rw [ho];rfl
 rw [hu,hiso] at OF
 have OF:Hid (∀ w,Calls Try.prog 42 #[.int .i64 i.op] w fun e w'=>e=.returned (.tuple #[.agg #[.bool false,.bool false,.bool false,.bool false,.bool false,.bool false],.bool true])/\wBl w w'):=OF
 have o9:(i.op==9)=false:=by rw [ho];rfl
 have o10:(i.op==10)=false:=by rw [ho];rfl
 have wl:IntKind.wrap .i64 ((p.L.length:Int)-1)=(p.L.length:Int)-1:=by rw [IntKind.wrap_i64];omega
 have exz:(i.x==0)=false:=by rw [f8];exact hxz
 have fxz:(i.x != 0)=true:=by simp [hxz]
 clear hxz
 have Hs0:=aD hs0
 clear hs0
 clear hu hiso ho
 have HQ:=aD hq1
 clear h hi hq1
 go_enter Try.func31,Try.ntmps31
 go_upto_region 1 with fail
 generalize (w.alloc (.cells #[.slice p.q p.L.length p.c,.int .i64 p.g,.int .i64 p.k,.bool p.f] 24))=w1 at B1 X1 c0 c1 c2 c3 c4 c5 c6 c7 c8 c9 ⊢
 have p0:w1.cell? ⟨w.heap.size,0,none⟩=some (.slice p.q p.L.length p.c):=aA X1.o (i:=0) rfl
 rw [HQ.o] at p0
 go_upto_region 2 with fail
 have BA:wBl w1 (w1.alloc (.cells #[.int .i64 i.op,.int .i64 i.x,.int .i64 i.y,.int .i64 i.n,.int .i64 i.mn,.int .i64 i.mx,.int .u64 (aB i.s 0),.int .u64 (aB i.s 1),.int .u64 (aB i.s 2),.int .u64 (aB i.s 3)] 47)):=bz9
 have X2:=aD ((BA.block _ (aC X1.o)).trans X1.o)
 have I2:Hid ((w1.alloc (.cells #[.int .i64 i.op,.int .i64 i.x,.int .i64 i.y,.int .i64 i.n,.int .i64 i.mn,.int .i64 i.mx,.int .u64 (aB i.s 0),.int .u64 (aB i.s 1),.int .u64 (aB i.s 2),.int .u64 (aB i.s 3)] 47)).heap[w1.heap.size]?=some (.cells #[.int .i64 i.op,.int .i64 i.x,.int .i64 i.y,.int .i64 i.n,.int .i64 i.mn,.int .i64 i.mx,.int .u64 (aB i.s 0),.int .u64 (aB i.s 1),.int .u64 (aB i.s 2),.int .u64 (aB i.s 3)] 47 (0,0))):=aE w1 _
 have B2:=aD (aF B1.o BA lz9)
 clear BA c0 c1 c2 c3 c4 c5 c6 c7 c8 c9 p0
 generalize (w1.alloc (.cells #[.int .i64 i.op,.int .i64 i.x,.int .i64 i.y,.int .i64 i.n,.int .i64 i.mn,.int .i64 i.mx,.int .u64 (aB i.s 0),.int .u64 (aB i.s 1),.int .u64 (aB i.s 2),.int .u64 (aB i.s 3)] 47))=w2 at X2 I2 B2 ⊢
 obtain⟨ib,hib⟩:∃ ib,w1.heap.size=ib:=⟨_,rfl⟩
 rw [hib] at I2 ⊢
 clear hib
 have d0:w2.cell? ⟨ib,0,none⟩=some (.int .i64 i.op):=aA I2.o (i:=0) rfl
 go_upto_region 3 with (go_at_call 42;(with_reducible refine(OF.o _).mono ?_);rintro e w3 ⟨rfl,h3⟩;have X3:=aD ((h3.block _ (aC X2.o)).trans X2.o);have I3:=aD ((h3.block _ (aC I2.o)).trans I2.o);have B3:=aD (aF B2.o h3 lz9);clear h3)
 have BA:wBl w3 (w3.alloc (.cells #[.bool false,.bool false,.bool false,.bool false,.bool false,.bool false] 84)):=bz9
 have X4:=aD ((BA.block _ (aC X3.o)).trans X3.o)
 have I4:=aD ((BA.block _ (aC I3.o)).trans I3.o)
 have U4:Hid ((w3.alloc (.cells #[.bool false,.bool false,.bool false,.bool false,.bool false,.bool false] 84)).heap[w3.heap.size]?=some (.cells #[.bool false,.bool false,.bool false,.bool false,.bool false,.bool false] 84 (0,0))):=aE w3 _
 have B4:=aD (aF B3.o BA lz9)
 clear BA X3 I3 B3 X2 I2 B2
 generalize (w3.alloc (.cells #[.bool false,.bool false,.bool false,.bool false,.bool false,.bool false] 84))=w4 at X4 I4 U4 B4 ⊢
 obtain⟨ub,hub⟩:∃ ub,w3.heap.size=ub:=⟨_,rfl⟩
 rw [hub] at U4 ⊢
 clear hub
 have p0:w4.cell? ⟨w.heap.size,0,none⟩=some (.slice p.q p.L.length p.c):=aA X4.o (i:=0) rfl
 have p1:w4.cell? ⟨w.heap.size,1,none⟩=some (.int .i64 p.g):=aA X4.o (i:=1) rfl
 have p2:w4.cell? ⟨w.heap.size,2,none⟩=some (.int .i64 p.k):=aA X4.o (i:=2) rfl
 have d0:w4.cell? ⟨ib,0,none⟩=some (.int .i64 i.op):=aA I4.o (i:=0) rfl
 have d1:w4.cell? ⟨ib,1,none⟩=some (.int .i64 i.x):=aA I4.o (i:=1) rfl
 have d2:w4.cell? ⟨ib,2,none⟩=some (.int .i64 i.y):=aA I4.o (i:=2) rfl
 have d3:w4.cell? ⟨ib,3,none⟩=some (.int .i64 i.n):=aA I4.o (i:=3) rfl
 have d4:w4.cell? ⟨ib,4,none⟩=some (.int .i64 i.mn):=aA I4.o (i:=4) rfl
 have d5:w4.cell? ⟨ib,5,none⟩=some (.int .i64 i.mx):=aA I4.o (i:=5) rfl
 have d6:w4.cell? ⟨ib,6,none⟩=some (.int .u64 (aB i.s 0)):=aA I4.o (i:=6) rfl
 have d7:w4.cell? ⟨ib,7,none⟩=some (.int .u64 (aB i.s 1)):=aA I4.o (i:=7) rfl
 have d8:w4.cell? ⟨ib,8,none⟩=some (.int .u64 (aB i.s 2)):=aA I4.o (i:=8) rfl
 have d9:w4.cell? ⟨ib,9,none⟩=some (.int .u64 (aB i.s 3)):=aA I4.o (i:=9) rfl
 have u0:w4.cell? ⟨ub,0,none⟩=some (.bool false):=aA U4.o (i:=0) rfl
 have u1:w4.cell? ⟨ub,1,none⟩=some (.bool false):=aA U4.o (i:=1) rfl
 have u2:w4.cell? ⟨ub,2,none⟩=some (.bool false):=aA U4.o (i:=2) rfl
 have u3:w4.cell? ⟨ub,3,none⟩=some (.bool false):=aA U4.o (i:=3) rfl
 have u4:w4.cell? ⟨ub,4,none⟩=some (.bool false):=aA U4.o (i:=4) rfl
 have u5:w4.cell? ⟨ub,5,none⟩=some (.bool false):=aA U4.o (i:=5) rfl
 have hs0:=Hs0.o
 go_wp2
 go_ret
 exact⟨rfl,B4.o⟩
theorem jM{w:World}{p:Pg}(h:PgI w p){k:Nat}{i:Ins}(hi:p.L[k]?=some i)(hk:p.L.length<=40000)(ho:i.op=11)(hs0:i.s=0#256)(hx0:¬ (0<=i.x))(hy0:0<=i.y)(hxz:¬ (i.x=0)):Calls Try.prog 31 #[.agg #[.slice p.q p.L.length p.c,.int .i64 p.g,.int .i64 p.k,.bool p.f],.int .i64 (k:Int)] w fun e w'=>e=.returned (.bool (false))/\wBl w w':=by
 have B1:Hid (wBl w (w.alloc (.cells #[.slice p.q p.L.length p.c,.int .i64 p.g,.int .i64 p.k,.bool p.f] 24))):=bz9
 have X1:Hid ((w.alloc (.cells #[.slice p.q p.L.length p.c,.int .i64 p.g,.int .i64 p.k,.bool p.f] 24)).heap[w.heap.size]?=some (.cells #[.slice p.q p.L.length p.c,.int .i64 p.g,.int .i64 p.k,.bool p.f] 24 (0,0))):=aE w _
 obtain⟨g1,o1,hq1,hl1,c0,c1,c2,c3,c4,c5,c6,c7,c8,c9⟩:=(h.li.kept B1.o).ten hi
 have hkl:=(f7.1 hi).1
 have k0:(0:Int)<=(k:Int):=by omega
 have k1:(k:Int)<(p.L.length:Int):=by omega
 have OF:=aD (aI i.op)
 have hu:usA i.op=[false,false,false,false,false,false]:=by rw [ho];rfl
 have hiso:isO i.op=true:=by rw [ho];rfl
 rw [hu,hiso] at OF
 have OF:Hid (∀ w,Calls Try.prog 42 #[.int .i64 i.op] w fun e w'=>e=.returned (.tuple #[.agg #[.bool false,.bool false,.bool false,.bool false,.bool false,.bool false],.bool true])/\wBl w w'):=OF
 have o9:(i.op==9)=false:=by rw [ho];rfl
 have o10:(i.op==10)=false:=by rw [ho];rfl
 have wl:IntKind.wrap .i64 ((p.L.length:Int)-1)=(p.L.length:Int)-1:=by rw [IntKind.wrap_i64];omega
 have exz:(i.x==0)=false:=by rw [f8];exact hxz
 have fxz:(i.x != 0)=true:=by simp [hxz]
 clear hxz
 have Hs0:=aD hs0
 clear hs0
 clear hu hiso ho
 have HQ:=aD hq1
 clear h hi hq1
 go_enter Try.func31,Try.ntmps31
 go_upto_region 1 with fail
 generalize (w.alloc (.cells #[.slice p.q p.L.length p.c,.int .i64 p.g,.int .i64 p.k,.bool p.f] 24))=w1 at B1 X1 c0 c1 c2 c3 c4 c5 c6 c7 c8 c9 ⊢
 have p0:w1.cell? ⟨w.heap.size,0,none⟩=some (.slice p.q p.L.length p.c):=aA X1.o (i:=0) rfl
 rw [HQ.o] at p0
 go_upto_region 2 with fail
 have BA:wBl w1 (w1.alloc (.cells #[.int .i64 i.op,.int .i64 i.x,.int .i64 i.y,.int .i64 i.n,.int .i64 i.mn,.int .i64 i.mx,.int .u64 (aB i.s 0),.int .u64 (aB i.s 1),.int .u64 (aB i.s 2),.int .u64 (aB i.s 3)] 47)):=bz9
 have X2:=aD ((BA.block _ (aC X1.o)).trans X1.o)
 have I2:Hid ((w1.alloc (.cells #[.int .i64 i.op,.int .i64 i.x,.int .i64 i.y,.int .i64 i.n,.int .i64 i.mn,.int .i64 i.mx,.int .u64 (aB i.s 0),.int .u64 (aB i.s 1),.int .u64 (aB i.s 2),.int .u64 (aB i.s 3)] 47)).heap[w1.heap.size]?=some (.cells #[.int .i64 i.op,.int .i64 i.x,.int .i64 i.y,.int .i64 i.n,.int .i64 i.mn,.int .i64 i.mx,.int .u64 (aB i.s 0),.int .u64 (aB i.s 1),.int .u64 (aB i.s 2),.int .u64 (aB i.s 3)] 47 (0,0))):=aE w1 _
 have B2:=aD (aF B1.o BA lz9)
 clear BA c0 c1 c2 c3 c4 c5 c6 c7 c8 c9 p0
 generalize (w1.alloc (.cells #[.int .i64 i.op,.int .i64 i.x,.int .i64 i.y,.int .i64 i.n,.int .i64 i.mn,.int .i64 i.mx,.int .u64 (aB i.s 0),.int .u64 (aB i.s 1),.int .u64 (aB i.s 2),.int .u64 (aB i.s 3)] 47))=w2 at X2 I2 B2 ⊢
 obtain⟨ib,hib⟩:∃ ib,w1.heap.size=ib:=⟨_,rfl⟩
 rw [hib] at I2 ⊢
 clear hib
 have d0:w2.cell? ⟨ib,0,none⟩=some (.int .i64 i.op):=aA I2.o (i:=0) rfl
 go_upto_region 3 with (go_at_call 42;(with_reducible refine(OF.o _).mono ?_);rintro e w3 ⟨rfl,h3⟩;have X3:=aD ((h3.block _ (aC X2.o)).trans X2.o);have I3:=aD ((h3.block _ (aC I2.o)).trans I2.o);have B3:=aD (aF B2.o h3 lz9);clear h3)
 have BA:wBl w3 (w3.alloc (.cells #[.bool false,.bool false,.bool false,.bool false,.bool false,.bool false] 84)):=bz9
 have X4:=aD ((BA.block _ (aC X3.o)).trans X3.o)
 have I4:=aD ((BA.block _ (aC I3.o)).trans I3.o)
 have U4:Hid ((w3.alloc (.cells #[.bool false,.bool false,.bool false,.bool false,.bool false,.bool false] 84)).heap[w3.heap.size]?=some (.cells #[.bool false,.bool false,.bool false,.bool false,.bool false,.bool false] 84 (0,0))):=aE w3 _
 have B4:=aD (aF B3.o BA lz9)
 clear BA X3 I3 B3 X2 I2 B2
 generalize (w3.alloc (.cells #[.bool false,.bool false,.bool false,.bool false,.bool false,.bool false] 84))=w4 at X4 I4 U4 B4 ⊢
 obtain⟨ub,hub⟩:∃ ub,w3.heap.size=ub:=⟨_,rfl⟩
 rw [hub] at U4 ⊢
 clear hub
 have p0:w4.cell? ⟨w.heap.size,0,none⟩=some (.slice p.q p.L.length p.c):=aA X4.o (i:=0) rfl
 have p1:w4.cell? ⟨w.heap.size,1,none⟩=some (.int .i64 p.g):=aA X4.o (i:=1) rfl
 have p2:w4.cell? ⟨w.heap.size,2,none⟩=some (.int .i64 p.k):=aA X4.o (i:=2) rfl
 have d0:w4.cell? ⟨ib,0,none⟩=some (.int .i64 i.op):=aA I4.o (i:=0) rfl
 have d1:w4.cell? ⟨ib,1,none⟩=some (.int .i64 i.x):=aA I4.o (i:=1) rfl
 have d2:w4.cell? ⟨ib,2,none⟩=some (.int .i64 i.y):=aA I4.o (i:=2) rfl
 have d3:w4.cell? ⟨ib,3,none⟩=some (.int .i64 i.n):=aA I4.o (i:=3) rfl
 have d4:w4.cell? ⟨ib,4,none⟩=some (.int .i64 i.mn):=aA I4.o (i:=4) rfl
 have d5:w4.cell? ⟨ib,5,none⟩=some (.int .i64 i.mx):=aA I4.o (i:=5) rfl
 have d6:w4.cell? ⟨ib,6,none⟩=some (.int .u64 (aB i.s 0)):=aA I4.o (i:=6) rfl
 have d7:w4.cell? ⟨ib,7,none⟩=some (.int .u64 (aB i.s 1)):=aA I4.o (i:=7) rfl
 have d8:w4.cell? ⟨ib,8,none⟩=some (.int .u64 (aB i.s 2)):=aA I4.o (i:=8) rfl
 have d9:w4.cell? ⟨ib,9,none⟩=some (.int .u64 (aB i.s 3)):=aA I4.o (i:=9) rfl
 have u0:w4.cell? ⟨ub,0,none⟩=some (.bool false):=aA U4.o (i:=0) rfl
 have u1:w4.cell? ⟨ub,1,none⟩=some (.bool false):=aA U4.o (i:=1) rfl
 have u2:w4.cell? ⟨ub,2,none⟩=some (.bool false):=aA U4.o (i:=2) rfl
 have u3:w4.cell? ⟨ub,3,none⟩=some (.bool false):=aA U4.o (i:=3) rfl
 have u4:w4.cell? ⟨ub,4,none⟩=some (.bool false):=aA U4.o (i:=4) rfl
 have u5:w4.cell? ⟨ub,5,none⟩=some (.bool false):=aA U4.o (i:=5) rfl
 have hs0:=Hs0.o
 go_wp2
 go_ret
 exact⟨rfl,B4.o⟩
theorem gK{w:World}{p:Pg}(h:PgI w p){k:Nat}{i:Ins}(hi:p.L[k]?=some i)(hk:p.L.length<=40000)(ho:i.op=11)(hs0:i.s=0#256)(hx0:¬ (0<=i.x))(hy0:¬ (0<=i.y))(hxz:¬ (i.x=0)):Calls Try.prog 31 #[.agg #[.slice p.q p.L.length p.c,.int .i64 p.g,.int .i64 p.k,.bool p.f],.int .i64 (k:Int)] w fun e w'=>e=.returned (.bool (false))/\wBl w w':=by
 have B1:Hid (wBl w (w.alloc (.cells #[.slice p.q p.L.length p.c,.int .i64 p.g,.int .i64 p.k,.bool p.f] 24))):=bz9
 have X1:Hid ((w.alloc (.cells #[.slice p.q p.L.length p.c,.int .i64 p.g,.int .i64 p.k,.bool p.f] 24)).heap[w.heap.size]?=some (.cells #[.slice p.q p.L.length p.c,.int .i64 p.g,.int .i64 p.k,.bool p.f] 24 (0,0))):=aE w _
 obtain⟨g1,o1,hq1,hl1,c0,c1,c2,c3,c4,c5,c6,c7,c8,c9⟩:=(h.li.kept B1.o).ten hi
 have hkl:=(f7.1 hi).1
 have k0:(0:Int)<=(k:Int):=by omega
 have k1:(k:Int)<(p.L.length:Int):=by omega
 have OF:=aD (aI i.op)
 have hu:usA i.op=[false,false,false,false,false,false]:=by rw [ho];rfl
 have hiso:isO i.op=true:=by rw [ho];rfl
 rw [hu,hiso] at OF
 have OF:Hid (∀ w,Calls Try.prog 42 #[.int .i64 i.op] w fun e w'=>e=.returned (.tuple #[.agg #[.bool false,.bool false,.bool false,.bool false,.bool false,.bool false],.bool true])/\wBl w w'):=OF
 have o9:(i.op==9)=false:=by rw [ho];rfl
 have o10:(i.op==10)=false:=by rw [ho];rfl
 have wl:IntKind.wrap .i64 ((p.L.length:Int)-1)=(p.L.length:Int)-1:=by rw [IntKind.wrap_i64];omega
 have exz:(i.x==0)=false:=by rw [f8];exact hxz
 have fxz:(i.x != 0)=true:=by simp [hxz]
 clear hxz
 have Hs0:=aD hs0
 clear hs0
 clear hu hiso ho
 have HQ:=aD hq1
 clear h hi hq1
 go_enter Try.func31,Try.ntmps31
 go_upto_region 1 with fail
 generalize (w.alloc (.cells #[.slice p.q p.L.length p.c,.int .i64 p.g,.int .i64 p.k,.bool p.f] 24))=w1 at B1 X1 c0 c1 c2 c3 c4 c5 c6 c7 c8 c9 ⊢
 have p0:w1.cell? ⟨w.heap.size,0,none⟩=some (.slice p.q p.L.length p.c):=aA X1.o (i:=0) rfl
 rw [HQ.o] at p0
 go_upto_region 2 with fail
 have BA:wBl w1 (w1.alloc (.cells #[.int .i64 i.op,.int .i64 i.x,.int .i64 i.y,.int .i64 i.n,.int .i64 i.mn,.int .i64 i.mx,.int .u64 (aB i.s 0),.int .u64 (aB i.s 1),.int .u64 (aB i.s 2),.int .u64 (aB i.s 3)] 47)):=bz9
 have X2:=aD ((BA.block _ (aC X1.o)).trans X1.o)
 have I2:Hid ((w1.alloc (.cells #[.int .i64 i.op,.int .i64 i.x,.int .i64 i.y,.int .i64 i.n,.int .i64 i.mn,.int .i64 i.mx,.int .u64 (aB i.s 0),.int .u64 (aB i.s 1),.int .u64 (aB i.s 2),.int .u64 (aB i.s 3)] 47)).heap[w1.heap.size]?=some (.cells #[.int .i64 i.op,.int .i64 i.x,.int .i64 i.y,.int .i64 i.n,.int .i64 i.mn,.int .i64 i.mx,.int .u64 (aB i.s 0),.int .u64 (aB i.s 1),.int .u64 (aB i.s 2),.int .u64 (aB i.s 3)] 47 (0,0))):=aE w1 _
 have B2:=aD (aF B1.o BA lz9)
 clear BA c0 c1 c2 c3 c4 c5 c6 c7 c8 c9 p0
 generalize (w1.alloc (.cells #[.int .i64 i.op,.int .i64 i.x,.int .i64 i.y,.int .i64 i.n,.int .i64 i.mn,.int .i64 i.mx,.int .u64 (aB i.s 0),.int .u64 (aB i.s 1),.int .u64 (aB i.s 2),.int .u64 (aB i.s 3)] 47))=w2 at X2 I2 B2 ⊢
 obtain⟨ib,hib⟩:∃ ib,w1.heap.size=ib:=⟨_,rfl⟩
 rw [hib] at I2 ⊢
 clear hib
 have d0:w2.cell? ⟨ib,0,none⟩=some (.int .i64 i.op):=aA I2.o (i:=0) rfl
 go_upto_region 3 with (go_at_call 42;(with_reducible refine(OF.o _).mono ?_);rintro e w3 ⟨rfl,h3⟩;have X3:=aD ((h3.block _ (aC X2.o)).trans X2.o);have I3:=aD ((h3.block _ (aC I2.o)).trans I2.o);have B3:=aD (aF B2.o h3 lz9);clear h3)
 have BA:wBl w3 (w3.alloc (.cells #[.bool false,.bool false,.bool false,.bool false,.bool false,.bool false] 84)):=bz9
 have X4:=aD ((BA.block _ (aC X3.o)).trans X3.o)
 have I4:=aD ((BA.block _ (aC I3.o)).trans I3.o)
 have U4:Hid ((w3.alloc (.cells #[.bool false,.bool false,.bool false,.bool false,.bool false,.bool false] 84)).heap[w3.heap.size]?=some (.cells #[.bool false,.bool false,.bool false,.bool false,.bool false,.bool false] 84 (0,0))):=aE w3 _
 have B4:=aD (aF B3.o BA lz9)
 clear BA X3 I3 B3 X2 I2 B2
 generalize (w3.alloc (.cells #[.bool false,.bool false,.bool false,.bool false,.bool false,.bool false] 84))=w4 at X4 I4 U4 B4 ⊢
 obtain⟨ub,hub⟩:∃ ub,w3.heap.size=ub:=⟨_,rfl⟩
 rw [hub] at U4 ⊢
 clear hub
 have p0:w4.cell? ⟨w.heap.size,0,none⟩=some (.slice p.q p.L.length p.c):=aA X4.o (i:=0) rfl
 have p1:w4.cell? ⟨w.heap.size,1,none⟩=some (.int .i64 p.g):=aA X4.o (i:=1) rfl
 have p2:w4.cell? ⟨w.heap.size,2,none⟩=some (.int .i64 p.k):=aA X4.o (i:=2) rfl
 have d0:w4.cell? ⟨ib,0,none⟩=some (.int .i64 i.op):=aA I4.o (i:=0) rfl
 have d1:w4.cell? ⟨ib,1,none⟩=some (.int .i64 i.x):=aA I4.o (i:=1) rfl
 have d2:w4.cell? ⟨ib,2,none⟩=some (.int .i64 i.y):=aA I4.o (i:=2) rfl
 have d3:w4.cell? ⟨ib,3,none⟩=some (.int .i64 i.n):=aA I4.o (i:=3) rfl
 have d4:w4.cell? ⟨ib,4,none⟩=some (.int .i64 i.mn):=aA I4.o (i:=4) rfl
 have d5:w4.cell? ⟨ib,5,none⟩=some (.int .i64 i.mx):=aA I4.o (i:=5) rfl
 have d6:w4.cell? ⟨ib,6,none⟩=some (.int .u64 (aB i.s 0)):=aA I4.o (i:=6) rfl
 have d7:w4.cell? ⟨ib,7,none⟩=some (.int .u64 (aB i.s 1)):=aA I4.o (i:=7) rfl
 have d8:w4.cell? ⟨ib,8,none⟩=some (.int .u64 (aB i.s 2)):=aA I4.o (i:=8) rfl
 have d9:w4.cell? ⟨ib,9,none⟩=some (.int .u64 (aB i.s 3)):=aA I4.o (i:=9) rfl
 have u0:w4.cell? ⟨ub,0,none⟩=some (.bool false):=aA U4.o (i:=0) rfl
 have u1:w4.cell? ⟨ub,1,none⟩=some (.bool false):=aA U4.o (i:=1) rfl
 have u2:w4.cell? ⟨ub,2,none⟩=some (.bool false):=aA U4.o (i:=2) rfl
 have u3:w4.cell? ⟨ub,3,none⟩=some (.bool false):=aA U4.o (i:=3) rfl
 have u4:w4.cell? ⟨ub,4,none⟩=some (.bool false):=aA U4.o (i:=4) rfl
 have u5:w4.cell? ⟨ub,5,none⟩=some (.bool false):=aA U4.o (i:=5) rfl
 have hs0:=Hs0.o
 go_wp2
 go_ret
 exact⟨rfl,B4.o⟩
theorem gJ{w:World}{p:Pg}(h:PgI w p){k:Nat}{i:Ins}(hi:p.L[k]?=some i)(hk:p.L.length<=40000)(ho:i.op=11)(hs0:¬ (i.s=0#256)):Calls Try.prog 31 #[.agg #[.slice p.q p.L.length p.c,.int .i64 p.g,.int .i64 p.k,.bool p.f],.int .i64 (k:Int)] w fun e w'=>e=.returned (.bool (false))/\wBl w w':=by
 have B1:Hid (wBl w (w.alloc (.cells #[.slice p.q p.L.length p.c,.int .i64 p.g,.int .i64 p.k,.bool p.f] 24))):=bz9
 have X1:Hid ((w.alloc (.cells #[.slice p.q p.L.length p.c,.int .i64 p.g,.int .i64 p.k,.bool p.f] 24)).heap[w.heap.size]?=some (.cells #[.slice p.q p.L.length p.c,.int .i64 p.g,.int .i64 p.k,.bool p.f] 24 (0,0))):=aE w _
 obtain⟨g1,o1,hq1,hl1,c0,c1,c2,c3,c4,c5,c6,c7,c8,c9⟩:=(h.li.kept B1.o).ten hi
 have hkl:=(f7.1 hi).1
 have k0:(0:Int)<=(k:Int):=by omega
 have k1:(k:Int)<(p.L.length:Int):=by omega
 have OF:=aD (aI i.op)
 have hu:usA i.op=[false,false,false,false,false,false]:=by rw [ho];rfl
 have hiso:isO i.op=true:=by rw [ho];rfl
 rw [hu,hiso] at OF
 have OF:Hid (∀ w,Calls Try.prog 42 #[.int .i64 i.op] w fun e w'=>e=.returned (.tuple #[.agg #[.bool false,.bool false,.bool false,.bool false,.bool false,.bool false],.bool true])/\wBl w w'):=OF
 have o9:(i.op==9)=false:=by rw [ho];rfl
 have o10:(i.op==10)=false:=by rw [ho];rfl
 have wl:IntKind.wrap .i64 ((p.L.length:Int)-1)=(p.L.length:Int)-1:=by rw [IntKind.wrap_i64];omega
 have Hs0:=aD hs0
 clear hs0
 clear hu hiso ho
 have HQ:=aD hq1
 clear h hi hq1
 go_enter Try.func31,Try.ntmps31
 go_upto_region 1 with fail
 generalize (w.alloc (.cells #[.slice p.q p.L.length p.c,.int .i64 p.g,.int .i64 p.k,.bool p.f] 24))=w1 at B1 X1 c0 c1 c2 c3 c4 c5 c6 c7 c8 c9 ⊢
 have p0:w1.cell? ⟨w.heap.size,0,none⟩=some (.slice p.q p.L.length p.c):=aA X1.o (i:=0) rfl
 rw [HQ.o] at p0
 go_upto_region 2 with fail
 have BA:wBl w1 (w1.alloc (.cells #[.int .i64 i.op,.int .i64 i.x,.int .i64 i.y,.int .i64 i.n,.int .i64 i.mn,.int .i64 i.mx,.int .u64 (aB i.s 0),.int .u64 (aB i.s 1),.int .u64 (aB i.s 2),.int .u64 (aB i.s 3)] 47)):=bz9
 have X2:=aD ((BA.block _ (aC X1.o)).trans X1.o)
 have I2:Hid ((w1.alloc (.cells #[.int .i64 i.op,.int .i64 i.x,.int .i64 i.y,.int .i64 i.n,.int .i64 i.mn,.int .i64 i.mx,.int .u64 (aB i.s 0),.int .u64 (aB i.s 1),.int .u64 (aB i.s 2),.int .u64 (aB i.s 3)] 47)).heap[w1.heap.size]?=some (.cells #[.int .i64 i.op,.int .i64 i.x,.int .i64 i.y,.int .i64 i.n,.int .i64 i.mn,.int .i64 i.mx,.int .u64 (aB i.s 0),.int .u64 (aB i.s 1),.int .u64 (aB i.s 2),.int .u64 (aB i.s 3)] 47 (0,0))):=aE w1 _
 have B2:=aD (aF B1.o BA lz9)
 clear BA c0 c1 c2 c3 c4 c5 c6 c7 c8 c9 p0
 generalize (w1.alloc (.cells #[.int .i64 i.op,.int .i64 i.x,.int .i64 i.y,.int .i64 i.n,.int .i64 i.mn,.int .i64 i.mx,.int .u64 (aB i.s 0),.int .u64 (aB i.s 1),.int .u64 (aB i.s 2),.int .u64 (aB i.s 3)] 47))=w2 at X2 I2 B2 ⊢
 obtain⟨ib,hib⟩:∃ ib,w1.heap.size=ib:=⟨_,rfl⟩
 rw [hib] at I2 ⊢
 clear hib
 have d0:w2.cell? ⟨ib,0,none⟩=some (.int .i64 i.op):=aA I2.o (i:=0) rfl
 go_upto_region 3 with (go_at_call 42;(with_reducible refine(OF.o _).mono ?_);rintro e w3 ⟨rfl,h3⟩;have X3:=aD ((h3.block _ (aC X2.o)).trans X2.o);have I3:=aD ((h3.block _ (aC I2.o)).trans I2.o);have B3:=aD (aF B2.o h3 lz9);clear h3)
 have BA:wBl w3 (w3.alloc (.cells #[.bool false,.bool false,.bool false,.bool false,.bool false,.bool false] 84)):=bz9
 have X4:=aD ((BA.block _ (aC X3.o)).trans X3.o)
 have I4:=aD ((BA.block _ (aC I3.o)).trans I3.o)
 have U4:Hid ((w3.alloc (.cells #[.bool false,.bool false,.bool false,.bool false,.bool false,.bool false] 84)).heap[w3.heap.size]?=some (.cells #[.bool false,.bool false,.bool false,.bool false,.bool false,.bool false] 84 (0,0))):=aE w3 _
 have B4:=aD (aF B3.o BA lz9)
 clear BA X3 I3 B3 X2 I2 B2
 generalize (w3.alloc (.cells #[.bool false,.bool false,.bool false,.bool false,.bool false,.bool false] 84))=w4 at X4 I4 U4 B4 ⊢
 obtain⟨ub,hub⟩:∃ ub,w3.heap.size=ub:=⟨_,rfl⟩
 rw [hub] at U4 ⊢
 clear hub
 have p0:w4.cell? ⟨w.heap.size,0,none⟩=some (.slice p.q p.L.length p.c):=aA X4.o (i:=0) rfl
 have p1:w4.cell? ⟨w.heap.size,1,none⟩=some (.int .i64 p.g):=aA X4.o (i:=1) rfl
 have p2:w4.cell? ⟨w.heap.size,2,none⟩=some (.int .i64 p.k):=aA X4.o (i:=2) rfl
 have d0:w4.cell? ⟨ib,0,none⟩=some (.int .i64 i.op):=aA I4.o (i:=0) rfl
 have d1:w4.cell? ⟨ib,1,none⟩=some (.int .i64 i.x):=aA I4.o (i:=1) rfl
 have d2:w4.cell? ⟨ib,2,none⟩=some (.int .i64 i.y):=aA I4.o (i:=2) rfl
 have d3:w4.cell? ⟨ib,3,none⟩=some (.int .i64 i.n):=aA I4.o (i:=3) rfl
 have d4:w4.cell? ⟨ib,4,none⟩=some (.int .i64 i.mn):=aA I4.o (i:=4) rfl
 have d5:w4.cell? ⟨ib,5,none⟩=some (.int .i64 i.mx):=aA I4.o (i:=5) rfl
 have d6:w4.cell? ⟨ib,6,none⟩=some (.int .u64 (aB i.s 0)):=aA I4.o (i:=6) rfl
 have d7:w4.cell? ⟨ib,7,none⟩=some (.int .u64 (aB i.s 1)):=aA I4.o (i:=7) rfl
 have d8:w4.cell? ⟨ib,8,none⟩=some (.int .u64 (aB i.s 2)):=aA I4.o (i:=8) rfl
 have d9:w4.cell? ⟨ib,9,none⟩=some (.int .u64 (aB i.s 3)):=aA I4.o (i:=9) rfl
 have u0:w4.cell? ⟨ub,0,none⟩=some (.bool false):=aA U4.o (i:=0) rfl
 have u1:w4.cell? ⟨ub,1,none⟩=some (.bool false):=aA U4.o (i:=1) rfl
 have u2:w4.cell? ⟨ub,2,none⟩=some (.bool false):=aA U4.o (i:=2) rfl
 have u3:w4.cell? ⟨ub,3,none⟩=some (.bool false):=aA U4.o (i:=3) rfl
 have u4:w4.cell? ⟨ub,4,none⟩=some (.bool false):=aA U4.o (i:=4) rfl
 have u5:w4.cell? ⟨ub,5,none⟩=some (.bool false):=aA U4.o (i:=5) rfl
 have hs0:=Hs0.o
 go_wp2
 go_ret
 exact⟨rfl,B4.o⟩
theorem pS{w:World}{p:Pg}(h:PgI w p){k:Nat}{i:Ins}(hi:p.L[k]?=some i)(hk:p.L.length<=40000)(ho:i.op=11):Calls Try.prog 31 #[.agg #[.slice p.q p.L.length p.c,.int .i64 p.g,.int .i64 p.k,.bool p.f],.int .i64 (k:Int)] w fun e w'=>e=.returned (.bool (fnD p k i))/\wBl w w':=by
 have hkl:=(f7.1 hi).1
 by_cases hs0:i.s=0#256
 ·skip
  by_cases hx0:0<=i.x
  ·skip
   by_cases hy0:0<=i.y
   ·skip
    by_cases hxz:i.x=0
    ·skip
     by_cases hyz:i.y=0
     ·skip
      by_cases hnz:i.n=0
      ·skip
       by_cases hmnz:i.mn=0
       ·skip
        by_cases hmxz:i.mx=0
        ·skip
         exact(aS (jU h hi hk ho hs0 hx0 hy0 hxz hyz hnz hmnz hmxz) (by unfold fnD;rw [show usA i.op=[false,false,false,false,false,false] from by rw [ho];rfl];simp [ho,isO,hs0,hx0,hy0,hxz,hyz,hnz,hmnz,hmxz];try omega))
        ·skip
         exact(aS (jT h hi hk ho hs0 hx0 hy0 hxz hyz hnz hmnz hmxz) (by unfold fnD;rw [show usA i.op=[false,false,false,false,false,false] from by rw [ho];rfl];simp [ho,isO,hs0,hx0,hy0,hxz,hyz,hnz,hmnz,hmxz];try omega))
       ·skip
        exact(aS (jS h hi hk ho hs0 hx0 hy0 hxz hyz hnz hmnz) (by unfold fnD;rw [show usA i.op=[false,false,false,false,false,false] from by rw [ho];rfl];simp [ho,isO,hs0,hx0,hy0,hxz,hyz,hnz,hmnz];try omega))
      ·skip
       exact(aS (jR h hi hk ho hs0 hx0 hy0 hxz hyz hnz) (by unfold fnD;rw [show usA i.op=[false,false,false,false,false,false] from by rw [ho];rfl];simp [ho,isO,hs0,hx0,hy0,hxz,hyz,hnz];try omega))
     ·skip
      exact(aS (jQ h hi hk ho hs0 hx0 hy0 hxz hyz) (by unfold fnD;rw [show usA i.op=[false,false,false,false,false,false] from by rw [ho];rfl];simp [ho,isO,hs0,hx0,hy0,hxz,hyz];try omega))
    ·skip
     exact(aS (jP h hi hk ho hs0 hx0 hy0 hxz) (by unfold fnD;rw [show usA i.op=[false,false,false,false,false,false] from by rw [ho];rfl];simp [ho,isO,hs0,hx0,hy0,hxz];try omega))
   ·skip
    by_cases hxz:i.x=0
    ·skip
     by_cases hyz:i.y=0
     ·skip
      by_cases hnz:i.n=0
      ·skip
       by_cases hmnz:i.mn=0
       ·skip
        by_cases hmxz:i.mx=0
        ·skip
         exfalso;omega
        ·skip
         exfalso;omega
       ·skip
        exfalso;omega
      ·skip
       exfalso;omega
     ·skip
      exact(aS (jO h hi hk ho hs0 hx0 hy0 hxz hyz) (by unfold fnD;rw [show usA i.op=[false,false,false,false,false,false] from by rw [ho];rfl];simp [ho,isO,hs0,hx0,hy0,hxz,hyz];try omega))
    ·skip
     exact(aS (jN h hi hk ho hs0 hx0 hy0 hxz) (by unfold fnD;rw [show usA i.op=[false,false,false,false,false,false] from by rw [ho];rfl];simp [ho,isO,hs0,hx0,hy0,hxz];try omega))
  ·skip
   by_cases hy0:0<=i.y
   ·skip
    by_cases hxz:i.x=0
    ·skip
     by_cases hyz:i.y=0
     ·skip
      by_cases hnz:i.n=0
      ·skip
       by_cases hmnz:i.mn=0
       ·skip
        by_cases hmxz:i.mx=0
        ·skip
         exfalso;omega
        ·skip
         exfalso;omega
       ·skip
        exfalso;omega
      ·skip
       exfalso;omega
     ·skip
      exfalso;omega
    ·skip
     exact(aS (jM h hi hk ho hs0 hx0 hy0 hxz) (by unfold fnD;rw [show usA i.op=[false,false,false,false,false,false] from by rw [ho];rfl];simp [ho,isO,hs0,hx0,hy0,hxz];try omega))
   ·skip
    by_cases hxz:i.x=0
    ·skip
     by_cases hyz:i.y=0
     ·skip
      by_cases hnz:i.n=0
      ·skip
       by_cases hmnz:i.mn=0
       ·skip
        by_cases hmxz:i.mx=0
        ·skip
         exfalso;omega
        ·skip
         exfalso;omega
       ·skip
        exfalso;omega
      ·skip
       exfalso;omega
     ·skip
      exfalso;omega
    ·skip
     exact(aS (gK h hi hk ho hs0 hx0 hy0 hxz) (by unfold fnD;rw [show usA i.op=[false,false,false,false,false,false] from by rw [ho];rfl];simp [ho,isO,hs0,hx0,hy0,hxz];try omega))
 ·skip
  exact(aS (gJ h hi hk ho hs0) (by unfold fnD;rw [show usA i.op=[false,false,false,false,false,false] from by rw [ho];rfl];simp [ho,isO,hs0];try omega))
end
theorem rG{w:World}{p:Pg}(h:PgI w p){k:Nat}{i:Ins}(hi:p.L[k]?=some i)(hk:p.L.length<=40000):Calls Try.prog 31 #[.agg #[.slice p.q p.L.length p.c,.int .i64 p.g,.int .i64 p.k,.bool p.f],.int .i64 (k:Int)] w fun e w'=>e=.returned (.bool (fnD p k i))/\wBl w w':=by
 by_cases h1:i.op=1
 ·exact rP h hi hk h1
 by_cases h2:i.op=2
 ·exact rO h hi hk h2
 by_cases h3:i.op=3
 ·exact rN h hi hk h3
 by_cases h4:i.op=4
 ·exact rM h hi hk h4
 by_cases h5:i.op=5
 ·exact rL h hi hk h5
 by_cases h6:i.op=6
 ·exact rK h hi hk h6
 by_cases h7:i.op=7
 ·exact rJ h hi hk h7
 by_cases h8:i.op=8
 ·exact rI h hi hk h8
 by_cases h9:i.op=9
 ·exact rH h hi hk h9
 by_cases h10:i.op=10
 ·exact pT h hi hk h10
 by_cases h11:i.op=11
 ·exact pS h hi hk h11
 refine rQ h hi hk ?_ ?_
 ·unfold isO
  rw [j5]
  omega
 ·unfold usA
  rw [if_neg h1,if_neg h2,if_neg h3,if_neg (fun q=>q.elim h4 h5),if_neg (fun q=>by rcases q with q | q | q | q <;> contradiction),if_neg h10]
section
attribute [local go_sem] Oper.semAt_some
theorem pR{w:World}{p:Pg}(h:PgI w p):Calls Try.prog 19 #[.agg #[.slice p.q p.L.length p.c,.int .i64 p.g,.int .i64 p.k,.bool p.f]] w fun e w'=>e=.returned (.tuple #[.int .i64 (rtE p).1,.int .i64 (rtE p).2])/\wBl w w':=by
 have B1:Hid (wBl w (w.alloc (.cells #[.slice p.q p.L.length p.c,.int .i64 p.g,.int .i64 p.k,.bool p.f] 24))):=bz9
 have X1:Hid ((w.alloc (.cells #[.slice p.q p.L.length p.c,.int .i64 p.g,.int .i64 p.k,.bool p.f] 24)).heap[w.heap.size]?=some (.cells #[.slice p.q p.L.length p.c,.int .i64 p.g,.int .i64 p.k,.bool p.f] 24 (0,0))):=aE w _
 have H:=aD h
 obtain⟨r1,hr1⟩:∃ r,(rtE p).1=r:=⟨_,rfl⟩
 obtain⟨r2,hr2⟩:∃ r,(rtE p).2=r:=⟨_,rfl⟩
 have HR:Hid (rtE p=(r1,r2)):=aD (by rw [<- hr1,<- hr2])
 rw [hr1,hr2]
 unfold rtE at HR
 clear hr1 hr2 h
 go_enter Try.func19,Try.ntmps19
 go_upto_region 1 with fail
 generalize (w.alloc (.cells #[.slice p.q p.L.length p.c,.int .i64 p.g,.int .i64 p.k,.bool p.f] 24))=w1 at B1 X1 ⊢
 have p0:=aA X1.o (i:=0) rfl
 have p1:=aA X1.o (i:=1) rfl
 have p2:=aA X1.o (i:=2) rfl
 have p3:=aA X1.o (i:=3) rfl
 by_cases hl:40000<p.L.length
 ·have i0:(40000:Int)<(p.L.length:Int):=by omega
  have HE:=HR.o
  rw [if_pos hl] at HE
  obtain⟨e1,e2⟩:=Prod.mk.inj HE
  have E1:=aD e1
  have E2:=aD e2
  clear HE e1 e2 hl
  go_wp2
  go_ret2
  exact⟨by rw [<- E1.o,<- E2.o];rfl,B1.o⟩
 have i0:¬ (40000:Int)<(p.L.length:Int):=by omega
 have HR2:=HR.o
 rw [if_neg hl] at HR2
 have HL:=aD hl
 obtain⟨q,hq⟩:∃ q:Bool,q=(!blw p.g 31 || !blw p.k 41):=⟨_,rfl⟩
 rw [<- hq] at HR2
 have HR3:=aD HR2
 have HQ:=aD hq
 clear HR2 hq hl HR
 go_upto_region 3 with fail
 go_cut [27] (fun v wx=>v=.bool q/\wx=w1)
 case first=>
  by_cases c1:p.g<0
  ·have D1:=aD c1
   go_wp2
   go_meet
   exact⟨by rw [HQ.o];have:=D1.o;simp [blw];omega,rfl⟩
  ·by_cases c2:30<p.g
   ·have D1:=aD c2
    go_wp2
    go_meet
    exact⟨by rw [HQ.o];have:=D1.o;simp [blw];omega,rfl⟩
   ·by_cases c3:p.k<0
    ·have D1:=aD c3
     go_wp2
     go_meet
     exact⟨by rw [HQ.o];have:=D1.o;simp [blw];omega,rfl⟩
    ·by_cases c4:40<p.k
     ·have D1:=aD c4
      go_wp2
      go_meet
      exact⟨by rw [HQ.o];have:=D1.o;simp [blw];omega,rfl⟩
     ·have D:=aD (And.intro c1 (And.intro c2 (And.intro c3 c4)))
      go_wp2
      go_meet
      exact⟨by rw [HQ.o];have:=D.o;simp [blw];omega,rfl⟩
 case rest=>
 obtain⟨hv,hwx⟩:=hcut
 subst hv
 rw [hwx]
 clear hwx wc
 cases q with
 | true=>
  have HE:=HR3.o
  rw [if_pos rfl] at HE
  obtain⟨e1,e2⟩:=Prod.mk.inj HE
  have E1:=aD e1
  have E2:=aD e2
  clear HE e1 e2
  go_wp2
  go_ret2
  exact⟨by rw [<- E1.o,<- E2.o];rfl,B1.o⟩
 | false=>
 have HE:=HR3.o
 rw [if_neg (by decide)] at HE
 have HR4:=aD HE
 clear HE HR3
 go_wp2
 go_loopw [4] (fun v wr=>∃ k:Nat,v=.int .i64 (k:Int)/\k<=p.L.length/\fbI p 0 p.L=fbI p k (p.L.drop k)/\wBl w wr/\wr.heap[w.heap.size]?=some (.cells #[.slice p.q p.L.length p.c,.int .i64 p.g,.int .i64 p.k,.bool p.f] 24 (0,0))) (fun v _=>p.L.length-(intOf v).toNat)
 case atStart=>exact⟨0,rfl,o7 _,rfl,B1.o,X1.o⟩
 case round=>
  clear p0 p1 p2 p3
  obtain⟨k,rfl,hk,hf,hB,hX⟩:=hrel
  have HF:=aD hf
  have B2:=aD hB
  have X2:=aD hX
  clear hf hB hX
  have p0:=aA X2.o (i:=0) rfl
  have p1:=aA X2.o (i:=1) rfl
  have p2:=aA X2.o (i:=2) rfl
  have p3:=aA X2.o (i:=3) rfl
  by_cases hkl:k<p.L.length
  ·have i1:(k:Int)<(p.L.length:Int):=by omega
   obtain⟨i,hi⟩:∃ i,p.L[k]?=some i:=⟨_,j4 hkl⟩
   have FD:=iC p hi
   have FC:=aD (rG (H.o.kept B2.o) hi (by have:=HL.o;omega))
   rw [qJ] at FC
   have hw1:IntKind.wrap .i64 ((k:Int)+1)=(k:Int)+1:=wrap_small _ (by omega) (by have:=HL.o;omega)
   obtain⟨b,hb⟩:∃ b,bL p k i=b:=⟨_,rfl⟩
   rw [hb] at FC FD
   have FD2:=aD FD
   have i2:¬ (p.L.length:Int)=0:=by omega
   have hne:p.L.length≠0:=by omega
   have HNE:=aD hne
   clear hb hi FD hne
   cases b with
   | false=>
    have HE:=HR4.o
    rw [if_neg HNE.o,HF.o,FD2.o] at HE
    simp only [Bool.false_eq_true,if_false] at HE
    obtain⟨e1,e2⟩:=Prod.mk.inj HE
    have E1:=aD e1
    have E2:=aD e2
    clear HE e1 e2
    go_wp2_with (go_at_call 31;(with_reducible refine(FC.o).mono ?_);rintro e w5 ⟨rfl,h5⟩;have B5:=aD (aF B2.o h5 lz9);clear h5)
    go_ret2
    exact⟨by rw [<- E1.o,<- E2.o];rfl,B5.o⟩
   | true=>
    have HF2:Hid (fbI p 0 p.L=fbI p (k+1) (p.L.drop (k+1))):=aD (by rw [HF.o,FD2.o,if_pos rfl])
    go_wp2_with (go_at_call 31;(with_reducible refine(FC.o).mono ?_);rintro e w5 ⟨rfl,h5⟩;have B5:=aD (aF B2.o h5 lz9);have X5:=aD ((h5.block _ (aC X2.o)).trans X2.o);clear h5)
    go_roundw
    case rel=>exact⟨k+1,by go_num,hkl,HF2.o,B5.o,X5.o⟩
    case measure=>simp only [intOf];omega
  ·have i1:¬ (k:Int)<(p.L.length:Int):=by omega
   by_cases hz:p.L.length=0
   ·have i2:((p.L.length:Int)==0)=true:=by rw [beq_iff_eq];omega
    have i3:(p.L.length:Int)=0:=by omega
    have HE:=HR4.o
    rw [if_pos hz] at HE
    obtain⟨e1,e2⟩:=Prod.mk.inj HE
    have E1:=aD e1
    have E2:=aD e2
    clear HE e1 e2 hz
    go_wp2
    go_ret2
    exact⟨by rw [<- E1.o,<- E2.o];rfl,B2.o⟩
   ·have i2:((p.L.length:Int)==0)=false:=by rw [f8];omega
    have HE:=HR4.o
    rw [if_neg hz,HF.o,List.drop_eq_nil_of_le (by omega)] at HE
    simp only [fbI] at HE
    obtain⟨e1,e2⟩:=Prod.mk.inj HE
    have E1:=aD e1
    have E2:=aD e2
    clear HE e1 e2 hz
    go_wp2
    go_ret2
    exact⟨by rw [<- E1.o,<- E2.o];rfl,B2.o⟩
end
section
attribute [local go_sem] Oper.semAt_some
theorem rF{w:World}{p:Pg}(h:PgI w p):Calls Try.prog 20 #[.agg #[.slice p.q p.L.length p.c,.int .i64 p.g,.int .i64 p.k,.bool p.f]] w fun e w'=>e=.returned (.bool (cB p))/\wBl w w':=by
 have B1:Hid (wBl w (w.alloc (.cells #[.slice p.q p.L.length p.c,.int .i64 p.g,.int .i64 p.k,.bool p.f] 24))):=bz9
 have X1:Hid ((w.alloc (.cells #[.slice p.q p.L.length p.c,.int .i64 p.g,.int .i64 p.k,.bool p.f] 24)).heap[w.heap.size]?=some (.cells #[.slice p.q p.L.length p.c,.int .i64 p.g,.int .i64 p.k,.bool p.f] 24 (0,0))):=aE w _
 have H:=aD (h.kept B1.o)
 have hlen:=h.len
 obtain⟨r,hr⟩:∃ r,cB p=r:=⟨_,rfl⟩
 rw [hr]
 have HR:Hid ((!p.L.any bU)=r):=aD hr
 clear h hr
 go_enter Try.func20,Try.ntmps20
 go_upto_region 1 with fail
 generalize (w.alloc (.cells #[.slice p.q p.L.length p.c,.int .i64 p.g,.int .i64 p.k,.bool p.f] 24))=w1 at B1 X1 H ⊢
 have x0:w1.cell? ⟨w.heap.size,0,none⟩=some (.slice p.q p.L.length p.c):=aA X1.o (i:=0) rfl
 go_wp2
 go_loopw [3] (fun i wr=>∃ j:Nat,j<=p.L.length/\i=.int .i64 (j:Int)/\(p.L.take j).any bU=false/\wr=w1) (fun i _=>p.L.length-(intOf i).toNat)
 case atStart=>exact⟨0,o7 _,rfl,rfl,rfl⟩
 case round=>
  obtain⟨j,hj,rfl,hpre,hwr⟩:=hrel
  subst hwr
  have HP:=aD hpre
  clear hpre
  by_cases hjl:j<p.L.length
  ·have i0:(j:Int)<(p.L.length:Int):=by omega
   obtain⟨a9,hga⟩:∃ a,p.L[j]?=some a:=⟨_,j4 hjl⟩
   obtain⟨g1,o1,hq1,hl1,c0,c1,c2,c3,c4,c5,c6,c7,c8,c9⟩:=H.o.li.ten hga
   clear c1 c2 c3 c4 c5 c6 c7 c8 c9
   have GA:=aD hga
   have hw1:IntKind.wrap .i64 ((j:Int)+1)=(j:Int)+1:=wrap_small _ (by omega) (by omega)
   rw [hq1] at x0
   obtain⟨oo,hoo⟩:∃ oo,a9.op=oo:=⟨_,rfl⟩
   rw [hoo] at c0
   have HOO:=aD hoo
   clear hga hoo hq1
   have yes:∀ o:Int,oo=o->(o=8\/o=9\/o=10)->r=false:=fun o e h=>by
    rw [<- HR.o]
    have:p.L.any bU=true:=List.any_eq_true.2 ⟨a9,j8 GA.o,by unfold bU;rw [HOO.o,e];rcases h with rfl | rfl | rfl <;> rfl⟩
    rw [this]
    rfl
   have Y:=aD yes
   clear yes
   by_cases h8:oo=8
   ·have HN:=aD (Y.o 8 h8 (.inl rfl))
    subst h8
    go_wp2
    go_ret
    exact⟨by rw [HN.o];rfl,B1.o⟩
   by_cases h9:oo=9
   ·have HN:=aD (Y.o 9 h9 (.inr (.inl rfl)))
    subst h9
    go_wp2
    go_ret
    exact⟨by rw [HN.o];rfl,B1.o⟩
   by_cases h10:oo=10
   ·have HN:=aD (Y.o 10 h10 (.inr (.inr rfl)))
    subst h10
    go_wp2
    go_ret
    exact⟨by rw [HN.o];rfl,B1.o⟩
   have e8:(oo==8)=false:=by rw [f8];exact h8
   have e9:(oo==9)=false:=by rw [f8];exact h9
   have e10:(oo==10)=false:=by rw [f8];exact h10
   have HN:=aD (show (p.L.take (j+1)).any bU=false by
    rw [List.take_add_one,GA.o,List.any_append,HP.o]
    simp only [Option.toList_some,List.any_cons,List.any_nil,Bool.or_false,Bool.false_or]
    unfold bU
    rw [HOO.o,e8,e9,e10]
    rfl)
   clear h8 h9 h10
   go_wp2
   go_roundw
   case rel=>exact⟨j+1,by omega,by go_num,HN.o,by first | rfl | trivial⟩
   case measure=>simp only [intOf];omega
  ·have i0:¬ (j:Int)<(p.L.length:Int):=by omega
   have HN:Hid (r=true):=aD (by
    have:=HP.o
    rw [List.take_of_length_le (by omega)] at this
    rw [<- HR.o,this]
    rfl)
   go_wp2
   go_ret
   exact⟨by rw [HN.o];rfl,B1.o⟩
end
section
set_option linter.unusedSimpArgs false
set_option linter.unusedVariables false
attribute [local go_sem] Oper.semAt_some
theorem cD{w w':World}{base:Nat}{t:TypeId}{s n:Nat}{v:Value}{xs:List Value}(h:w.ownsRow base t s v n xs)(hb:wBl w w'):w'.ownsRow base t s v n xs:=dF h (Fr.of_below (S:=fun _=>False) hb) (fun _ _ e=>e)
theorem kM(M:List Ins)(k:Nat):(bM M)[k]?=(M[k/10]?).bind fun i=>(inC i)[k%10]?:=by
 cases hM:M[k/10]? with
 | some i=>
  have hm:k%10<(inC i).length:=by rw [cL];omega
  have:=eS hM (k%10) _ (j4 hm)
  rw [show k/10*10+k%10=k by omega] at this
  rw [this]
  simp [List.getElem?_eq_getElem hm]
 | none=>
  have:M.length<=k/10:=List.getElem?_eq_none_iff.1 hM
  rw [List.getElem?_eq_none (by rw [dB];omega)]
  rfl
theorem fE{w:World}{base g c n:Nat}{M:List Ins}(h:w.ownsRow base 47 10 (.slice (some ⟨g,0,none⟩) n c) n (bM M)){j:Nat}{i:Ins}(hi:M[j]?=some i):g<w.heap.size/\w.cell? ⟨g,j*10,none⟩=some (.int .i64 i.op):=by
 refine⟨(dG h (g:=g) rfl).2.1,fW h ?_⟩
 rw [kM,show j*10/10=j by omega,hi,show j*10%10=0 by omega]
 rfl
theorem pJ(p:Pg)(g c:Nat):smB ⟨some ⟨g,0,none⟩,p.L,c,p.g,p.k,p.f⟩ p=true:=by simp [smB]
theorem pX{w:World}{p:Pg}{base g c:Nat}(hn:p.L.length<=9223372036854775807)(ho:w.ownsRow base 47 10 (.slice (some ⟨g,0,none⟩) (p.L.length+2) c) (p.L.length+2) (bM (p.L++[mkI,mkI]))):PgI w ⟨some ⟨g,0,none⟩,p.L,c,p.g,p.k,p.f⟩:=by
 refine⟨hn,?_⟩
 have h:=ho
 rw [dS,fX] at h
 exact tE h
theorem lE{w:World}{p:Pg}{base g c:Nat}(hp:PgI w p)(ho:w.ownsRow base 47 10 (.slice (some ⟨g,0,none⟩) (p.L.length+2) c) (p.L.length+2) (bM (p.L++[mkI,mkI])))(hb:p.L.length*80+160<=140737488355328) :
  Calls Try.prog 8 #[.agg #[.slice (some ⟨g,0,none⟩) p.L.length c,.int .i64 p.g,.int .i64 p.k,.bool p.f],.agg #[.slice p.q p.L.length p.c,.int .i64 p.g,.int .i64 p.k,.bool p.f]] w fun e w'=>e=.returned (.bool true)/\wBl w w':=by
 have HQ0:=pX hp.len ho
 have BA:wBl w ((w.alloc (.cells #[.slice (some ⟨g,0,none⟩) p.L.length c,.int .i64 p.g,.int .i64 p.k,.bool p.f] 24)).alloc (.cells #[.slice p.q p.L.length p.c,.int .i64 p.g,.int .i64 p.k,.bool p.f] 24)):=(bz9).alloc (by simp) _
 have X1:Hid (((w.alloc (.cells #[.slice (some ⟨g,0,none⟩) p.L.length c,.int .i64 p.g,.int .i64 p.k,.bool p.f] 24)).alloc (.cells #[.slice p.q p.L.length p.c,.int .i64 p.g,.int .i64 p.k,.bool p.f] 24)).heap[w.heap.size]?=some (.cells #[.slice (some ⟨g,0,none⟩) p.L.length c,.int .i64 p.g,.int .i64 p.k,.bool p.f] 24 (0,0))):=(Below.heap_alloc _ _ _ (by simp)).trans (aE w _)
 have Y1:Hid (((w.alloc (.cells #[.slice (some ⟨g,0,none⟩) p.L.length c,.int .i64 p.g,.int .i64 p.k,.bool p.f] 24)).alloc (.cells #[.slice p.q p.L.length p.c,.int .i64 p.g,.int .i64 p.k,.bool p.f] 24)).heap[w.heap.size+1]?=some (.cells #[.slice p.q p.L.length p.c,.int .i64 p.g,.int .i64 p.k,.bool p.f] 24 (0,0))):=aD (by have:=aE (w.alloc (.cells #[.slice (some ⟨g,0,none⟩) p.L.length c,.int .i64 p.g,.int .i64 p.k,.bool p.f] 24)) (.cells #[.slice p.q p.L.length p.c,.int .i64 p.g,.int .i64 p.k,.bool p.f] 24);rw [o6] at this;exact this)
 have B1:=aD BA
 have P1:=aD (hp.kept BA)
 have Q1:=aD (HQ0.kept BA)
 have O1:=aD (cD ho BA)
 have HC:=aD (rC Q1.o P1.o)
 rw [pJ] at HC
 have hcap:=gU ho
 have hlen:=hp.len
 have S1:Hid (w.heap.size+1<((w.alloc (.cells #[.slice (some ⟨g,0,none⟩) p.L.length c,.int .i64 p.g,.int .i64 p.k,.bool p.f] 24)).alloc (.cells #[.slice p.q p.L.length p.c,.int .i64 p.g,.int .i64 p.k,.bool p.f] 24)).heap.size):=aC Y1.o
 obtain⟨pq,pL,pc,pg,pk,pf⟩:=p
 dsimp only at *
 clear hp ho HQ0 BA
 go_enter Try.func8,Try.ntmps8
 go_upto_region 1 with fail
 generalize ((w.alloc (.cells #[.slice (some ⟨g,0,none⟩) pL.length c,.int .i64 pg,.int .i64 pk,.bool pf] 24)).alloc (.cells #[.slice pq pL.length pc,.int .i64 pg,.int .i64 pk,.bool pf] 24))=w1 at B1 X1 Y1 P1 Q1 O1 HC S1 ⊢
 have lx:=aC X1.o
 have ly:=aC Y1.o
 have p0:=aA X1.o (i:=0) rfl
 have p1:=aA X1.o (i:=1) rfl
 have p2:=aA X1.o (i:=2) rfl
 have p3:=aA X1.o (i:=3) rfl
 have q0:=aA Y1.o (i:=0) rfl
 have q1:=aA Y1.o (i:=1) rfl
 have q2:=aA Y1.o (i:=2) rfl
 have q3:=aA Y1.o (i:=3) rfl
 go_upto_region 2 with (go_at_call 18;(with_reducible refine(HC.o).mono ?_);rintro e w2 ⟨rfl,h2⟩;have B2:=aD (aF B1.o h2 lz9);have X2:=aD ((h2.block _ lx).trans X1.o);have Y2:=aD ((h2.block _ ly).trans Y1.o);have O2:=aD (cD O1.o h2);clear h2)
 clear p0 p1 p2 p3 q0 q1 q2 q3 lx ly HC
 have p0:=aA X2.o (i:=0) rfl
 have q0:=aA Y2.o (i:=0) rfl
 have hw2:IntKind.wrap .i64 ((pL.length:Int)+2)=(pL.length:Int)+2:=wrap_small _ (by omega) (by omega)
 have hw1:IntKind.wrap .i64 ((pL.length:Int)+1)=(pL.length:Int)+1:=wrap_small _ (by omega) (by omega)
 have i0:(0:Int)<=(pL.length:Int)+2:=by omega
 have i1:(pL.length:Int)+2<=(c:Int):=by omega
 have e2:((pL.length:Int)+2).toNat=pL.length+2:=by omega
 have hT1:=fE O2.o (j:=pL.length) (i:=mkI) (by simp)
 have hT2:=fE O2.o (j:=pL.length+1) (i:=mkI) (by rw [o3 (by omega)];simp)
 have lg:=hT1.1
 have t0:w2.cell? ⟨g,pL.length*10,none⟩=some (.int .i64 (-7)):=hT1.2
 have t1:w2.cell? ⟨g,(pL.length+1)*10,none⟩=some (.int .i64 (-7)):=hT2.2
 have i3:(pL.length:Int)<(pL.length:Int)+2:=by omega
 have i4:(0:Int)<=(pL.length:Int):=by omega
 have i5:(pL.length:Int)+1<(pL.length:Int)+2:=by omega
 have i6:(0:Int)<=(pL.length:Int)+1:=by omega
 have e1:((pL.length:Int)+1).toNat=pL.length+1:=by omega
 clear hT1 hT2
 go_wp2
 go_ret
 exact⟨rfl,B2.o⟩
theorem fB{w:World}{p:Pg}(h:PgI w p)(s:ByteArray)(pl:Int):Calls Try.prog 9 #[.agg #[.slice p.q p.L.length p.c,.int .i64 p.g,.int .i64 p.k,.bool p.f],.string s,.int .i64 pl] w fun e w'=>e=.returned (.int .i64 (wrM p s.size pl))/\wBl w w':=by
 have B1:Hid (wBl w (w.alloc (.cells #[.slice p.q p.L.length p.c,.int .i64 p.g,.int .i64 p.k,.bool p.f] 24))):=bz9
 have X1:Hid ((w.alloc (.cells #[.slice p.q p.L.length p.c,.int .i64 p.g,.int .i64 p.k,.bool p.f] 24)).heap[w.heap.size]?=some (.cells #[.slice p.q p.L.length p.c,.int .i64 p.g,.int .i64 p.k,.bool p.f] 24 (0,0))):=aE w _
 have H:=aD (h.kept B1.o)
 have HR:=aD (pR H.o)
 have HF:=aD (fun V (hV:PgI V p)=>rF hV)
 obtain⟨a,ha⟩:∃ a,(rtE p).1=a:=⟨_,rfl⟩
 obtain⟨b,hb⟩:∃ b,(rtE p).2=b:=⟨_,rfl⟩
 obtain⟨f,hf⟩:∃ f,cB p=f:=⟨_,rfl⟩
 have EW:Hid (wrM p s.size pl=if a≠0 then a else if f=false then 51 else if pl<0\/(s.size:Int)<pl then 1 else 0):=aD (by unfold wrM;rw [ha,hf])
 rw [ha,hb] at HR
 rw [hf] at HF
 rw [EW.o]
 clear h ha hb hf EW
 go_enter Try.func9,Try.ntmps9
 go_upto_region 1 with fail
 generalize (w.alloc (.cells #[.slice p.q p.L.length p.c,.int .i64 p.g,.int .i64 p.k,.bool p.f] 24))=w1 at B1 X1 H HR ⊢
 have lx:=aC X1.o
 have p0:=aA X1.o (i:=0) rfl
 have p1:=aA X1.o (i:=1) rfl
 have p2:=aA X1.o (i:=2) rfl
 have p3:=aA X1.o (i:=3) rfl
 by_cases hz:a=0
 ·subst hz
  go_upto_region 4 with (go_at_call 19;(with_reducible refine(HR.o).mono ?_);rintro e w2 ⟨rfl,h2⟩;have B2:=aD (aF B1.o h2 lz9);have X2:=aD ((h2.block _ lx).trans X1.o);have H2:=aD (H.o.kept h2);clear h2)
  clear p0 p1 p2 p3
  have p0:=aA X2.o (i:=0) rfl
  have p1:=aA X2.o (i:=1) rfl
  have p2:=aA X2.o (i:=2) rfl
  have p3:=aA X2.o (i:=3) rfl
  have HF2:=aD (HF.o _ H2.o)
  cases f with
  | false=>
   go_wp2_with (go_at_call 20;(with_reducible refine(HF2.o).mono ?_);rintro e w3 ⟨rfl,h3⟩;have B3:=aD (aF B2.o h3 lz9);clear h3)
   go_ret
   exact⟨by simp,B3.o⟩
  | true=>
   by_cases h0:pl<0
   ·go_wp2_with (go_at_call 20;(with_reducible refine(HF2.o).mono ?_);rintro e w3 ⟨rfl,h3⟩;have B3:=aD (aF B2.o h3 lz9);clear h3)
    go_ret
    exact⟨by simp [h0],B3.o⟩
   ·by_cases h1:(s.size:Int)<pl
    ·go_wp2_with (go_at_call 20;(with_reducible refine(HF2.o).mono ?_);rintro e w3 ⟨rfl,h3⟩;have B3:=aD (aF B2.o h3 lz9);clear h3)
     go_ret
     exact⟨by simp [h1],B3.o⟩
    ·go_wp2_with (go_at_call 20;(with_reducible refine(HF2.o).mono ?_);rintro e w3 ⟨rfl,h3⟩;have B3:=aD (aF B2.o h3 lz9);clear h3)
     go_ret
     exact⟨by simp [h0,h1],B3.o⟩
 ·have z0:(a != 0)=true:=by simp [hz]
  go_wp2_with (go_at_call 19;(with_reducible refine(HR.o).mono ?_);rintro e w2 ⟨rfl,h2⟩;have B2:=aD (aF B1.o h2 lz9);clear h2)
  go_ret
  exact⟨by simp [hz],B2.o⟩
end
section
set_option linter.unusedSimpArgs false
attribute [local go_sem] Oper.semAt_some
def aN:bH:=1#256 <<< 97
theorem uR:aB aN 0=0/\aB aN 1=8589934592/\aB aN 2=0/\aB aN 3=0:=by decide +kernel
theorem uM:aB (0#256) 0=0/\aB (0#256) 1=0/\aB (0#256) 2=0/\aB (0#256) 3=0:=by decide +kernel
def smN:List Ins:=[⟨2,1,3,0,0,0,0#256⟩,⟨1,0,0,0,0,0,aN⟩,⟨3,0,0,0,0,0,0#256⟩,⟨11,0,0,0,0,0,0#256⟩]
def twN:List Ins:=[⟨1,0,0,0,0,0,aN⟩,⟨11,0,0,0,0,0,0#256⟩]
abbrev lpA:Array Value:=#[.int .i64 2,.int .i64 1,.int .i64 3,.int .i64 0,.int .i64 0,.int .i64 0,.int .u64 0,.int .u64 0,.int .u64 0,.int .u64 0,.int .i64 1,.int .i64 0,.int .i64 0,.int .i64 0,.int .i64 0,.int .i64 0,.int .u64 0,.int .u64 8589934592,.int .u64 0,.int .u64 0,.int .i64 3,.int .i64 0,.int .i64 0,.int .i64 0,.int .i64 0,.int .i64 0,.int .u64 0,.int .u64 0,.int .u64 0,.int .u64 0,.int .i64 11,.int .i64 0,.int .i64 0,.int .i64 0,.int .i64 0,.int .i64 0,.int .u64 0,.int .u64 0,.int .u64 0,.int .u64 0]
theorem gY{w:World}{g o:Nat}{cur:Array Value}{L:List Ins}(h:w.heap[g]?=some (.cells cur 47 (0,0)))(hc:∀ (j:Nat) (i:Ins),L[j]?=some i->∀ (m:Nat) (v:Value),(inC i)[m]?=some v->cur[o+j*10+m]?=some v):LI w (some ⟨g,o,none⟩) L:=fun j i hi=>by
 refine⟨g,o,rfl,aC h,fun m v hm=>?_⟩
 have:=hc j i hi m v hm
 simp [World.cell?,h,this]
theorem dQ{i:Ins}{m:Nat}{v:Value}(hm:(inC i)[m]?=some v){P:Nat->Value->Prop}(h0:P 0 (.int .i64 i.op))(h1:P 1 (.int .i64 i.x))(h2:P 2 (.int .i64 i.y))(h3:P 3 (.int .i64 i.n))(h4:P 4 (.int .i64 i.mn))(h5:P 5 (.int .i64 i.mx))(h6:P 6 (.int .u64 (aB i.s 0)))(h7:P 7 (.int .u64 (aB i.s 1)))(h8:P 8 (.int .u64 (aB i.s 2)))(h9:P 9 (.int .u64 (aB i.s 3))):P m v:=by
 have hm10:m<10:=by have:=(f7.1 hm).1;rwa [cL] at this
 match m,hm10,hm with
 | 0,_,hm=>cases hm;exact h0
 | 1,_,hm=>cases hm;exact h1
 | 2,_,hm=>cases hm;exact h2
 | 3,_,hm=>cases hm;exact h3
 | 4,_,hm=>cases hm;exact h4
 | 5,_,hm=>cases hm;exact h5
 | 6,_,hm=>cases hm;exact h6
 | 7,_,hm=>cases hm;exact h7
 | 8,_,hm=>cases hm;exact h8
 | 9,_,hm=>cases hm;exact h9
theorem uN{w:World}{g:Nat}(h:w.heap[g]?=some (.cells lpA 47 (0,0))):LI w (some ⟨g,0,none⟩) smN:=gY h fun j i hi m v hm=>by
 have hj:j<4:=(f7.1 hi).1
 obtain⟨a0,a1,a2,a3⟩:=uR
 obtain⟨n0,n1,n2,n3⟩:=uM
 match j,hj,hi with
 | 0,_,hi=>cases hi;refine dQ (P:=fun m v=>lpA[0+0*10+m]?=some v) hm ?_ ?_ ?_ ?_ ?_ ?_ ?_ ?_ ?_ ?_ <;> simp [a0,a1,a2,a3,n0,n1,n2,n3]
 | 1,_,hi=>cases hi;refine dQ (P:=fun m v=>lpA[0+1*10+m]?=some v) hm ?_ ?_ ?_ ?_ ?_ ?_ ?_ ?_ ?_ ?_ <;> simp [a0,a1,a2,a3,n0,n1,n2,n3]
 | 2,_,hi=>cases hi;refine dQ (P:=fun m v=>lpA[0+2*10+m]?=some v) hm ?_ ?_ ?_ ?_ ?_ ?_ ?_ ?_ ?_ ?_ <;> simp [a0,a1,a2,a3,n0,n1,n2,n3]
 | 3,_,hi=>cases hi;refine dQ (P:=fun m v=>lpA[0+3*10+m]?=some v) hm ?_ ?_ ?_ ?_ ?_ ?_ ?_ ?_ ?_ ?_ <;> simp [a0,a1,a2,a3,n0,n1,n2,n3]
theorem qB(w:World):Calls Try.prog 14 #[] w fun e w'=>∃ g,e=.returned (.agg #[.slice (some ⟨g,0,none⟩) 4 4,.int .i64 0,.int .i64 0,.bool false])/\w'.heap[g]?=some (.cells lpA 47 (0,0))/\w.heap.size<=g/\wBl w w':=by
 go_enter Try.func14,Try.ntmps14
 go_wp2
 refine bodyPost_ret (v:=.agg #[.slice (some ⟨w.heap.size+1+1,0,none⟩) 4 4,.int .i64 0,.int .i64 0,.bool false]) (by simp [results,Try.results14,go_sem]) rfl ?_
 refine⟨_,rfl,?_,by omega,((bz9).alloc (by simp) _).alloc (by simp;omega) _⟩
 have:=aE ((w.alloc (.cells #[.slice (some ⟨w.heap.size+1+1,0,none⟩) 4 4,.int .i64 0,.int .i64 0,.bool false] 24)).alloc (.cells #[.int .u64 0,.int .u64 8589934592,.int .u64 0,.int .u64 0] 45)) (.cells lpA 47)
 rw [o6,o6] at this
 exact this
theorem sU(q:Option Addr)(c:Nat):rtE ⟨q,smN,c,0,0,false⟩=(0,0):=by kernel_rfl
theorem pQ(q:Option Addr)(c:Nat):rtE ⟨q,twN,c,0,0,false⟩=(0,0):=by kernel_rfl
theorem tN(q:Option Addr)(c:Nat):cB ⟨q,smN,c,0,0,false⟩=true:=by kernel_rfl
theorem qH(q:Option Addr)(c:Nat):cB ⟨q,twN,c,0,0,false⟩=true:=by kernel_rfl
theorem rA{a:Nat}{i:Ins}(h:smN[a]?=some i)(ho:i.op=1):a=1/\i.s=aN:=by
 have hj:a<4:=(f7.1 h).1
 match a,hj,h with
 | 0,_,h=>cases h;exact absurd ho (by decide)
 | 1,_,h=>cases h;exact⟨rfl,rfl⟩
 | 2,_,h=>cases h;exact absurd ho (by decide)
 | 3,_,h=>cases h;exact absurd ho (by decide)
theorem qS:aO aN 97=true:=by decide +kernel
theorem qR:aO aN 98=false:=by decide +kernel
theorem uO{n:Int}{ok:Bool}(h:LgS smN [97,97,98] 0 n ok):n=2/\ok=true:=by
 have r0:Rc smN [97,97,98] 0 0 0:=Rc.start
 have r1:Rc smN [97,97,98] 0 0 1:=r0.eps (i:=⟨2,1,3,0,0,0,0#256⟩) rfl (by decide)
 have r2:Rc smN [97,97,98] 0 1 2:=r1.byte (i:=⟨1,0,0,0,0,0,aN⟩) (c:=97) rfl rfl rfl qS
 have r3:Rc smN [97,97,98] 0 1 0:=r2.eps (i:=⟨3,0,0,0,0,0,0#256⟩) rfl (by decide)
 have r4:Rc smN [97,97,98] 0 1 1:=r3.eps (i:=⟨2,1,3,0,0,0,0#256⟩) rfl (by decide)
 have r5:Rc smN [97,97,98] 0 2 2:=r4.byte (i:=⟨1,0,0,0,0,0,aN⟩) (c:=97) rfl rfl rfl qS
 have r6:Rc smN [97,97,98] 0 2 0:=r5.eps (i:=⟨3,0,0,0,0,0,0#256⟩) rfl (by decide)
 have r7:Rc smN [97,97,98] 0 2 3:=r6.eps (i:=⟨2,1,3,0,0,0,0#256⟩) rfl (by decide)
 have m2:Mt smN [97,97,98] 0 2:=⟨3,⟨11,0,0,0,0,0,0#256⟩,r7,rfl,rfl⟩
 have up:∀ e,Mt smN [97,97,98] 0 e->e<=2:=fun e ⟨a,i,hr,_,_⟩=>by
  refine hr.ind (Q:=fun pl _=>pl<=2) (by omega) (fun _ _ _ _ _ q _ _=>q) (fun pl a i c _ q hi ho hc hs=>?_)
  rcases Nat.lt_or_eq_of_le q with q | rfl
  ·omega
  ·obtain⟨_,hs'⟩:=rA hi ho
   cases hc
   rw [hs'] at hs
   exact absurd (qR.symm.trans hs) (by decide)
 rcases h with⟨rfl,_,h⟩ | ⟨rfl,e,rfl,h1,h2⟩
 ·exact absurd m2 (h 2)
 ·have:=up e h1
  have:=h2 2 m2
  exact⟨by omega,rfl⟩
theorem tU{b pl:Nat}{a:Int}(h:Rc twN [98,97,98] b pl a):(pl=b/\a=0)\/(b=1/\pl=2/\a=1):=by
 refine h.ind (Q:=fun pl a=>(pl=b/\a=0)\/(b=1/\pl=2/\a=1)) (.inl ⟨rfl,rfl⟩) (fun pl a i x _ q hi hx=>?_) (fun pl a i c _ q hi ho hc hs=>?_)
 ·rcases q with⟨_,rfl⟩ | ⟨_,_,rfl⟩
  ·cases hi
   cases hx
  ·cases hi
   cases hx
 ·rcases q with⟨rfl,rfl⟩ | ⟨_,_,rfl⟩
  ·cases hi
   have hpl:pl<3:=(f7.1 hc).1
   match pl,hpl,hc with
   | 0,_,hc=>cases hc;exact absurd (qR.symm.trans hs) (by decide)
   | 1,_,_=>exact .inr ⟨rfl,rfl,rfl⟩
   | 2,_,hc=>cases hc;exact absurd (qR.symm.trans hs) (by decide)
  ·cases hi
   exact absurd ho (by decide)
theorem sH{b e:Nat}(h:Mt twN [98,97,98] b e):b=1/\e=2:=by
 obtain⟨a,i,hr,hi,ho⟩:=h
 rcases tU hr with⟨_,rfl⟩ | ⟨h1,h2,_⟩
 ·cases hi
  exact absurd ho (by decide)
 ·exact⟨h1,h2⟩
theorem uT:Mt twN [98,97,98] 1 2:=by
 have r0:Rc twN [98,97,98] 1 1 0:=Rc.start
 have r1:Rc twN [98,97,98] 1 2 1:=r0.byte (i:=⟨1,0,0,0,0,0,aN⟩) (c:=97) rfl rfl rfl qS
 exact⟨1,⟨11,0,0,0,0,0,0#256⟩,r1,rfl,rfl⟩
theorem uP{F T:Int}{ok:Bool}(h:dT twN [98,97,98] 0 3 ok F T):F=1/\T=2/\ok=true:=by
 cases ok with
 | false=>exact absurd uT (h.no rfl 1 2 (by omega) (by omega))
 | true=>
  obtain⟨b,e,q1,q2,_,_,q5,_⟩:=h.yes rfl
  obtain⟨rfl,rfl⟩:=sH q5
  exact⟨q1,q2,rfl⟩
theorem tO{F T:Int}{ok:Bool}(h:dT twN [98,97,98] 2 3 ok F T):F=0/\T=0/\ok=false:=by
 cases ok with
 | false=>exact⟨(h.z rfl).1,(h.z rfl).2,rfl⟩
 | true=>
  obtain⟨b,e,q1,q2,q3,_,q5,_⟩:=h.yes rfl
  obtain⟨rfl,rfl⟩:=sH q5
  omega
theorem oZ(n:Nat)(a0 a1 b0 b1:Int)(w:World):(Op.equalIn (n+2) 37 (.agg #[.int .i64 a0,.int .i64 a1]) (.agg #[.int .i64 b0,.int .i64 b1])).run Try.prog w=.ok (a0==b0&&a1==b1) w:=by
 have u3:=Try.underlying3
 have a3':=Try.isAgg3
 have z3:=Try.sizeOf3
 have hS:Try.prog.underlying 37=some (.struct (Try.prog.fieldsOf 37)):=by kernel_rfl
 have hp:Try.prog.stoodInHeld 37=false:=by kernel_rfl
 rw [show n+2=(n+1)+1 from rfl,run_equalIn_agg w (n+1) 37 _ _ hS hp]
 simp only [Program.fieldsOf,Try.underlying37]
 go_simp
 clear hS hp u3 a3' z3
 by_cases h0:a0=b0 <;> by_cases h1:a1=b1 <;> simp [h0,h1]
theorem iD:Try.prog.eqGuardType Try.prog.depth 37=false:=by kernel_rfl
theorem kY(a0 a1 b0 b1:Int)(w:World):(binOp .eql 37 (.agg #[.int .i64 a0,.int .i64 a1]) (.agg #[.int .i64 b0,.int .i64 b1])).run Try.prog w=.ok (.bool (a0==b0&&a1==b1)) w:=by
 have e':(Op.equal 37 (.agg #[.int .i64 a0,.int .i64 a1]) (.agg #[.int .i64 b0,.int .i64 b1])).run Try.prog w=.ok (a0==b0&&a1==b1) w:=oZ 9998 _ _ _ _ w
 simp only [binOp]
 simp [e']
end
end Go.Proofs.Ytliflleaeimngaa
