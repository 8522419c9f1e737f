/-
  Parts of the proof.
-/
import Derived.Test.YtliflleaeimngaaGreatDoorRightsProofA0
import Derived.Test.YtliflleaeimngaaGreatDoorRightsProofB5
import Derived.Test.YtliflleaeimngaaGreatDoorRightsProofB6
import Derived.Test.YtliflleaeimngaaGreatDoorRightsProofB7
import Derived.Test.YtliflleaeimngaaGreatDoorRightsProofB8
import Derived.Test.YtliflleaeimngaaGreatDoorRightsProofB9
import Derived.Test.YtliflleaeimngaaGreatDoorRightsProofB10
import Derived.Test.YtliflleaeimngaaGreatDoorRightsProofB11
import Derived.Test.YtliflleaeimngaaGreatDoorRightsProofB12
import Derived.Test.YtliflleaeimngaaGreatDoorRightsProofB13
import Derived.Test.YtliflleaeimngaaGreatDoorRightsProofB14
import Derived.Test.YtliflleaeimngaaGreatDoorRightsProofB15
import Derived.Test.YtliflleaeimngaaGreatDoorRightsProofB3
import Derived.Deep.DeepCutAuto
set_option linter.unusedSimpArgs false
set_option maxRecDepth 100000
set_option maxHeartbeats 8000000
namespace Go.Proofs.YtliflleaeimngaaGreatDoor
open Go Go.RowKit
section
set_option linter.unusedSimpArgs false
set_option linter.unusedVariables false
attribute [local go_sem] Oper.semAt_some bK bF
theorem bJ{w:World}{f:Nat}{args:Array Value}{a b:Bool}(h:Calls Tryz.prog f args w fun e w'=>e=.returned (.bool a)/\wBl w w')(e:b=a):Calls Tryz.prog f args w fun e w'=>e=.returned (.bool b)/\wBl w w':=by rw [e];exact h
theorem oT{w:World}{p:Pg}(h:PgI w p){k:Nat}{i:Ins}(hi:p.L[k]?=some i)(hk:p.L.length<=40000)(ho:i.op=11)(hs0:i.s=0#256)(hx0:0<=i.x)(hy0:0<=i.y)(hxz:i.x=0)(hyz:i.y=0)(hnz:i.n=0)(hmnz:i.mn=0)(hmxz:i.mx=0):Calls Tryz.prog 19 #[.agg #[.slice p.q p.L.length p.c,.int .i64 p.g,.int .i64 p.k,.bool p.f],.int .i64 (k:Int)] w fun e w'=>e=.returned (.bool (true))/\wBl w w':=by
 have B1:Hid (wBl w (w.alloc (.cells #[.slice p.q p.L.length p.c,.int .i64 p.g,.int .i64 p.k,.bool p.f] 24))):=bz9
 have X1:Hid ((w.alloc (.cells #[.slice p.q p.L.length p.c,.int .i64 p.g,.int .i64 p.k,.bool p.f] 24)).heap[w.heap.size]?=some (.cells #[.slice p.q p.L.length p.c,.int .i64 p.g,.int .i64 p.k,.bool p.f] 24 (0,0))):=aE w _
 obtain⟨g1,o1,hq1,hl1,c0,c1,c2,c3,c4,c5,c6,c7,c8,c9⟩:=(h.li.kept B1.o).ten hi
 have hkl:=(g7.1 hi).1
 have k0:(0:Int)<=(k:Int):=by omega
 have k1:(k:Int)<(p.L.length:Int):=by omega
 have OF:=aD (aN i.op)
 have hu:usA i.op=[false,false,false,false,false,false]:=by rw [ho];rfl
 have hiso:isO i.op=true:=by rw [ho];rfl
 rw [hu,hiso] at OF
 have OF:Hid (∀ w,Calls Tryz.prog 22 #[.int .i64 i.op] w fun e w'=>e=.returned (.tuple #[.agg #[.bool false,.bool false,.bool false,.bool false,.bool false,.bool false],.bool true])/\wBl w w'):=OF
 have o9:(i.op==9)=false:=by rw [ho];rfl
 have o10:(i.op==10)=false:=by rw [ho];rfl
 have wl:IntKind.wrap .i64 ((p.L.length:Int)-1)=(p.L.length:Int)-1:=by rw [IntKind.wrap_i64];omega
 have exz:(i.x==0)=true:=by rw [beq_iff_eq];exact hxz
 have fxz:(i.x != 0)=false:=by simp [hxz]
 clear hxz
 have eyz:(i.y==0)=true:=by rw [beq_iff_eq];exact hyz
 have fyz:(i.y != 0)=false:=by simp [hyz]
 clear hyz
 have enz:(i.n==0)=true:=by rw [beq_iff_eq];exact hnz
 have fnz:(i.n != 0)=false:=by simp [hnz]
 clear hnz
 have emnz:(i.mn==0)=true:=by rw [beq_iff_eq];exact hmnz
 have fmnz:(i.mn != 0)=false:=by simp [hmnz]
 clear hmnz
 have emxz:(i.mx==0)=true:=by rw [beq_iff_eq];exact hmxz
 have fmxz:(i.mx != 0)=false:=by simp [hmxz]
 clear hmxz
 have Hs0:=aD hs0
 clear hs0
 clear hu hiso ho
 have HQ:=aD hq1
 clear h hi hq1
 go_enter Tryz.func19,Tryz.ntmps19
 go_upto_region 1 with fail
 generalize (w.alloc (.cells #[.slice p.q p.L.length p.c,.int .i64 p.g,.int .i64 p.k,.bool p.f] 24))=w1 at B1 X1 c0 c1 c2 c3 c4 c5 c6 c7 c8 c9 ⊢
 have p0:w1.cell? ⟨w.heap.size,0,none⟩=some (.slice p.q p.L.length p.c):=aA X1.o (i:=0) rfl
 rw [HQ.o] at p0
 go_upto_region 2 with fail
 have BA:wBl w1 (w1.alloc (.cells #[.int .i64 i.op,.int .i64 i.x,.int .i64 i.y,.int .i64 i.n,.int .i64 i.mn,.int .i64 i.mx,.int .u64 (aB i.s 0),.int .u64 (aB i.s 1),.int .u64 (aB i.s 2),.int .u64 (aB i.s 3)] 54)):=bz9
 have X2:=aD ((BA.block _ (aC X1.o)).trans X1.o)
 have I2:Hid ((w1.alloc (.cells #[.int .i64 i.op,.int .i64 i.x,.int .i64 i.y,.int .i64 i.n,.int .i64 i.mn,.int .i64 i.mx,.int .u64 (aB i.s 0),.int .u64 (aB i.s 1),.int .u64 (aB i.s 2),.int .u64 (aB i.s 3)] 54)).heap[w1.heap.size]?=some (.cells #[.int .i64 i.op,.int .i64 i.x,.int .i64 i.y,.int .i64 i.n,.int .i64 i.mn,.int .i64 i.mx,.int .u64 (aB i.s 0),.int .u64 (aB i.s 1),.int .u64 (aB i.s 2),.int .u64 (aB i.s 3)] 54 (0,0))):=aE w1 _
 have B2:=aD (aF B1.o BA lz9)
 clear BA c0 c1 c2 c3 c4 c5 c6 c7 c8 c9 p0
 generalize (w1.alloc (.cells #[.int .i64 i.op,.int .i64 i.x,.int .i64 i.y,.int .i64 i.n,.int .i64 i.mn,.int .i64 i.mx,.int .u64 (aB i.s 0),.int .u64 (aB i.s 1),.int .u64 (aB i.s 2),.int .u64 (aB i.s 3)] 54))=w2 at X2 I2 B2 ⊢
 obtain⟨ib,hib⟩:∃ ib,w1.heap.size=ib:=⟨_,rfl⟩
 rw [hib] at I2 ⊢
 clear hib
 have d0:w2.cell? ⟨ib,0,none⟩=some (.int .i64 i.op):=aA I2.o (i:=0) rfl
 go_upto_region 3 with (go_at_call 22;(with_reducible refine(OF.o _).mono ?_);rintro e w3 ⟨rfl,h3⟩;have X3:=aD ((h3.block _ (aC X2.o)).trans X2.o);have I3:=aD ((h3.block _ (aC I2.o)).trans I2.o);have B3:=aD (aF B2.o h3 lz9);clear h3)
 have BA:wBl w3 (w3.alloc (.cells #[.bool false,.bool false,.bool false,.bool false,.bool false,.bool false] 61)):=bz9
 have X4:=aD ((BA.block _ (aC X3.o)).trans X3.o)
 have I4:=aD ((BA.block _ (aC I3.o)).trans I3.o)
 have U4:Hid ((w3.alloc (.cells #[.bool false,.bool false,.bool false,.bool false,.bool false,.bool false] 61)).heap[w3.heap.size]?=some (.cells #[.bool false,.bool false,.bool false,.bool false,.bool false,.bool false] 61 (0,0))):=aE w3 _
 have B4:=aD (aF B3.o BA lz9)
 clear BA X3 I3 B3 X2 I2 B2
 generalize (w3.alloc (.cells #[.bool false,.bool false,.bool false,.bool false,.bool false,.bool false] 61))=w4 at X4 I4 U4 B4 ⊢
 obtain⟨ub,hub⟩:∃ ub,w3.heap.size=ub:=⟨_,rfl⟩
 rw [hub] at U4 ⊢
 clear hub
 have p0:w4.cell? ⟨w.heap.size,0,none⟩=some (.slice p.q p.L.length p.c):=aA X4.o (i:=0) rfl
 have p1:w4.cell? ⟨w.heap.size,1,none⟩=some (.int .i64 p.g):=aA X4.o (i:=1) rfl
 have p2:w4.cell? ⟨w.heap.size,2,none⟩=some (.int .i64 p.k):=aA X4.o (i:=2) rfl
 have d0:w4.cell? ⟨ib,0,none⟩=some (.int .i64 i.op):=aA I4.o (i:=0) rfl
 have d1:w4.cell? ⟨ib,1,none⟩=some (.int .i64 i.x):=aA I4.o (i:=1) rfl
 have d2:w4.cell? ⟨ib,2,none⟩=some (.int .i64 i.y):=aA I4.o (i:=2) rfl
 have d3:w4.cell? ⟨ib,3,none⟩=some (.int .i64 i.n):=aA I4.o (i:=3) rfl
 have d4:w4.cell? ⟨ib,4,none⟩=some (.int .i64 i.mn):=aA I4.o (i:=4) rfl
 have d5:w4.cell? ⟨ib,5,none⟩=some (.int .i64 i.mx):=aA I4.o (i:=5) rfl
 have d6:w4.cell? ⟨ib,6,none⟩=some (.int .u64 (aB i.s 0)):=aA I4.o (i:=6) rfl
 have d7:w4.cell? ⟨ib,7,none⟩=some (.int .u64 (aB i.s 1)):=aA I4.o (i:=7) rfl
 have d8:w4.cell? ⟨ib,8,none⟩=some (.int .u64 (aB i.s 2)):=aA I4.o (i:=8) rfl
 have d9:w4.cell? ⟨ib,9,none⟩=some (.int .u64 (aB i.s 3)):=aA I4.o (i:=9) rfl
 have u0:w4.cell? ⟨ub,0,none⟩=some (.bool false):=aA U4.o (i:=0) rfl
 have u1:w4.cell? ⟨ub,1,none⟩=some (.bool false):=aA U4.o (i:=1) rfl
 have u2:w4.cell? ⟨ub,2,none⟩=some (.bool false):=aA U4.o (i:=2) rfl
 have u3:w4.cell? ⟨ub,3,none⟩=some (.bool false):=aA U4.o (i:=3) rfl
 have u4:w4.cell? ⟨ub,4,none⟩=some (.bool false):=aA U4.o (i:=4) rfl
 have u5:w4.cell? ⟨ub,5,none⟩=some (.bool false):=aA U4.o (i:=5) rfl
 have hs0:=Hs0.o
 go_wp2
 go_ret
 exact⟨rfl,B4.o⟩
theorem oS{w:World}{p:Pg}(h:PgI w p){k:Nat}{i:Ins}(hi:p.L[k]?=some i)(hk:p.L.length<=40000)(ho:i.op=11)(hs0:i.s=0#256)(hx0:0<=i.x)(hy0:0<=i.y)(hxz:i.x=0)(hyz:i.y=0)(hnz:i.n=0)(hmnz:i.mn=0)(hmxz:¬ (i.mx=0)):Calls Tryz.prog 19 #[.agg #[.slice p.q p.L.length p.c,.int .i64 p.g,.int .i64 p.k,.bool p.f],.int .i64 (k:Int)] w fun e w'=>e=.returned (.bool (false))/\wBl w w':=by
 have B1:Hid (wBl w (w.alloc (.cells #[.slice p.q p.L.length p.c,.int .i64 p.g,.int .i64 p.k,.bool p.f] 24))):=bz9
 have X1:Hid ((w.alloc (.cells #[.slice p.q p.L.length p.c,.int .i64 p.g,.int .i64 p.k,.bool p.f] 24)).heap[w.heap.size]?=some (.cells #[.slice p.q p.L.length p.c,.int .i64 p.g,.int .i64 p.k,.bool p.f] 24 (0,0))):=aE w _
 obtain⟨g1,o1,hq1,hl1,c0,c1,c2,c3,c4,c5,c6,c7,c8,c9⟩:=(h.li.kept B1.o).ten hi
 have hkl:=(g7.1 hi).1
 have k0:(0:Int)<=(k:Int):=by omega
 have k1:(k:Int)<(p.L.length:Int):=by omega
 have OF:=aD (aN i.op)
 have hu:usA i.op=[false,false,false,false,false,false]:=by rw [ho];rfl
 have hiso:isO i.op=true:=by rw [ho];rfl
 rw [hu,hiso] at OF
 have OF:Hid (∀ w,Calls Tryz.prog 22 #[.int .i64 i.op] w fun e w'=>e=.returned (.tuple #[.agg #[.bool false,.bool false,.bool false,.bool false,.bool false,.bool false],.bool true])/\wBl w w'):=OF
 have o9:(i.op==9)=false:=by rw [ho];rfl
 have o10:(i.op==10)=false:=by rw [ho];rfl
 have wl:IntKind.wrap .i64 ((p.L.length:Int)-1)=(p.L.length:Int)-1:=by rw [IntKind.wrap_i64];omega
 have exz:(i.x==0)=true:=by rw [beq_iff_eq];exact hxz
 have fxz:(i.x != 0)=false:=by simp [hxz]
 clear hxz
 have eyz:(i.y==0)=true:=by rw [beq_iff_eq];exact hyz
 have fyz:(i.y != 0)=false:=by simp [hyz]
 clear hyz
 have enz:(i.n==0)=true:=by rw [beq_iff_eq];exact hnz
 have fnz:(i.n != 0)=false:=by simp [hnz]
 clear hnz
 have emnz:(i.mn==0)=true:=by rw [beq_iff_eq];exact hmnz
 have fmnz:(i.mn != 0)=false:=by simp [hmnz]
 clear hmnz
 have emxz:(i.mx==0)=false:=by rw [i7];exact hmxz
 have fmxz:(i.mx != 0)=true:=by simp [hmxz]
 clear hmxz
 have Hs0:=aD hs0
 clear hs0
 clear hu hiso ho
 have HQ:=aD hq1
 clear h hi hq1
 go_enter Tryz.func19,Tryz.ntmps19
 go_upto_region 1 with fail
 generalize (w.alloc (.cells #[.slice p.q p.L.length p.c,.int .i64 p.g,.int .i64 p.k,.bool p.f] 24))=w1 at B1 X1 c0 c1 c2 c3 c4 c5 c6 c7 c8 c9 ⊢
 have p0:w1.cell? ⟨w.heap.size,0,none⟩=some (.slice p.q p.L.length p.c):=aA X1.o (i:=0) rfl
 rw [HQ.o] at p0
 go_upto_region 2 with fail
 have BA:wBl w1 (w1.alloc (.cells #[.int .i64 i.op,.int .i64 i.x,.int .i64 i.y,.int .i64 i.n,.int .i64 i.mn,.int .i64 i.mx,.int .u64 (aB i.s 0),.int .u64 (aB i.s 1),.int .u64 (aB i.s 2),.int .u64 (aB i.s 3)] 54)):=bz9
 have X2:=aD ((BA.block _ (aC X1.o)).trans X1.o)
 have I2:Hid ((w1.alloc (.cells #[.int .i64 i.op,.int .i64 i.x,.int .i64 i.y,.int .i64 i.n,.int .i64 i.mn,.int .i64 i.mx,.int .u64 (aB i.s 0),.int .u64 (aB i.s 1),.int .u64 (aB i.s 2),.int .u64 (aB i.s 3)] 54)).heap[w1.heap.size]?=some (.cells #[.int .i64 i.op,.int .i64 i.x,.int .i64 i.y,.int .i64 i.n,.int .i64 i.mn,.int .i64 i.mx,.int .u64 (aB i.s 0),.int .u64 (aB i.s 1),.int .u64 (aB i.s 2),.int .u64 (aB i.s 3)] 54 (0,0))):=aE w1 _
 have B2:=aD (aF B1.o BA lz9)
 clear BA c0 c1 c2 c3 c4 c5 c6 c7 c8 c9 p0
 generalize (w1.alloc (.cells #[.int .i64 i.op,.int .i64 i.x,.int .i64 i.y,.int .i64 i.n,.int .i64 i.mn,.int .i64 i.mx,.int .u64 (aB i.s 0),.int .u64 (aB i.s 1),.int .u64 (aB i.s 2),.int .u64 (aB i.s 3)] 54))=w2 at X2 I2 B2 ⊢
 obtain⟨ib,hib⟩:∃ ib,w1.heap.size=ib:=⟨_,rfl⟩
 rw [hib] at I2 ⊢
 clear hib
 have d0:w2.cell? ⟨ib,0,none⟩=some (.int .i64 i.op):=aA I2.o (i:=0) rfl
 go_upto_region 3 with (go_at_call 22;(with_reducible refine(OF.o _).mono ?_);rintro e w3 ⟨rfl,h3⟩;have X3:=aD ((h3.block _ (aC X2.o)).trans X2.o);have I3:=aD ((h3.block _ (aC I2.o)).trans I2.o);have B3:=aD (aF B2.o h3 lz9);clear h3)
 have BA:wBl w3 (w3.alloc (.cells #[.bool false,.bool false,.bool false,.bool false,.bool false,.bool false] 61)):=bz9
 have X4:=aD ((BA.block _ (aC X3.o)).trans X3.o)
 have I4:=aD ((BA.block _ (aC I3.o)).trans I3.o)
 have U4:Hid ((w3.alloc (.cells #[.bool false,.bool false,.bool false,.bool false,.bool false,.bool false] 61)).heap[w3.heap.size]?=some (.cells #[.bool false,.bool false,.bool false,.bool false,.bool false,.bool false] 61 (0,0))):=aE w3 _
 have B4:=aD (aF B3.o BA lz9)
 clear BA X3 I3 B3 X2 I2 B2
 generalize (w3.alloc (.cells #[.bool false,.bool false,.bool false,.bool false,.bool false,.bool false] 61))=w4 at X4 I4 U4 B4 ⊢
 obtain⟨ub,hub⟩:∃ ub,w3.heap.size=ub:=⟨_,rfl⟩
 rw [hub] at U4 ⊢
 clear hub
 have p0:w4.cell? ⟨w.heap.size,0,none⟩=some (.slice p.q p.L.length p.c):=aA X4.o (i:=0) rfl
 have p1:w4.cell? ⟨w.heap.size,1,none⟩=some (.int .i64 p.g):=aA X4.o (i:=1) rfl
 have p2:w4.cell? ⟨w.heap.size,2,none⟩=some (.int .i64 p.k):=aA X4.o (i:=2) rfl
 have d0:w4.cell? ⟨ib,0,none⟩=some (.int .i64 i.op):=aA I4.o (i:=0) rfl
 have d1:w4.cell? ⟨ib,1,none⟩=some (.int .i64 i.x):=aA I4.o (i:=1) rfl
 have d2:w4.cell? ⟨ib,2,none⟩=some (.int .i64 i.y):=aA I4.o (i:=2) rfl
 have d3:w4.cell? ⟨ib,3,none⟩=some (.int .i64 i.n):=aA I4.o (i:=3) rfl
 have d4:w4.cell? ⟨ib,4,none⟩=some (.int .i64 i.mn):=aA I4.o (i:=4) rfl
 have d5:w4.cell? ⟨ib,5,none⟩=some (.int .i64 i.mx):=aA I4.o (i:=5) rfl
 have d6:w4.cell? ⟨ib,6,none⟩=some (.int .u64 (aB i.s 0)):=aA I4.o (i:=6) rfl
 have d7:w4.cell? ⟨ib,7,none⟩=some (.int .u64 (aB i.s 1)):=aA I4.o (i:=7) rfl
 have d8:w4.cell? ⟨ib,8,none⟩=some (.int .u64 (aB i.s 2)):=aA I4.o (i:=8) rfl
 have d9:w4.cell? ⟨ib,9,none⟩=some (.int .u64 (aB i.s 3)):=aA I4.o (i:=9) rfl
 have u0:w4.cell? ⟨ub,0,none⟩=some (.bool false):=aA U4.o (i:=0) rfl
 have u1:w4.cell? ⟨ub,1,none⟩=some (.bool false):=aA U4.o (i:=1) rfl
 have u2:w4.cell? ⟨ub,2,none⟩=some (.bool false):=aA U4.o (i:=2) rfl
 have u3:w4.cell? ⟨ub,3,none⟩=some (.bool false):=aA U4.o (i:=3) rfl
 have u4:w4.cell? ⟨ub,4,none⟩=some (.bool false):=aA U4.o (i:=4) rfl
 have u5:w4.cell? ⟨ub,5,none⟩=some (.bool false):=aA U4.o (i:=5) rfl
 have hs0:=Hs0.o
 go_wp2
 go_ret
 exact⟨rfl,B4.o⟩
theorem oR{w:World}{p:Pg}(h:PgI w p){k:Nat}{i:Ins}(hi:p.L[k]?=some i)(hk:p.L.length<=40000)(ho:i.op=11)(hs0:i.s=0#256)(hx0:0<=i.x)(hy0:0<=i.y)(hxz:i.x=0)(hyz:i.y=0)(hnz:i.n=0)(hmnz:¬ (i.mn=0)):Calls Tryz.prog 19 #[.agg #[.slice p.q p.L.length p.c,.int .i64 p.g,.int .i64 p.k,.bool p.f],.int .i64 (k:Int)] w fun e w'=>e=.returned (.bool (false))/\wBl w w':=by
 have B1:Hid (wBl w (w.alloc (.cells #[.slice p.q p.L.length p.c,.int .i64 p.g,.int .i64 p.k,.bool p.f] 24))):=bz9
 have X1:Hid ((w.alloc (.cells #[.slice p.q p.L.length p.c,.int .i64 p.g,.int .i64 p.k,.bool p.f] 24)).heap[w.heap.size]?=some (.cells #[.slice p.q p.L.length p.c,.int .i64 p.g,.int .i64 p.k,.bool p.f] 24 (0,0))):=aE w _
 obtain⟨g1,o1,hq1,hl1,c0,c1,c2,c3,c4,c5,c6,c7,c8,c9⟩:=(h.li.kept B1.o).ten hi
 have hkl:=(g7.1 hi).1
 have k0:(0:Int)<=(k:Int):=by omega
 have k1:(k:Int)<(p.L.length:Int):=by omega
 have OF:=aD (aN i.op)
 have hu:usA i.op=[false,false,false,false,false,false]:=by rw [ho];rfl
 have hiso:isO i.op=true:=by rw [ho];rfl
 rw [hu,hiso] at OF
 have OF:Hid (∀ w,Calls Tryz.prog 22 #[.int .i64 i.op] w fun e w'=>e=.returned (.tuple #[.agg #[.bool false,.bool false,.bool false,.bool false,.bool false,.bool false],.bool true])/\wBl w w'):=OF
 have o9:(i.op==9)=false:=by rw [ho];rfl
 have o10:(i.op==10)=false:=by rw [ho];rfl
 have wl:IntKind.wrap .i64 ((p.L.length:Int)-1)=(p.L.length:Int)-1:=by rw [IntKind.wrap_i64];omega
 have exz:(i.x==0)=true:=by rw [beq_iff_eq];exact hxz
 have fxz:(i.x != 0)=false:=by simp [hxz]
 clear hxz
 have eyz:(i.y==0)=true:=by rw [beq_iff_eq];exact hyz
 have fyz:(i.y != 0)=false:=by simp [hyz]
 clear hyz
 have enz:(i.n==0)=true:=by rw [beq_iff_eq];exact hnz
 have fnz:(i.n != 0)=false:=by simp [hnz]
 clear hnz
 have emnz:(i.mn==0)=false:=by rw [i7];exact hmnz
 have fmnz:(i.mn != 0)=true:=by simp [hmnz]
 clear hmnz
 have Hs0:=aD hs0
 clear hs0
 clear hu hiso ho
 have HQ:=aD hq1
 clear h hi hq1
 go_enter Tryz.func19,Tryz.ntmps19
 go_upto_region 1 with fail
 generalize (w.alloc (.cells #[.slice p.q p.L.length p.c,.int .i64 p.g,.int .i64 p.k,.bool p.f] 24))=w1 at B1 X1 c0 c1 c2 c3 c4 c5 c6 c7 c8 c9 ⊢
 have p0:w1.cell? ⟨w.heap.size,0,none⟩=some (.slice p.q p.L.length p.c):=aA X1.o (i:=0) rfl
 rw [HQ.o] at p0
 go_upto_region 2 with fail
 have BA:wBl w1 (w1.alloc (.cells #[.int .i64 i.op,.int .i64 i.x,.int .i64 i.y,.int .i64 i.n,.int .i64 i.mn,.int .i64 i.mx,.int .u64 (aB i.s 0),.int .u64 (aB i.s 1),.int .u64 (aB i.s 2),.int .u64 (aB i.s 3)] 54)):=bz9
 have X2:=aD ((BA.block _ (aC X1.o)).trans X1.o)
 have I2:Hid ((w1.alloc (.cells #[.int .i64 i.op,.int .i64 i.x,.int .i64 i.y,.int .i64 i.n,.int .i64 i.mn,.int .i64 i.mx,.int .u64 (aB i.s 0),.int .u64 (aB i.s 1),.int .u64 (aB i.s 2),.int .u64 (aB i.s 3)] 54)).heap[w1.heap.size]?=some (.cells #[.int .i64 i.op,.int .i64 i.x,.int .i64 i.y,.int .i64 i.n,.int .i64 i.mn,.int .i64 i.mx,.int .u64 (aB i.s 0),.int .u64 (aB i.s 1),.int .u64 (aB i.s 2),.int .u64 (aB i.s 3)] 54 (0,0))):=aE w1 _
 have B2:=aD (aF B1.o BA lz9)
 clear BA c0 c1 c2 c3 c4 c5 c6 c7 c8 c9 p0
 generalize (w1.alloc (.cells #[.int .i64 i.op,.int .i64 i.x,.int .i64 i.y,.int .i64 i.n,.int .i64 i.mn,.int .i64 i.mx,.int .u64 (aB i.s 0),.int .u64 (aB i.s 1),.int .u64 (aB i.s 2),.int .u64 (aB i.s 3)] 54))=w2 at X2 I2 B2 ⊢
 obtain⟨ib,hib⟩:∃ ib,w1.heap.size=ib:=⟨_,rfl⟩
 rw [hib] at I2 ⊢
 clear hib
 have d0:w2.cell? ⟨ib,0,none⟩=some (.int .i64 i.op):=aA I2.o (i:=0) rfl
 go_upto_region 3 with (go_at_call 22;(with_reducible refine(OF.o _).mono ?_);rintro e w3 ⟨rfl,h3⟩;have X3:=aD ((h3.block _ (aC X2.o)).trans X2.o);have I3:=aD ((h3.block _ (aC I2.o)).trans I2.o);have B3:=aD (aF B2.o h3 lz9);clear h3)
 have BA:wBl w3 (w3.alloc (.cells #[.bool false,.bool false,.bool false,.bool false,.bool false,.bool false] 61)):=bz9
 have X4:=aD ((BA.block _ (aC X3.o)).trans X3.o)
 have I4:=aD ((BA.block _ (aC I3.o)).trans I3.o)
 have U4:Hid ((w3.alloc (.cells #[.bool false,.bool false,.bool false,.bool false,.bool false,.bool false] 61)).heap[w3.heap.size]?=some (.cells #[.bool false,.bool false,.bool false,.bool false,.bool false,.bool false] 61 (0,0))):=aE w3 _
 have B4:=aD (aF B3.o BA lz9)
 clear BA X3 I3 B3 X2 I2 B2
 generalize (w3.alloc (.cells #[.bool false,.bool false,.bool false,.bool false,.bool false,.bool false] 61))=w4 at X4 I4 U4 B4 ⊢
 obtain⟨ub,hub⟩:∃ ub,w3.heap.size=ub:=⟨_,rfl⟩
 rw [hub] at U4 ⊢
 clear hub
 have p0:w4.cell? ⟨w.heap.size,0,none⟩=some (.slice p.q p.L.length p.c):=aA X4.o (i:=0) rfl
 have p1:w4.cell? ⟨w.heap.size,1,none⟩=some (.int .i64 p.g):=aA X4.o (i:=1) rfl
 have p2:w4.cell? ⟨w.heap.size,2,none⟩=some (.int .i64 p.k):=aA X4.o (i:=2) rfl
 have d0:w4.cell? ⟨ib,0,none⟩=some (.int .i64 i.op):=aA I4.o (i:=0) rfl
 have d1:w4.cell? ⟨ib,1,none⟩=some (.int .i64 i.x):=aA I4.o (i:=1) rfl
 have d2:w4.cell? ⟨ib,2,none⟩=some (.int .i64 i.y):=aA I4.o (i:=2) rfl
 have d3:w4.cell? ⟨ib,3,none⟩=some (.int .i64 i.n):=aA I4.o (i:=3) rfl
 have d4:w4.cell? ⟨ib,4,none⟩=some (.int .i64 i.mn):=aA I4.o (i:=4) rfl
 have d5:w4.cell? ⟨ib,5,none⟩=some (.int .i64 i.mx):=aA I4.o (i:=5) rfl
 have d6:w4.cell? ⟨ib,6,none⟩=some (.int .u64 (aB i.s 0)):=aA I4.o (i:=6) rfl
 have d7:w4.cell? ⟨ib,7,none⟩=some (.int .u64 (aB i.s 1)):=aA I4.o (i:=7) rfl
 have d8:w4.cell? ⟨ib,8,none⟩=some (.int .u64 (aB i.s 2)):=aA I4.o (i:=8) rfl
 have d9:w4.cell? ⟨ib,9,none⟩=some (.int .u64 (aB i.s 3)):=aA I4.o (i:=9) rfl
 have u0:w4.cell? ⟨ub,0,none⟩=some (.bool false):=aA U4.o (i:=0) rfl
 have u1:w4.cell? ⟨ub,1,none⟩=some (.bool false):=aA U4.o (i:=1) rfl
 have u2:w4.cell? ⟨ub,2,none⟩=some (.bool false):=aA U4.o (i:=2) rfl
 have u3:w4.cell? ⟨ub,3,none⟩=some (.bool false):=aA U4.o (i:=3) rfl
 have u4:w4.cell? ⟨ub,4,none⟩=some (.bool false):=aA U4.o (i:=4) rfl
 have u5:w4.cell? ⟨ub,5,none⟩=some (.bool false):=aA U4.o (i:=5) rfl
 have hs0:=Hs0.o
 go_wp2
 go_ret
 exact⟨rfl,B4.o⟩
theorem oQ{w:World}{p:Pg}(h:PgI w p){k:Nat}{i:Ins}(hi:p.L[k]?=some i)(hk:p.L.length<=40000)(ho:i.op=11)(hs0:i.s=0#256)(hx0:0<=i.x)(hy0:0<=i.y)(hxz:i.x=0)(hyz:i.y=0)(hnz:¬ (i.n=0)):Calls Tryz.prog 19 #[.agg #[.slice p.q p.L.length p.c,.int .i64 p.g,.int .i64 p.k,.bool p.f],.int .i64 (k:Int)] w fun e w'=>e=.returned (.bool (false))/\wBl w w':=by
 have B1:Hid (wBl w (w.alloc (.cells #[.slice p.q p.L.length p.c,.int .i64 p.g,.int .i64 p.k,.bool p.f] 24))):=bz9
 have X1:Hid ((w.alloc (.cells #[.slice p.q p.L.length p.c,.int .i64 p.g,.int .i64 p.k,.bool p.f] 24)).heap[w.heap.size]?=some (.cells #[.slice p.q p.L.length p.c,.int .i64 p.g,.int .i64 p.k,.bool p.f] 24 (0,0))):=aE w _
 obtain⟨g1,o1,hq1,hl1,c0,c1,c2,c3,c4,c5,c6,c7,c8,c9⟩:=(h.li.kept B1.o).ten hi
 have hkl:=(g7.1 hi).1
 have k0:(0:Int)<=(k:Int):=by omega
 have k1:(k:Int)<(p.L.length:Int):=by omega
 have OF:=aD (aN i.op)
 have hu:usA i.op=[false,false,false,false,false,false]:=by rw [ho];rfl
 have hiso:isO i.op=true:=by rw [ho];rfl
 rw [hu,hiso] at OF
 have OF:Hid (∀ w,Calls Tryz.prog 22 #[.int .i64 i.op] w fun e w'=>e=.returned (.tuple #[.agg #[.bool false,.bool false,.bool false,.bool false,.bool false,.bool false],.bool true])/\wBl w w'):=OF
 have o9:(i.op==9)=false:=by rw [ho];rfl
 have o10:(i.op==10)=false:=by rw [ho];rfl
 have wl:IntKind.wrap .i64 ((p.L.length:Int)-1)=(p.L.length:Int)-1:=by rw [IntKind.wrap_i64];omega
 have exz:(i.x==0)=true:=by rw [beq_iff_eq];exact hxz
 have fxz:(i.x != 0)=false:=by simp [hxz]
 clear hxz
 have eyz:(i.y==0)=true:=by rw [beq_iff_eq];exact hyz
 have fyz:(i.y != 0)=false:=by simp [hyz]
 clear hyz
 have enz:(i.n==0)=false:=by rw [i7];exact hnz
 have fnz:(i.n != 0)=true:=by simp [hnz]
 clear hnz
 have Hs0:=aD hs0
 clear hs0
 clear hu hiso ho
 have HQ:=aD hq1
 clear h hi hq1
 go_enter Tryz.func19,Tryz.ntmps19
 go_upto_region 1 with fail
 generalize (w.alloc (.cells #[.slice p.q p.L.length p.c,.int .i64 p.g,.int .i64 p.k,.bool p.f] 24))=w1 at B1 X1 c0 c1 c2 c3 c4 c5 c6 c7 c8 c9 ⊢
 have p0:w1.cell? ⟨w.heap.size,0,none⟩=some (.slice p.q p.L.length p.c):=aA X1.o (i:=0) rfl
 rw [HQ.o] at p0
 go_upto_region 2 with fail
 have BA:wBl w1 (w1.alloc (.cells #[.int .i64 i.op,.int .i64 i.x,.int .i64 i.y,.int .i64 i.n,.int .i64 i.mn,.int .i64 i.mx,.int .u64 (aB i.s 0),.int .u64 (aB i.s 1),.int .u64 (aB i.s 2),.int .u64 (aB i.s 3)] 54)):=bz9
 have X2:=aD ((BA.block _ (aC X1.o)).trans X1.o)
 have I2:Hid ((w1.alloc (.cells #[.int .i64 i.op,.int .i64 i.x,.int .i64 i.y,.int .i64 i.n,.int .i64 i.mn,.int .i64 i.mx,.int .u64 (aB i.s 0),.int .u64 (aB i.s 1),.int .u64 (aB i.s 2),.int .u64 (aB i.s 3)] 54)).heap[w1.heap.size]?=some (.cells #[.int .i64 i.op,.int .i64 i.x,.int .i64 i.y,.int .i64 i.n,.int .i64 i.mn,.int .i64 i.mx,.int .u64 (aB i.s 0),.int .u64 (aB i.s 1),.int .u64 (aB i.s 2),.int .u64 (aB i.s 3)] 54 (0,0))):=aE w1 _
 have B2:=aD (aF B1.o BA lz9)
 clear BA c0 c1 c2 c3 c4 c5 c6 c7 c8 c9 p0
 generalize (w1.alloc (.cells #[.int .i64 i.op,.int .i64 i.x,.int .i64 i.y,.int .i64 i.n,.int .i64 i.mn,.int .i64 i.mx,.int .u64 (aB i.s 0),.int .u64 (aB i.s 1),.int .u64 (aB i.s 2),.int .u64 (aB i.s 3)] 54))=w2 at X2 I2 B2 ⊢
 obtain⟨ib,hib⟩:∃ ib,w1.heap.size=ib:=⟨_,rfl⟩
 rw [hib] at I2 ⊢
 clear hib
 have d0:w2.cell? ⟨ib,0,none⟩=some (.int .i64 i.op):=aA I2.o (i:=0) rfl
 go_upto_region 3 with (go_at_call 22;(with_reducible refine(OF.o _).mono ?_);rintro e w3 ⟨rfl,h3⟩;have X3:=aD ((h3.block _ (aC X2.o)).trans X2.o);have I3:=aD ((h3.block _ (aC I2.o)).trans I2.o);have B3:=aD (aF B2.o h3 lz9);clear h3)
 have BA:wBl w3 (w3.alloc (.cells #[.bool false,.bool false,.bool false,.bool false,.bool false,.bool false] 61)):=bz9
 have X4:=aD ((BA.block _ (aC X3.o)).trans X3.o)
 have I4:=aD ((BA.block _ (aC I3.o)).trans I3.o)
 have U4:Hid ((w3.alloc (.cells #[.bool false,.bool false,.bool false,.bool false,.bool false,.bool false] 61)).heap[w3.heap.size]?=some (.cells #[.bool false,.bool false,.bool false,.bool false,.bool false,.bool false] 61 (0,0))):=aE w3 _
 have B4:=aD (aF B3.o BA lz9)
 clear BA X3 I3 B3 X2 I2 B2
 generalize (w3.alloc (.cells #[.bool false,.bool false,.bool false,.bool false,.bool false,.bool false] 61))=w4 at X4 I4 U4 B4 ⊢
 obtain⟨ub,hub⟩:∃ ub,w3.heap.size=ub:=⟨_,rfl⟩
 rw [hub] at U4 ⊢
 clear hub
 have p0:w4.cell? ⟨w.heap.size,0,none⟩=some (.slice p.q p.L.length p.c):=aA X4.o (i:=0) rfl
 have p1:w4.cell? ⟨w.heap.size,1,none⟩=some (.int .i64 p.g):=aA X4.o (i:=1) rfl
 have p2:w4.cell? ⟨w.heap.size,2,none⟩=some (.int .i64 p.k):=aA X4.o (i:=2) rfl
 have d0:w4.cell? ⟨ib,0,none⟩=some (.int .i64 i.op):=aA I4.o (i:=0) rfl
 have d1:w4.cell? ⟨ib,1,none⟩=some (.int .i64 i.x):=aA I4.o (i:=1) rfl
 have d2:w4.cell? ⟨ib,2,none⟩=some (.int .i64 i.y):=aA I4.o (i:=2) rfl
 have d3:w4.cell? ⟨ib,3,none⟩=some (.int .i64 i.n):=aA I4.o (i:=3) rfl
 have d4:w4.cell? ⟨ib,4,none⟩=some (.int .i64 i.mn):=aA I4.o (i:=4) rfl
 have d5:w4.cell? ⟨ib,5,none⟩=some (.int .i64 i.mx):=aA I4.o (i:=5) rfl
 have d6:w4.cell? ⟨ib,6,none⟩=some (.int .u64 (aB i.s 0)):=aA I4.o (i:=6) rfl
 have d7:w4.cell? ⟨ib,7,none⟩=some (.int .u64 (aB i.s 1)):=aA I4.o (i:=7) rfl
 have d8:w4.cell? ⟨ib,8,none⟩=some (.int .u64 (aB i.s 2)):=aA I4.o (i:=8) rfl
 have d9:w4.cell? ⟨ib,9,none⟩=some (.int .u64 (aB i.s 3)):=aA I4.o (i:=9) rfl
 have u0:w4.cell? ⟨ub,0,none⟩=some (.bool false):=aA U4.o (i:=0) rfl
 have u1:w4.cell? ⟨ub,1,none⟩=some (.bool false):=aA U4.o (i:=1) rfl
 have u2:w4.cell? ⟨ub,2,none⟩=some (.bool false):=aA U4.o (i:=2) rfl
 have u3:w4.cell? ⟨ub,3,none⟩=some (.bool false):=aA U4.o (i:=3) rfl
 have u4:w4.cell? ⟨ub,4,none⟩=some (.bool false):=aA U4.o (i:=4) rfl
 have u5:w4.cell? ⟨ub,5,none⟩=some (.bool false):=aA U4.o (i:=5) rfl
 have hs0:=Hs0.o
 go_wp2
 go_ret
 exact⟨rfl,B4.o⟩
theorem oP{w:World}{p:Pg}(h:PgI w p){k:Nat}{i:Ins}(hi:p.L[k]?=some i)(hk:p.L.length<=40000)(ho:i.op=11)(hs0:i.s=0#256)(hx0:0<=i.x)(hy0:0<=i.y)(hxz:i.x=0)(hyz:¬ (i.y=0)):Calls Tryz.prog 19 #[.agg #[.slice p.q p.L.length p.c,.int .i64 p.g,.int .i64 p.k,.bool p.f],.int .i64 (k:Int)] w fun e w'=>e=.returned (.bool (false))/\wBl w w':=by
 have B1:Hid (wBl w (w.alloc (.cells #[.slice p.q p.L.length p.c,.int .i64 p.g,.int .i64 p.k,.bool p.f] 24))):=bz9
 have X1:Hid ((w.alloc (.cells #[.slice p.q p.L.length p.c,.int .i64 p.g,.int .i64 p.k,.bool p.f] 24)).heap[w.heap.size]?=some (.cells #[.slice p.q p.L.length p.c,.int .i64 p.g,.int .i64 p.k,.bool p.f] 24 (0,0))):=aE w _
 obtain⟨g1,o1,hq1,hl1,c0,c1,c2,c3,c4,c5,c6,c7,c8,c9⟩:=(h.li.kept B1.o).ten hi
 have hkl:=(g7.1 hi).1
 have k0:(0:Int)<=(k:Int):=by omega
 have k1:(k:Int)<(p.L.length:Int):=by omega
 have OF:=aD (aN i.op)
 have hu:usA i.op=[false,false,false,false,false,false]:=by rw [ho];rfl
 have hiso:isO i.op=true:=by rw [ho];rfl
 rw [hu,hiso] at OF
 have OF:Hid (∀ w,Calls Tryz.prog 22 #[.int .i64 i.op] w fun e w'=>e=.returned (.tuple #[.agg #[.bool false,.bool false,.bool false,.bool false,.bool false,.bool false],.bool true])/\wBl w w'):=OF
 have o9:(i.op==9)=false:=by rw [ho];rfl
 have o10:(i.op==10)=false:=by rw [ho];rfl
 have wl:IntKind.wrap .i64 ((p.L.length:Int)-1)=(p.L.length:Int)-1:=by rw [IntKind.wrap_i64];omega
 have exz:(i.x==0)=true:=by rw [beq_iff_eq];exact hxz
 have fxz:(i.x != 0)=false:=by simp [hxz]
 clear hxz
 have eyz:(i.y==0)=false:=by rw [i7];exact hyz
 have fyz:(i.y != 0)=true:=by simp [hyz]
 clear hyz
 have Hs0:=aD hs0
 clear hs0
 clear hu hiso ho
 have HQ:=aD hq1
 clear h hi hq1
 go_enter Tryz.func19,Tryz.ntmps19
 go_upto_region 1 with fail
 generalize (w.alloc (.cells #[.slice p.q p.L.length p.c,.int .i64 p.g,.int .i64 p.k,.bool p.f] 24))=w1 at B1 X1 c0 c1 c2 c3 c4 c5 c6 c7 c8 c9 ⊢
 have p0:w1.cell? ⟨w.heap.size,0,none⟩=some (.slice p.q p.L.length p.c):=aA X1.o (i:=0) rfl
 rw [HQ.o] at p0
 go_upto_region 2 with fail
 have BA:wBl w1 (w1.alloc (.cells #[.int .i64 i.op,.int .i64 i.x,.int .i64 i.y,.int .i64 i.n,.int .i64 i.mn,.int .i64 i.mx,.int .u64 (aB i.s 0),.int .u64 (aB i.s 1),.int .u64 (aB i.s 2),.int .u64 (aB i.s 3)] 54)):=bz9
 have X2:=aD ((BA.block _ (aC X1.o)).trans X1.o)
 have I2:Hid ((w1.alloc (.cells #[.int .i64 i.op,.int .i64 i.x,.int .i64 i.y,.int .i64 i.n,.int .i64 i.mn,.int .i64 i.mx,.int .u64 (aB i.s 0),.int .u64 (aB i.s 1),.int .u64 (aB i.s 2),.int .u64 (aB i.s 3)] 54)).heap[w1.heap.size]?=some (.cells #[.int .i64 i.op,.int .i64 i.x,.int .i64 i.y,.int .i64 i.n,.int .i64 i.mn,.int .i64 i.mx,.int .u64 (aB i.s 0),.int .u64 (aB i.s 1),.int .u64 (aB i.s 2),.int .u64 (aB i.s 3)] 54 (0,0))):=aE w1 _
 have B2:=aD (aF B1.o BA lz9)
 clear BA c0 c1 c2 c3 c4 c5 c6 c7 c8 c9 p0
 generalize (w1.alloc (.cells #[.int .i64 i.op,.int .i64 i.x,.int .i64 i.y,.int .i64 i.n,.int .i64 i.mn,.int .i64 i.mx,.int .u64 (aB i.s 0),.int .u64 (aB i.s 1),.int .u64 (aB i.s 2),.int .u64 (aB i.s 3)] 54))=w2 at X2 I2 B2 ⊢
 obtain⟨ib,hib⟩:∃ ib,w1.heap.size=ib:=⟨_,rfl⟩
 rw [hib] at I2 ⊢
 clear hib
 have d0:w2.cell? ⟨ib,0,none⟩=some (.int .i64 i.op):=aA I2.o (i:=0) rfl
 go_upto_region 3 with (go_at_call 22;(with_reducible refine(OF.o _).mono ?_);rintro e w3 ⟨rfl,h3⟩;have X3:=aD ((h3.block _ (aC X2.o)).trans X2.o);have I3:=aD ((h3.block _ (aC I2.o)).trans I2.o);have B3:=aD (aF B2.o h3 lz9);clear h3)
 have BA:wBl w3 (w3.alloc (.cells #[.bool false,.bool false,.bool false,.bool false,.bool false,.bool false] 61)):=bz9
 have X4:=aD ((BA.block _ (aC X3.o)).trans X3.o)
 have I4:=aD ((BA.block _ (aC I3.o)).trans I3.o)
 have U4:Hid ((w3.alloc (.cells #[.bool false,.bool false,.bool false,.bool false,.bool false,.bool false] 61)).heap[w3.heap.size]?=some (.cells #[.bool false,.bool false,.bool false,.bool false,.bool false,.bool false] 61 (0,0))):=aE w3 _
 have B4:=aD (aF B3.o BA lz9)
 clear BA X3 I3 B3 X2 I2 B2
 generalize (w3.alloc (.cells #[.bool false,.bool false,.bool false,.bool false,.bool false,.bool false] 61))=w4 at X4 I4 U4 B4 ⊢
 obtain⟨ub,hub⟩:∃ ub,w3.heap.size=ub:=⟨_,rfl⟩
 rw [hub] at U4 ⊢
 clear hub
 have p0:w4.cell? ⟨w.heap.size,0,none⟩=some (.slice p.q p.L.length p.c):=aA X4.o (i:=0) rfl
 have p1:w4.cell? ⟨w.heap.size,1,none⟩=some (.int .i64 p.g):=aA X4.o (i:=1) rfl
 have p2:w4.cell? ⟨w.heap.size,2,none⟩=some (.int .i64 p.k):=aA X4.o (i:=2) rfl
 have d0:w4.cell? ⟨ib,0,none⟩=some (.int .i64 i.op):=aA I4.o (i:=0) rfl
 have d1:w4.cell? ⟨ib,1,none⟩=some (.int .i64 i.x):=aA I4.o (i:=1) rfl
 have d2:w4.cell? ⟨ib,2,none⟩=some (.int .i64 i.y):=aA I4.o (i:=2) rfl
 have d3:w4.cell? ⟨ib,3,none⟩=some (.int .i64 i.n):=aA I4.o (i:=3) rfl
 have d4:w4.cell? ⟨ib,4,none⟩=some (.int .i64 i.mn):=aA I4.o (i:=4) rfl
 have d5:w4.cell? ⟨ib,5,none⟩=some (.int .i64 i.mx):=aA I4.o (i:=5) rfl
 have d6:w4.cell? ⟨ib,6,none⟩=some (.int .u64 (aB i.s 0)):=aA I4.o (i:=6) rfl
 have d7:w4.cell? ⟨ib,7,none⟩=some (.int .u64 (aB i.s 1)):=aA I4.o (i:=7) rfl
 have d8:w4.cell? ⟨ib,8,none⟩=some (.int .u64 (aB i.s 2)):=aA I4.o (i:=8) rfl
 have d9:w4.cell? ⟨ib,9,none⟩=some (.int .u64 (aB i.s 3)):=aA I4.o (i:=9) rfl
 have u0:w4.cell? ⟨ub,0,none⟩=some (.bool false):=aA U4.o (i:=0) rfl
 have u1:w4.cell? ⟨ub,1,none⟩=some (.bool false):=aA U4.o (i:=1) rfl
 have u2:w4.cell? ⟨ub,2,none⟩=some (.bool false):=aA U4.o (i:=2) rfl
 have u3:w4.cell? ⟨ub,3,none⟩=some (.bool false):=aA U4.o (i:=3) rfl
 have u4:w4.cell? ⟨ub,4,none⟩=some (.bool false):=aA U4.o (i:=4) rfl
 have u5:w4.cell? ⟨ub,5,none⟩=some (.bool false):=aA U4.o (i:=5) rfl
 have hs0:=Hs0.o
 go_wp2
 go_ret
 exact⟨rfl,B4.o⟩
theorem oO{w:World}{p:Pg}(h:PgI w p){k:Nat}{i:Ins}(hi:p.L[k]?=some i)(hk:p.L.length<=40000)(ho:i.op=11)(hs0:i.s=0#256)(hx0:0<=i.x)(hy0:0<=i.y)(hxz:¬ (i.x=0)):Calls Tryz.prog 19 #[.agg #[.slice p.q p.L.length p.c,.int .i64 p.g,.int .i64 p.k,.bool p.f],.int .i64 (k:Int)] w fun e w'=>e=.returned (.bool (false))/\wBl w w':=by
 have B1:Hid (wBl w (w.alloc (.cells #[.slice p.q p.L.length p.c,.int .i64 p.g,.int .i64 p.k,.bool p.f] 24))):=bz9
 have X1:Hid ((w.alloc (.cells #[.slice p.q p.L.length p.c,.int .i64 p.g,.int .i64 p.k,.bool p.f] 24)).heap[w.heap.size]?=some (.cells #[.slice p.q p.L.length p.c,.int .i64 p.g,.int .i64 p.k,.bool p.f] 24 (0,0))):=aE w _
 obtain⟨g1,o1,hq1,hl1,c0,c1,c2,c3,c4,c5,c6,c7,c8,c9⟩:=(h.li.kept B1.o).ten hi
 have hkl:=(g7.1 hi).1
 have k0:(0:Int)<=(k:Int):=by omega
 have k1:(k:Int)<(p.L.length:Int):=by omega
 have OF:=aD (aN i.op)
 have hu:usA i.op=[false,false,false,false,false,false]:=by rw [ho];rfl
 have hiso:isO i.op=true:=by rw [ho];rfl
 rw [hu,hiso] at OF
 have OF:Hid (∀ w,Calls Tryz.prog 22 #[.int .i64 i.op] w fun e w'=>e=.returned (.tuple #[.agg #[.bool false,.bool false,.bool false,.bool false,.bool false,.bool false],.bool true])/\wBl w w'):=OF
 have o9:(i.op==9)=false:=by rw [ho];rfl
 have o10:(i.op==10)=false:=by rw [ho];rfl
 have wl:IntKind.wrap .i64 ((p.L.length:Int)-1)=(p.L.length:Int)-1:=by rw [IntKind.wrap_i64];omega
 have exz:(i.x==0)=false:=by rw [i7];exact hxz
 have fxz:(i.x != 0)=true:=by simp [hxz]
 clear hxz
 have Hs0:=aD hs0
 clear hs0
 clear hu hiso ho
 have HQ:=aD hq1
 clear h hi hq1
 go_enter Tryz.func19,Tryz.ntmps19
 go_upto_region 1 with fail
 generalize (w.alloc (.cells #[.slice p.q p.L.length p.c,.int .i64 p.g,.int .i64 p.k,.bool p.f] 24))=w1 at B1 X1 c0 c1 c2 c3 c4 c5 c6 c7 c8 c9 ⊢
 have p0:w1.cell? ⟨w.heap.size,0,none⟩=some (.slice p.q p.L.length p.c):=aA X1.o (i:=0) rfl
 rw [HQ.o] at p0
 go_upto_region 2 with fail
 have BA:wBl w1 (w1.alloc (.cells #[.int .i64 i.op,.int .i64 i.x,.int .i64 i.y,.int .i64 i.n,.int .i64 i.mn,.int .i64 i.mx,.int .u64 (aB i.s 0),.int .u64 (aB i.s 1),.int .u64 (aB i.s 2),.int .u64 (aB i.s 3)] 54)):=bz9
 have X2:=aD ((BA.block _ (aC X1.o)).trans X1.o)
 have I2:Hid ((w1.alloc (.cells #[.int .i64 i.op,.int .i64 i.x,.int .i64 i.y,.int .i64 i.n,.int .i64 i.mn,.int .i64 i.mx,.int .u64 (aB i.s 0),.int .u64 (aB i.s 1),.int .u64 (aB i.s 2),.int .u64 (aB i.s 3)] 54)).heap[w1.heap.size]?=some (.cells #[.int .i64 i.op,.int .i64 i.x,.int .i64 i.y,.int .i64 i.n,.int .i64 i.mn,.int .i64 i.mx,.int .u64 (aB i.s 0),.int .u64 (aB i.s 1),.int .u64 (aB i.s 2),.int .u64 (aB i.s 3)] 54 (0,0))):=aE w1 _
 have B2:=aD (aF B1.o BA lz9)
 clear BA c0 c1 c2 c3 c4 c5 c6 c7 c8 c9 p0
 generalize (w1.alloc (.cells #[.int .i64 i.op,.int .i64 i.x,.int .i64 i.y,.int .i64 i.n,.int .i64 i.mn,.int .i64 i.mx,.int .u64 (aB i.s 0),.int .u64 (aB i.s 1),.int .u64 (aB i.s 2),.int .u64 (aB i.s 3)] 54))=w2 at X2 I2 B2 ⊢
 obtain⟨ib,hib⟩:∃ ib,w1.heap.size=ib:=⟨_,rfl⟩
 rw [hib] at I2 ⊢
 clear hib
 have d0:w2.cell? ⟨ib,0,none⟩=some (.int .i64 i.op):=aA I2.o (i:=0) rfl
 go_upto_region 3 with (go_at_call 22;(with_reducible refine(OF.o _).mono ?_);rintro e w3 ⟨rfl,h3⟩;have X3:=aD ((h3.block _ (aC X2.o)).trans X2.o);have I3:=aD ((h3.block _ (aC I2.o)).trans I2.o);have B3:=aD (aF B2.o h3 lz9);clear h3)
 have BA:wBl w3 (w3.alloc (.cells #[.bool false,.bool false,.bool false,.bool false,.bool false,.bool false] 61)):=bz9
 have X4:=aD ((BA.block _ (aC X3.o)).trans X3.o)
 have I4:=aD ((BA.block _ (aC I3.o)).trans I3.o)
 have U4:Hid ((w3.alloc (.cells #[.bool false,.bool false,.bool false,.bool false,.bool false,.bool false] 61)).heap[w3.heap.size]?=some (.cells #[.bool false,.bool false,.bool false,.bool false,.bool false,.bool false] 61 (0,0))):=aE w3 _
 have B4:=aD (aF B3.o BA lz9)
 clear BA X3 I3 B3 X2 I2 B2
 generalize (w3.alloc (.cells #[.bool false,.bool false,.bool false,.bool false,.bool false,.bool false] 61))=w4 at X4 I4 U4 B4 ⊢
 obtain⟨ub,hub⟩:∃ ub,w3.heap.size=ub:=⟨_,rfl⟩
 rw [hub] at U4 ⊢
 clear hub
 have p0:w4.cell? ⟨w.heap.size,0,none⟩=some (.slice p.q p.L.length p.c):=aA X4.o (i:=0) rfl
 have p1:w4.cell? ⟨w.heap.size,1,none⟩=some (.int .i64 p.g):=aA X4.o (i:=1) rfl
 have p2:w4.cell? ⟨w.heap.size,2,none⟩=some (.int .i64 p.k):=aA X4.o (i:=2) rfl
 have d0:w4.cell? ⟨ib,0,none⟩=some (.int .i64 i.op):=aA I4.o (i:=0) rfl
 have d1:w4.cell? ⟨ib,1,none⟩=some (.int .i64 i.x):=aA I4.o (i:=1) rfl
 have d2:w4.cell? ⟨ib,2,none⟩=some (.int .i64 i.y):=aA I4.o (i:=2) rfl
 have d3:w4.cell? ⟨ib,3,none⟩=some (.int .i64 i.n):=aA I4.o (i:=3) rfl
 have d4:w4.cell? ⟨ib,4,none⟩=some (.int .i64 i.mn):=aA I4.o (i:=4) rfl
 have d5:w4.cell? ⟨ib,5,none⟩=some (.int .i64 i.mx):=aA I4.o (i:=5) rfl
 have d6:w4.cell? ⟨ib,6,none⟩=some (.int .u64 (aB i.s 0)):=aA I4.o (i:=6) rfl
 have d7:w4.cell? ⟨ib,7,none⟩=some (.int .u64 (aB i.s 1)):=aA I4.o (i:=7) rfl
 have d8:w4.cell? ⟨ib,8,none⟩=some (.int .u64 (aB i.s 2)):=aA I4.o (i:=8) rfl
 have d9:w4.cell? ⟨ib,9,none⟩=some (.int .u64 (aB i.s 3)):=aA I4.o (i:=9) rfl
 have u0:w4.cell? ⟨ub,0,none⟩=some (.bool false):=aA U4.o (i:=0) rfl
 have u1:w4.cell? ⟨ub,1,none⟩=some (.bool false):=aA U4.o (i:=1) rfl
 have u2:w4.cell? ⟨ub,2,none⟩=some (.bool false):=aA U4.o (i:=2) rfl
 have u3:w4.cell? ⟨ub,3,none⟩=some (.bool false):=aA U4.o (i:=3) rfl
 have u4:w4.cell? ⟨ub,4,none⟩=some (.bool false):=aA U4.o (i:=4) rfl
 have u5:w4.cell? ⟨ub,5,none⟩=some (.bool false):=aA U4.o (i:=5) rfl
 have hs0:=Hs0.o
 go_wp2
 go_ret
 exact⟨rfl,B4.o⟩
theorem oN{w:World}{p:Pg}(h:PgI w p){k:Nat}{i:Ins}(hi:p.L[k]?=some i)(hk:p.L.length<=40000)(ho:i.op=11)(hs0:i.s=0#256)(hx0:0<=i.x)(hy0:¬ (0<=i.y))(hxz:i.x=0)(hyz:¬ (i.y=0)):Calls Tryz.prog 19 #[.agg #[.slice p.q p.L.length p.c,.int .i64 p.g,.int .i64 p.k,.bool p.f],.int .i64 (k:Int)] w fun e w'=>e=.returned (.bool (false))/\wBl w w':=by
 have B1:Hid (wBl w (w.alloc (.cells #[.slice p.q p.L.length p.c,.int .i64 p.g,.int .i64 p.k,.bool p.f] 24))):=bz9
 have X1:Hid ((w.alloc (.cells #[.slice p.q p.L.length p.c,.int .i64 p.g,.int .i64 p.k,.bool p.f] 24)).heap[w.heap.size]?=some (.cells #[.slice p.q p.L.length p.c,.int .i64 p.g,.int .i64 p.k,.bool p.f] 24 (0,0))):=aE w _
 obtain⟨g1,o1,hq1,hl1,c0,c1,c2,c3,c4,c5,c6,c7,c8,c9⟩:=(h.li.kept B1.o).ten hi
 have hkl:=(g7.1 hi).1
 have k0:(0:Int)<=(k:Int):=by omega
 have k1:(k:Int)<(p.L.length:Int):=by omega
 have OF:=aD (aN i.op)
 have hu:usA i.op=[false,false,false,false,false,false]:=by rw [ho];rfl
 have hiso:isO i.op=true:=by rw [ho];rfl
 rw [hu,hiso] at OF
 have OF:Hid (∀ w,Calls Tryz.prog 22 #[.int .i64 i.op] w fun e w'=>e=.returned (.tuple #[.agg #[.bool false,.bool false,.bool false,.bool false,.bool false,.bool false],.bool true])/\wBl w w'):=OF
 have o9:(i.op==9)=false:=by rw [ho];rfl
 have o10:(i.op==10)=false:=by rw [ho];rfl
 have wl:IntKind.wrap .i64 ((p.L.length:Int)-1)=(p.L.length:Int)-1:=by rw [IntKind.wrap_i64];omega
 have exz:(i.x==0)=true:=by rw [beq_iff_eq];exact hxz
 have fxz:(i.x != 0)=false:=by simp [hxz]
 clear hxz
 have eyz:(i.y==0)=false:=by rw [i7];exact hyz
 have fyz:(i.y != 0)=true:=by simp [hyz]
 clear hyz
 have Hs0:=aD hs0
 clear hs0
 clear hu hiso ho
 have HQ:=aD hq1
 clear h hi hq1
 go_enter Tryz.func19,Tryz.ntmps19
 go_upto_region 1 with fail
 generalize (w.alloc (.cells #[.slice p.q p.L.length p.c,.int .i64 p.g,.int .i64 p.k,.bool p.f] 24))=w1 at B1 X1 c0 c1 c2 c3 c4 c5 c6 c7 c8 c9 ⊢
 have p0:w1.cell? ⟨w.heap.size,0,none⟩=some (.slice p.q p.L.length p.c):=aA X1.o (i:=0) rfl
 rw [HQ.o] at p0
 go_upto_region 2 with fail
 have BA:wBl w1 (w1.alloc (.cells #[.int .i64 i.op,.int .i64 i.x,.int .i64 i.y,.int .i64 i.n,.int .i64 i.mn,.int .i64 i.mx,.int .u64 (aB i.s 0),.int .u64 (aB i.s 1),.int .u64 (aB i.s 2),.int .u64 (aB i.s 3)] 54)):=bz9
 have X2:=aD ((BA.block _ (aC X1.o)).trans X1.o)
 have I2:Hid ((w1.alloc (.cells #[.int .i64 i.op,.int .i64 i.x,.int .i64 i.y,.int .i64 i.n,.int .i64 i.mn,.int .i64 i.mx,.int .u64 (aB i.s 0),.int .u64 (aB i.s 1),.int .u64 (aB i.s 2),.int .u64 (aB i.s 3)] 54)).heap[w1.heap.size]?=some (.cells #[.int .i64 i.op,.int .i64 i.x,.int .i64 i.y,.int .i64 i.n,.int .i64 i.mn,.int .i64 i.mx,.int .u64 (aB i.s 0),.int .u64 (aB i.s 1),.int .u64 (aB i.s 2),.int .u64 (aB i.s 3)] 54 (0,0))):=aE w1 _
 have B2:=aD (aF B1.o BA lz9)
 clear BA c0 c1 c2 c3 c4 c5 c6 c7 c8 c9 p0
 generalize (w1.alloc (.cells #[.int .i64 i.op,.int .i64 i.x,.int .i64 i.y,.int .i64 i.n,.int .i64 i.mn,.int .i64 i.mx,.int .u64 (aB i.s 0),.int .u64 (aB i.s 1),.int .u64 (aB i.s 2),.int .u64 (aB i.s 3)] 54))=w2 at X2 I2 B2 ⊢
 obtain⟨ib,hib⟩:∃ ib,w1.heap.size=ib:=⟨_,rfl⟩
 rw [hib] at I2 ⊢
 clear hib
 have d0:w2.cell? ⟨ib,0,none⟩=some (.int .i64 i.op):=aA I2.o (i:=0) rfl
 go_upto_region 3 with (go_at_call 22;(with_reducible refine(OF.o _).mono ?_);rintro e w3 ⟨rfl,h3⟩;have X3:=aD ((h3.block _ (aC X2.o)).trans X2.o);have I3:=aD ((h3.block _ (aC I2.o)).trans I2.o);have B3:=aD (aF B2.o h3 lz9);clear h3)
 have BA:wBl w3 (w3.alloc (.cells #[.bool false,.bool false,.bool false,.bool false,.bool false,.bool false] 61)):=bz9
 have X4:=aD ((BA.block _ (aC X3.o)).trans X3.o)
 have I4:=aD ((BA.block _ (aC I3.o)).trans I3.o)
 have U4:Hid ((w3.alloc (.cells #[.bool false,.bool false,.bool false,.bool false,.bool false,.bool false] 61)).heap[w3.heap.size]?=some (.cells #[.bool false,.bool false,.bool false,.bool false,.bool false,.bool false] 61 (0,0))):=aE w3 _
 have B4:=aD (aF B3.o BA lz9)
 clear BA X3 I3 B3 X2 I2 B2
 generalize (w3.alloc (.cells #[.bool false,.bool false,.bool false,.bool false,.bool false,.bool false] 61))=w4 at X4 I4 U4 B4 ⊢
 obtain⟨ub,hub⟩:∃ ub,w3.heap.size=ub:=⟨_,rfl⟩
 rw [hub] at U4 ⊢
 clear hub
 have p0:w4.cell? ⟨w.heap.size,0,none⟩=some (.slice p.q p.L.length p.c):=aA X4.o (i:=0) rfl
 have p1:w4.cell? ⟨w.heap.size,1,none⟩=some (.int .i64 p.g):=aA X4.o (i:=1) rfl
 have p2:w4.cell? ⟨w.heap.size,2,none⟩=some (.int .i64 p.k):=aA X4.o (i:=2) rfl
 have d0:w4.cell? ⟨ib,0,none⟩=some (.int .i64 i.op):=aA I4.o (i:=0) rfl
 have d1:w4.cell? ⟨ib,1,none⟩=some (.int .i64 i.x):=aA I4.o (i:=1) rfl
 have d2:w4.cell? ⟨ib,2,none⟩=some (.int .i64 i.y):=aA I4.o (i:=2) rfl
 have d3:w4.cell? ⟨ib,3,none⟩=some (.int .i64 i.n):=aA I4.o (i:=3) rfl
 have d4:w4.cell? ⟨ib,4,none⟩=some (.int .i64 i.mn):=aA I4.o (i:=4) rfl
 have d5:w4.cell? ⟨ib,5,none⟩=some (.int .i64 i.mx):=aA I4.o (i:=5) rfl
 have d6:w4.cell? ⟨ib,6,none⟩=some (.int .u64 (aB i.s 0)):=aA I4.o (i:=6) rfl
 have d7:w4.cell? ⟨ib,7,none⟩=some (.int .u64 (aB i.s 1)):=aA I4.o (i:=7) rfl
 have d8:w4.cell? ⟨ib,8,none⟩=some (.int .u64 (aB i.s 2)):=aA I4.o (i:=8) rfl
 have d9:w4.cell? ⟨ib,9,none⟩=some (.int .u64 (aB i.s 3)):=aA I4.o (i:=9) rfl
 have u0:w4.cell? ⟨ub,0,none⟩=some (.bool false):=aA U4.o (i:=0) rfl
 have u1:w4.cell? ⟨ub,1,none⟩=some (.bool false):=aA U4.o (i:=1) rfl
 have u2:w4.cell? ⟨ub,2,none⟩=some (.bool false):=aA U4.o (i:=2) rfl
 have u3:w4.cell? ⟨ub,3,none⟩=some (.bool false):=aA U4.o (i:=3) rfl
 have u4:w4.cell? ⟨ub,4,none⟩=some (.bool false):=aA U4.o (i:=4) rfl
 have u5:w4.cell? ⟨ub,5,none⟩=some (.bool false):=aA U4.o (i:=5) rfl
 have hs0:=Hs0.o
 go_wp2
 go_ret
 exact⟨rfl,B4.o⟩
theorem oM{w:World}{p:Pg}(h:PgI w p){k:Nat}{i:Ins}(hi:p.L[k]?=some i)(hk:p.L.length<=40000)(ho:i.op=11)(hs0:i.s=0#256)(hx0:0<=i.x)(hy0:¬ (0<=i.y))(hxz:¬ (i.x=0)):Calls Tryz.prog 19 #[.agg #[.slice p.q p.L.length p.c,.int .i64 p.g,.int .i64 p.k,.bool p.f],.int .i64 (k:Int)] w fun e w'=>e=.returned (.bool (false))/\wBl w w':=by
 have B1:Hid (wBl w (w.alloc (.cells #[.slice p.q p.L.length p.c,.int .i64 p.g,.int .i64 p.k,.bool p.f] 24))):=bz9
 have X1:Hid ((w.alloc (.cells #[.slice p.q p.L.length p.c,.int .i64 p.g,.int .i64 p.k,.bool p.f] 24)).heap[w.heap.size]?=some (.cells #[.slice p.q p.L.length p.c,.int .i64 p.g,.int .i64 p.k,.bool p.f] 24 (0,0))):=aE w _
 obtain⟨g1,o1,hq1,hl1,c0,c1,c2,c3,c4,c5,c6,c7,c8,c9⟩:=(h.li.kept B1.o).ten hi
 have hkl:=(g7.1 hi).1
 have k0:(0:Int)<=(k:Int):=by omega
 have k1:(k:Int)<(p.L.length:Int):=by omega
 have OF:=aD (aN i.op)
 have hu:usA i.op=[false,false,false,false,false,false]:=by rw [ho];rfl
 have hiso:isO i.op=true:=by rw [ho];rfl
 rw [hu,hiso] at OF
 have OF:Hid (∀ w,Calls Tryz.prog 22 #[.int .i64 i.op] w fun e w'=>e=.returned (.tuple #[.agg #[.bool false,.bool false,.bool false,.bool false,.bool false,.bool false],.bool true])/\wBl w w'):=OF
 have o9:(i.op==9)=false:=by rw [ho];rfl
 have o10:(i.op==10)=false:=by rw [ho];rfl
 have wl:IntKind.wrap .i64 ((p.L.length:Int)-1)=(p.L.length:Int)-1:=by rw [IntKind.wrap_i64];omega
 have exz:(i.x==0)=false:=by rw [i7];exact hxz
 have fxz:(i.x != 0)=true:=by simp [hxz]
 clear hxz
 have Hs0:=aD hs0
 clear hs0
 clear hu hiso ho
 have HQ:=aD hq1
 clear h hi hq1
 go_enter Tryz.func19,Tryz.ntmps19
 go_upto_region 1 with fail
 generalize (w.alloc (.cells #[.slice p.q p.L.length p.c,.int .i64 p.g,.int .i64 p.k,.bool p.f] 24))=w1 at B1 X1 c0 c1 c2 c3 c4 c5 c6 c7 c8 c9 ⊢
 have p0:w1.cell? ⟨w.heap.size,0,none⟩=some (.slice p.q p.L.length p.c):=aA X1.o (i:=0) rfl
 rw [HQ.o] at p0
 go_upto_region 2 with fail
 have BA:wBl w1 (w1.alloc (.cells #[.int .i64 i.op,.int .i64 i.x,.int .i64 i.y,.int .i64 i.n,.int .i64 i.mn,.int .i64 i.mx,.int .u64 (aB i.s 0),.int .u64 (aB i.s 1),.int .u64 (aB i.s 2),.int .u64 (aB i.s 3)] 54)):=bz9
 have X2:=aD ((BA.block _ (aC X1.o)).trans X1.o)
 have I2:Hid ((w1.alloc (.cells #[.int .i64 i.op,.int .i64 i.x,.int .i64 i.y,.int .i64 i.n,.int .i64 i.mn,.int .i64 i.mx,.int .u64 (aB i.s 0),.int .u64 (aB i.s 1),.int .u64 (aB i.s 2),.int .u64 (aB i.s 3)] 54)).heap[w1.heap.size]?=some (.cells #[.int .i64 i.op,.int .i64 i.x,.int .i64 i.y,.int .i64 i.n,.int .i64 i.mn,.int .i64 i.mx,.int .u64 (aB i.s 0),.int .u64 (aB i.s 1),.int .u64 (aB i.s 2),.int .u64 (aB i.s 3)] 54 (0,0))):=aE w1 _
 have B2:=aD (aF B1.o BA lz9)
 clear BA c0 c1 c2 c3 c4 c5 c6 c7 c8 c9 p0
 generalize (w1.alloc (.cells #[.int .i64 i.op,.int .i64 i.x,.int .i64 i.y,.int .i64 i.n,.int .i64 i.mn,.int .i64 i.mx,.int .u64 (aB i.s 0),.int .u64 (aB i.s 1),.int .u64 (aB i.s 2),.int .u64 (aB i.s 3)] 54))=w2 at X2 I2 B2 ⊢
 obtain⟨ib,hib⟩:∃ ib,w1.heap.size=ib:=⟨_,rfl⟩
 rw [hib] at I2 ⊢
 clear hib
 have d0:w2.cell? ⟨ib,0,none⟩=some (.int .i64 i.op):=aA I2.o (i:=0) rfl
 go_upto_region 3 with (go_at_call 22;(with_reducible refine(OF.o _).mono ?_);rintro e w3 ⟨rfl,h3⟩;have X3:=aD ((h3.block _ (aC X2.o)).trans X2.o);have I3:=aD ((h3.block _ (aC I2.o)).trans I2.o);have B3:=aD (aF B2.o h3 lz9);clear h3)
 have BA:wBl w3 (w3.alloc (.cells #[.bool false,.bool false,.bool false,.bool false,.bool false,.bool false] 61)):=bz9
 have X4:=aD ((BA.block _ (aC X3.o)).trans X3.o)
 have I4:=aD ((BA.block _ (aC I3.o)).trans I3.o)
 have U4:Hid ((w3.alloc (.cells #[.bool false,.bool false,.bool false,.bool false,.bool false,.bool false] 61)).heap[w3.heap.size]?=some (.cells #[.bool false,.bool false,.bool false,.bool false,.bool false,.bool false] 61 (0,0))):=aE w3 _
 have B4:=aD (aF B3.o BA lz9)
 clear BA X3 I3 B3 X2 I2 B2
 generalize (w3.alloc (.cells #[.bool false,.bool false,.bool false,.bool false,.bool false,.bool false] 61))=w4 at X4 I4 U4 B4 ⊢
 obtain⟨ub,hub⟩:∃ ub,w3.heap.size=ub:=⟨_,rfl⟩
 rw [hub] at U4 ⊢
 clear hub
 have p0:w4.cell? ⟨w.heap.size,0,none⟩=some (.slice p.q p.L.length p.c):=aA X4.o (i:=0) rfl
 have p1:w4.cell? ⟨w.heap.size,1,none⟩=some (.int .i64 p.g):=aA X4.o (i:=1) rfl
 have p2:w4.cell? ⟨w.heap.size,2,none⟩=some (.int .i64 p.k):=aA X4.o (i:=2) rfl
 have d0:w4.cell? ⟨ib,0,none⟩=some (.int .i64 i.op):=aA I4.o (i:=0) rfl
 have d1:w4.cell? ⟨ib,1,none⟩=some (.int .i64 i.x):=aA I4.o (i:=1) rfl
 have d2:w4.cell? ⟨ib,2,none⟩=some (.int .i64 i.y):=aA I4.o (i:=2) rfl
 have d3:w4.cell? ⟨ib,3,none⟩=some (.int .i64 i.n):=aA I4.o (i:=3) rfl
 have d4:w4.cell? ⟨ib,4,none⟩=some (.int .i64 i.mn):=aA I4.o (i:=4) rfl
 have d5:w4.cell? ⟨ib,5,none⟩=some (.int .i64 i.mx):=aA I4.o (i:=5) rfl
 have d6:w4.cell? ⟨ib,6,none⟩=some (.int .u64 (aB i.s 0)):=aA I4.o (i:=6) rfl
 have d7:w4.cell? ⟨ib,7,none⟩=some (.int .u64 (aB i.s 1)):=aA I4.o (i:=7) rfl
 have d8:w4.cell? ⟨ib,8,none⟩=some (.int .u64 (aB i.s 2)):=aA I4.o (i:=8) rfl
 have d9:w4.cell? ⟨ib,9,none⟩=some (.int .u64 (aB i.s 3)):=aA I4.o (i:=9) rfl
 have u0:w4.cell? ⟨ub,0,none⟩=some (.bool false):=aA U4.o (i:=0) rfl
 have u1:w4.cell? ⟨ub,1,none⟩=some (.bool false):=aA U4.o (i:=1) rfl
 have u2:w4.cell? ⟨ub,2,none⟩=some (.bool false):=aA U4.o (i:=2) rfl
 have u3:w4.cell? ⟨ub,3,none⟩=some (.bool false):=aA U4.o (i:=3) rfl
 have u4:w4.cell? ⟨ub,4,none⟩=some (.bool false):=aA U4.o (i:=4) rfl
 have u5:w4.cell? ⟨ub,5,none⟩=some (.bool false):=aA U4.o (i:=5) rfl
 have hs0:=Hs0.o
 go_wp2
 go_ret
 exact⟨rfl,B4.o⟩
theorem oL{w:World}{p:Pg}(h:PgI w p){k:Nat}{i:Ins}(hi:p.L[k]?=some i)(hk:p.L.length<=40000)(ho:i.op=11)(hs0:i.s=0#256)(hx0:¬ (0<=i.x))(hy0:0<=i.y)(hxz:¬ (i.x=0)):Calls Tryz.prog 19 #[.agg #[.slice p.q p.L.length p.c,.int .i64 p.g,.int .i64 p.k,.bool p.f],.int .i64 (k:Int)] w fun e w'=>e=.returned (.bool (false))/\wBl w w':=by
 have B1:Hid (wBl w (w.alloc (.cells #[.slice p.q p.L.length p.c,.int .i64 p.g,.int .i64 p.k,.bool p.f] 24))):=bz9
 have X1:Hid ((w.alloc (.cells #[.slice p.q p.L.length p.c,.int .i64 p.g,.int .i64 p.k,.bool p.f] 24)).heap[w.heap.size]?=some (.cells #[.slice p.q p.L.length p.c,.int .i64 p.g,.int .i64 p.k,.bool p.f] 24 (0,0))):=aE w _
 obtain⟨g1,o1,hq1,hl1,c0,c1,c2,c3,c4,c5,c6,c7,c8,c9⟩:=(h.li.kept B1.o).ten hi
 have hkl:=(g7.1 hi).1
 have k0:(0:Int)<=(k:Int):=by omega
 have k1:(k:Int)<(p.L.length:Int):=by omega
 have OF:=aD (aN i.op)
 have hu:usA i.op=[false,false,false,false,false,false]:=by rw [ho];rfl
 have hiso:isO i.op=true:=by rw [ho];rfl
 rw [hu,hiso] at OF
 have OF:Hid (∀ w,Calls Tryz.prog 22 #[.int .i64 i.op] w fun e w'=>e=.returned (.tuple #[.agg #[.bool false,.bool false,.bool false,.bool false,.bool false,.bool false],.bool true])/\wBl w w'):=OF
 have o9:(i.op==9)=false:=by rw [ho];rfl
 have o10:(i.op==10)=false:=by rw [ho];rfl
 have wl:IntKind.wrap .i64 ((p.L.length:Int)-1)=(p.L.length:Int)-1:=by rw [IntKind.wrap_i64];omega
 have exz:(i.x==0)=false:=by rw [i7];exact hxz
 have fxz:(i.x != 0)=true:=by simp [hxz]
 clear hxz
 have Hs0:=aD hs0
 clear hs0
 clear hu hiso ho
 have HQ:=aD hq1
 clear h hi hq1
 go_enter Tryz.func19,Tryz.ntmps19
 go_upto_region 1 with fail
 generalize (w.alloc (.cells #[.slice p.q p.L.length p.c,.int .i64 p.g,.int .i64 p.k,.bool p.f] 24))=w1 at B1 X1 c0 c1 c2 c3 c4 c5 c6 c7 c8 c9 ⊢
 have p0:w1.cell? ⟨w.heap.size,0,none⟩=some (.slice p.q p.L.length p.c):=aA X1.o (i:=0) rfl
 rw [HQ.o] at p0
 go_upto_region 2 with fail
 have BA:wBl w1 (w1.alloc (.cells #[.int .i64 i.op,.int .i64 i.x,.int .i64 i.y,.int .i64 i.n,.int .i64 i.mn,.int .i64 i.mx,.int .u64 (aB i.s 0),.int .u64 (aB i.s 1),.int .u64 (aB i.s 2),.int .u64 (aB i.s 3)] 54)):=bz9
 have X2:=aD ((BA.block _ (aC X1.o)).trans X1.o)
 have I2:Hid ((w1.alloc (.cells #[.int .i64 i.op,.int .i64 i.x,.int .i64 i.y,.int .i64 i.n,.int .i64 i.mn,.int .i64 i.mx,.int .u64 (aB i.s 0),.int .u64 (aB i.s 1),.int .u64 (aB i.s 2),.int .u64 (aB i.s 3)] 54)).heap[w1.heap.size]?=some (.cells #[.int .i64 i.op,.int .i64 i.x,.int .i64 i.y,.int .i64 i.n,.int .i64 i.mn,.int .i64 i.mx,.int .u64 (aB i.s 0),.int .u64 (aB i.s 1),.int .u64 (aB i.s 2),.int .u64 (aB i.s 3)] 54 (0,0))):=aE w1 _
 have B2:=aD (aF B1.o BA lz9)
 clear BA c0 c1 c2 c3 c4 c5 c6 c7 c8 c9 p0
 generalize (w1.alloc (.cells #[.int .i64 i.op,.int .i64 i.x,.int .i64 i.y,.int .i64 i.n,.int .i64 i.mn,.int .i64 i.mx,.int .u64 (aB i.s 0),.int .u64 (aB i.s 1),.int .u64 (aB i.s 2),.int .u64 (aB i.s 3)] 54))=w2 at X2 I2 B2 ⊢
 obtain⟨ib,hib⟩:∃ ib,w1.heap.size=ib:=⟨_,rfl⟩
 rw [hib] at I2 ⊢
 clear hib
 have d0:w2.cell? ⟨ib,0,none⟩=some (.int .i64 i.op):=aA I2.o (i:=0) rfl
 go_upto_region 3 with (go_at_call 22;(with_reducible refine(OF.o _).mono ?_);rintro e w3 ⟨rfl,h3⟩;have X3:=aD ((h3.block _ (aC X2.o)).trans X2.o);have I3:=aD ((h3.block _ (aC I2.o)).trans I2.o);have B3:=aD (aF B2.o h3 lz9);clear h3)
 have BA:wBl w3 (w3.alloc (.cells #[.bool false,.bool false,.bool false,.bool false,.bool false,.bool false] 61)):=bz9
 have X4:=aD ((BA.block _ (aC X3.o)).trans X3.o)
 have I4:=aD ((BA.block _ (aC I3.o)).trans I3.o)
 have U4:Hid ((w3.alloc (.cells #[.bool false,.bool false,.bool false,.bool false,.bool false,.bool false] 61)).heap[w3.heap.size]?=some (.cells #[.bool false,.bool false,.bool false,.bool false,.bool false,.bool false] 61 (0,0))):=aE w3 _
 have B4:=aD (aF B3.o BA lz9)
 clear BA X3 I3 B3 X2 I2 B2
 generalize (w3.alloc (.cells #[.bool false,.bool false,.bool false,.bool false,.bool false,.bool false] 61))=w4 at X4 I4 U4 B4 ⊢
 obtain⟨ub,hub⟩:∃ ub,w3.heap.size=ub:=⟨_,rfl⟩
 rw [hub] at U4 ⊢
 clear hub
 have p0:w4.cell? ⟨w.heap.size,0,none⟩=some (.slice p.q p.L.length p.c):=aA X4.o (i:=0) rfl
 have p1:w4.cell? ⟨w.heap.size,1,none⟩=some (.int .i64 p.g):=aA X4.o (i:=1) rfl
 have p2:w4.cell? ⟨w.heap.size,2,none⟩=some (.int .i64 p.k):=aA X4.o (i:=2) rfl
 have d0:w4.cell? ⟨ib,0,none⟩=some (.int .i64 i.op):=aA I4.o (i:=0) rfl
 have d1:w4.cell? ⟨ib,1,none⟩=some (.int .i64 i.x):=aA I4.o (i:=1) rfl
 have d2:w4.cell? ⟨ib,2,none⟩=some (.int .i64 i.y):=aA I4.o (i:=2) rfl
 have d3:w4.cell? ⟨ib,3,none⟩=some (.int .i64 i.n):=aA I4.o (i:=3) rfl
 have d4:w4.cell? ⟨ib,4,none⟩=some (.int .i64 i.mn):=aA I4.o (i:=4) rfl
 have d5:w4.cell? ⟨ib,5,none⟩=some (.int .i64 i.mx):=aA I4.o (i:=5) rfl
 have d6:w4.cell? ⟨ib,6,none⟩=some (.int .u64 (aB i.s 0)):=aA I4.o (i:=6) rfl
 have d7:w4.cell? ⟨ib,7,none⟩=some (.int .u64 (aB i.s 1)):=aA I4.o (i:=7) rfl
 have d8:w4.cell? ⟨ib,8,none⟩=some (.int .u64 (aB i.s 2)):=aA I4.o (i:=8) rfl
 have d9:w4.cell? ⟨ib,9,none⟩=some (.int .u64 (aB i.s 3)):=aA I4.o (i:=9) rfl
 have u0:w4.cell? ⟨ub,0,none⟩=some (.bool false):=aA U4.o (i:=0) rfl
 have u1:w4.cell? ⟨ub,1,none⟩=some (.bool false):=aA U4.o (i:=1) rfl
 have u2:w4.cell? ⟨ub,2,none⟩=some (.bool false):=aA U4.o (i:=2) rfl
 have u3:w4.cell? ⟨ub,3,none⟩=some (.bool false):=aA U4.o (i:=3) rfl
 have u4:w4.cell? ⟨ub,4,none⟩=some (.bool false):=aA U4.o (i:=4) rfl
 have u5:w4.cell? ⟨ub,5,none⟩=some (.bool false):=aA U4.o (i:=5) rfl
 have hs0:=Hs0.o
 go_wp2
 go_ret
 exact⟨rfl,B4.o⟩
theorem lU{w:World}{p:Pg}(h:PgI w p){k:Nat}{i:Ins}(hi:p.L[k]?=some i)(hk:p.L.length<=40000)(ho:i.op=11)(hs0:i.s=0#256)(hx0:¬ (0<=i.x))(hy0:¬ (0<=i.y))(hxz:¬ (i.x=0)):Calls Tryz.prog 19 #[.agg #[.slice p.q p.L.length p.c,.int .i64 p.g,.int .i64 p.k,.bool p.f],.int .i64 (k:Int)] w fun e w'=>e=.returned (.bool (false))/\wBl w w':=by
 have B1:Hid (wBl w (w.alloc (.cells #[.slice p.q p.L.length p.c,.int .i64 p.g,.int .i64 p.k,.bool p.f] 24))):=bz9
 have X1:Hid ((w.alloc (.cells #[.slice p.q p.L.length p.c,.int .i64 p.g,.int .i64 p.k,.bool p.f] 24)).heap[w.heap.size]?=some (.cells #[.slice p.q p.L.length p.c,.int .i64 p.g,.int .i64 p.k,.bool p.f] 24 (0,0))):=aE w _
 obtain⟨g1,o1,hq1,hl1,c0,c1,c2,c3,c4,c5,c6,c7,c8,c9⟩:=(h.li.kept B1.o).ten hi
 have hkl:=(g7.1 hi).1
 have k0:(0:Int)<=(k:Int):=by omega
 have k1:(k:Int)<(p.L.length:Int):=by omega
 have OF:=aD (aN i.op)
 have hu:usA i.op=[false,false,false,false,false,false]:=by rw [ho];rfl
 have hiso:isO i.op=true:=by rw [ho];rfl
 rw [hu,hiso] at OF
 have OF:Hid (∀ w,Calls Tryz.prog 22 #[.int .i64 i.op] w fun e w'=>e=.returned (.tuple #[.agg #[.bool false,.bool false,.bool false,.bool false,.bool false,.bool false],.bool true])/\wBl w w'):=OF
 have o9:(i.op==9)=false:=by rw [ho];rfl
 have o10:(i.op==10)=false:=by rw [ho];rfl
 have wl:IntKind.wrap .i64 ((p.L.length:Int)-1)=(p.L.length:Int)-1:=by rw [IntKind.wrap_i64];omega
 have exz:(i.x==0)=false:=by rw [i7];exact hxz
 have fxz:(i.x != 0)=true:=by simp [hxz]
 clear hxz
 have Hs0:=aD hs0
 clear hs0
 clear hu hiso ho
 have HQ:=aD hq1
 clear h hi hq1
 go_enter Tryz.func19,Tryz.ntmps19
 go_upto_region 1 with fail
 generalize (w.alloc (.cells #[.slice p.q p.L.length p.c,.int .i64 p.g,.int .i64 p.k,.bool p.f] 24))=w1 at B1 X1 c0 c1 c2 c3 c4 c5 c6 c7 c8 c9 ⊢
 have p0:w1.cell? ⟨w.heap.size,0,none⟩=some (.slice p.q p.L.length p.c):=aA X1.o (i:=0) rfl
 rw [HQ.o] at p0
 go_upto_region 2 with fail
 have BA:wBl w1 (w1.alloc (.cells #[.int .i64 i.op,.int .i64 i.x,.int .i64 i.y,.int .i64 i.n,.int .i64 i.mn,.int .i64 i.mx,.int .u64 (aB i.s 0),.int .u64 (aB i.s 1),.int .u64 (aB i.s 2),.int .u64 (aB i.s 3)] 54)):=bz9
 have X2:=aD ((BA.block _ (aC X1.o)).trans X1.o)
 have I2:Hid ((w1.alloc (.cells #[.int .i64 i.op,.int .i64 i.x,.int .i64 i.y,.int .i64 i.n,.int .i64 i.mn,.int .i64 i.mx,.int .u64 (aB i.s 0),.int .u64 (aB i.s 1),.int .u64 (aB i.s 2),.int .u64 (aB i.s 3)] 54)).heap[w1.heap.size]?=some (.cells #[.int .i64 i.op,.int .i64 i.x,.int .i64 i.y,.int .i64 i.n,.int .i64 i.mn,.int .i64 i.mx,.int .u64 (aB i.s 0),.int .u64 (aB i.s 1),.int .u64 (aB i.s 2),.int .u64 (aB i.s 3)] 54 (0,0))):=aE w1 _
 have B2:=aD (aF B1.o BA lz9)
 clear BA c0 c1 c2 c3 c4 c5 c6 c7 c8 c9 p0
 generalize (w1.alloc (.cells #[.int .i64 i.op,.int .i64 i.x,.int .i64 i.y,.int .i64 i.n,.int .i64 i.mn,.int .i64 i.mx,.int .u64 (aB i.s 0),.int .u64 (aB i.s 1),.int .u64 (aB i.s 2),.int .u64 (aB i.s 3)] 54))=w2 at X2 I2 B2 ⊢
 obtain⟨ib,hib⟩:∃ ib,w1.heap.size=ib:=⟨_,rfl⟩
 rw [hib] at I2 ⊢
 clear hib
 have d0:w2.cell? ⟨ib,0,none⟩=some (.int .i64 i.op):=aA I2.o (i:=0) rfl
 go_upto_region 3 with (go_at_call 22;(with_reducible refine(OF.o _).mono ?_);rintro e w3 ⟨rfl,h3⟩;have X3:=aD ((h3.block _ (aC X2.o)).trans X2.o);have I3:=aD ((h3.block _ (aC I2.o)).trans I2.o);have B3:=aD (aF B2.o h3 lz9);clear h3)
 have BA:wBl w3 (w3.alloc (.cells #[.bool false,.bool false,.bool false,.bool false,.bool false,.bool false] 61)):=bz9
 have X4:=aD ((BA.block _ (aC X3.o)).trans X3.o)
 have I4:=aD ((BA.block _ (aC I3.o)).trans I3.o)
 have U4:Hid ((w3.alloc (.cells #[.bool false,.bool false,.bool false,.bool false,.bool false,.bool false] 61)).heap[w3.heap.size]?=some (.cells #[.bool false,.bool false,.bool false,.bool false,.bool false,.bool false] 61 (0,0))):=aE w3 _
 have B4:=aD (aF B3.o BA lz9)
 clear BA X3 I3 B3 X2 I2 B2
 generalize (w3.alloc (.cells #[.bool false,.bool false,.bool false,.bool false,.bool false,.bool false] 61))=w4 at X4 I4 U4 B4 ⊢
 obtain⟨ub,hub⟩:∃ ub,w3.heap.size=ub:=⟨_,rfl⟩
 rw [hub] at U4 ⊢
 clear hub
 have p0:w4.cell? ⟨w.heap.size,0,none⟩=some (.slice p.q p.L.length p.c):=aA X4.o (i:=0) rfl
 have p1:w4.cell? ⟨w.heap.size,1,none⟩=some (.int .i64 p.g):=aA X4.o (i:=1) rfl
 have p2:w4.cell? ⟨w.heap.size,2,none⟩=some (.int .i64 p.k):=aA X4.o (i:=2) rfl
 have d0:w4.cell? ⟨ib,0,none⟩=some (.int .i64 i.op):=aA I4.o (i:=0) rfl
 have d1:w4.cell? ⟨ib,1,none⟩=some (.int .i64 i.x):=aA I4.o (i:=1) rfl
 have d2:w4.cell? ⟨ib,2,none⟩=some (.int .i64 i.y):=aA I4.o (i:=2) rfl
 have d3:w4.cell? ⟨ib,3,none⟩=some (.int .i64 i.n):=aA I4.o (i:=3) rfl
 have d4:w4.cell? ⟨ib,4,none⟩=some (.int .i64 i.mn):=aA I4.o (i:=4) rfl
 have d5:w4.cell? ⟨ib,5,none⟩=some (.int .i64 i.mx):=aA I4.o (i:=5) rfl
 have d6:w4.cell? ⟨ib,6,none⟩=some (.int .u64 (aB i.s 0)):=aA I4.o (i:=6) rfl
 have d7:w4.cell? ⟨ib,7,none⟩=some (.int .u64 (aB i.s 1)):=aA I4.o (i:=7) rfl
 have d8:w4.cell? ⟨ib,8,none⟩=some (.int .u64 (aB i.s 2)):=aA I4.o (i:=8) rfl
 have d9:w4.cell? ⟨ib,9,none⟩=some (.int .u64 (aB i.s 3)):=aA I4.o (i:=9) rfl
 have u0:w4.cell? ⟨ub,0,none⟩=some (.bool false):=aA U4.o (i:=0) rfl
 have u1:w4.cell? ⟨ub,1,none⟩=some (.bool false):=aA U4.o (i:=1) rfl
 have u2:w4.cell? ⟨ub,2,none⟩=some (.bool false):=aA U4.o (i:=2) rfl
 have u3:w4.cell? ⟨ub,3,none⟩=some (.bool false):=aA U4.o (i:=3) rfl
 have u4:w4.cell? ⟨ub,4,none⟩=some (.bool false):=aA U4.o (i:=4) rfl
 have u5:w4.cell? ⟨ub,5,none⟩=some (.bool false):=aA U4.o (i:=5) rfl
 have hs0:=Hs0.o
 go_wp2
 go_ret
 exact⟨rfl,B4.o⟩
theorem lT{w:World}{p:Pg}(h:PgI w p){k:Nat}{i:Ins}(hi:p.L[k]?=some i)(hk:p.L.length<=40000)(ho:i.op=11)(hs0:¬ (i.s=0#256)):Calls Tryz.prog 19 #[.agg #[.slice p.q p.L.length p.c,.int .i64 p.g,.int .i64 p.k,.bool p.f],.int .i64 (k:Int)] w fun e w'=>e=.returned (.bool (false))/\wBl w w':=by
 have B1:Hid (wBl w (w.alloc (.cells #[.slice p.q p.L.length p.c,.int .i64 p.g,.int .i64 p.k,.bool p.f] 24))):=bz9
 have X1:Hid ((w.alloc (.cells #[.slice p.q p.L.length p.c,.int .i64 p.g,.int .i64 p.k,.bool p.f] 24)).heap[w.heap.size]?=some (.cells #[.slice p.q p.L.length p.c,.int .i64 p.g,.int .i64 p.k,.bool p.f] 24 (0,0))):=aE w _
 obtain⟨g1,o1,hq1,hl1,c0,c1,c2,c3,c4,c5,c6,c7,c8,c9⟩:=(h.li.kept B1.o).ten hi
 have hkl:=(g7.1 hi).1
 have k0:(0:Int)<=(k:Int):=by omega
 have k1:(k:Int)<(p.L.length:Int):=by omega
 have OF:=aD (aN i.op)
 have hu:usA i.op=[false,false,false,false,false,false]:=by rw [ho];rfl
 have hiso:isO i.op=true:=by rw [ho];rfl
 rw [hu,hiso] at OF
 have OF:Hid (∀ w,Calls Tryz.prog 22 #[.int .i64 i.op] w fun e w'=>e=.returned (.tuple #[.agg #[.bool false,.bool false,.bool false,.bool false,.bool false,.bool false],.bool true])/\wBl w w'):=OF
 have o9:(i.op==9)=false:=by rw [ho];rfl
 have o10:(i.op==10)=false:=by rw [ho];rfl
 have wl:IntKind.wrap .i64 ((p.L.length:Int)-1)=(p.L.length:Int)-1:=by rw [IntKind.wrap_i64];omega
 have Hs0:=aD hs0
 clear hs0
 clear hu hiso ho
 have HQ:=aD hq1
 clear h hi hq1
 go_enter Tryz.func19,Tryz.ntmps19
 go_upto_region 1 with fail
 generalize (w.alloc (.cells #[.slice p.q p.L.length p.c,.int .i64 p.g,.int .i64 p.k,.bool p.f] 24))=w1 at B1 X1 c0 c1 c2 c3 c4 c5 c6 c7 c8 c9 ⊢
 have p0:w1.cell? ⟨w.heap.size,0,none⟩=some (.slice p.q p.L.length p.c):=aA X1.o (i:=0) rfl
 rw [HQ.o] at p0
 go_upto_region 2 with fail
 have BA:wBl w1 (w1.alloc (.cells #[.int .i64 i.op,.int .i64 i.x,.int .i64 i.y,.int .i64 i.n,.int .i64 i.mn,.int .i64 i.mx,.int .u64 (aB i.s 0),.int .u64 (aB i.s 1),.int .u64 (aB i.s 2),.int .u64 (aB i.s 3)] 54)):=bz9
 have X2:=aD ((BA.block _ (aC X1.o)).trans X1.o)
 have I2:Hid ((w1.alloc (.cells #[.int .i64 i.op,.int .i64 i.x,.int .i64 i.y,.int .i64 i.n,.int .i64 i.mn,.int .i64 i.mx,.int .u64 (aB i.s 0),.int .u64 (aB i.s 1),.int .u64 (aB i.s 2),.int .u64 (aB i.s 3)] 54)).heap[w1.heap.size]?=some (.cells #[.int .i64 i.op,.int .i64 i.x,.int .i64 i.y,.int .i64 i.n,.int .i64 i.mn,.int .i64 i.mx,.int .u64 (aB i.s 0),.int .u64 (aB i.s 1),.int .u64 (aB i.s 2),.int .u64 (aB i.s 3)] 54 (0,0))):=aE w1 _
 have B2:=aD (aF B1.o BA lz9)
 clear BA c0 c1 c2 c3 c4 c5 c6 c7 c8 c9 p0
 generalize (w1.alloc (.cells #[.int .i64 i.op,.int .i64 i.x,.int .i64 i.y,.int .i64 i.n,.int .i64 i.mn,.int .i64 i.mx,.int .u64 (aB i.s 0),.int .u64 (aB i.s 1),.int .u64 (aB i.s 2),.int .u64 (aB i.s 3)] 54))=w2 at X2 I2 B2 ⊢
 obtain⟨ib,hib⟩:∃ ib,w1.heap.size=ib:=⟨_,rfl⟩
 rw [hib] at I2 ⊢
 clear hib
 have d0:w2.cell? ⟨ib,0,none⟩=some (.int .i64 i.op):=aA I2.o (i:=0) rfl
 go_upto_region 3 with (go_at_call 22;(with_reducible refine(OF.o _).mono ?_);rintro e w3 ⟨rfl,h3⟩;have X3:=aD ((h3.block _ (aC X2.o)).trans X2.o);have I3:=aD ((h3.block _ (aC I2.o)).trans I2.o);have B3:=aD (aF B2.o h3 lz9);clear h3)
 have BA:wBl w3 (w3.alloc (.cells #[.bool false,.bool false,.bool false,.bool false,.bool false,.bool false] 61)):=bz9
 have X4:=aD ((BA.block _ (aC X3.o)).trans X3.o)
 have I4:=aD ((BA.block _ (aC I3.o)).trans I3.o)
 have U4:Hid ((w3.alloc (.cells #[.bool false,.bool false,.bool false,.bool false,.bool false,.bool false] 61)).heap[w3.heap.size]?=some (.cells #[.bool false,.bool false,.bool false,.bool false,.bool false,.bool false] 61 (0,0))):=aE w3 _
 have B4:=aD (aF B3.o BA lz9)
 clear BA X3 I3 B3 X2 I2 B2
 generalize (w3.alloc (.cells #[.bool false,.bool false,.bool false,.bool false,.bool false,.bool false] 61))=w4 at X4 I4 U4 B4 ⊢
 obtain⟨ub,hub⟩:∃ ub,w3.heap.size=ub:=⟨_,rfl⟩
 rw [hub] at U4 ⊢
 clear hub
 have p0:w4.cell? ⟨w.heap.size,0,none⟩=some (.slice p.q p.L.length p.c):=aA X4.o (i:=0) rfl
 have p1:w4.cell? ⟨w.heap.size,1,none⟩=some (.int .i64 p.g):=aA X4.o (i:=1) rfl
 have p2:w4.cell? ⟨w.heap.size,2,none⟩=some (.int .i64 p.k):=aA X4.o (i:=2) rfl
 have d0:w4.cell? ⟨ib,0,none⟩=some (.int .i64 i.op):=aA I4.o (i:=0) rfl
 have d1:w4.cell? ⟨ib,1,none⟩=some (.int .i64 i.x):=aA I4.o (i:=1) rfl
 have d2:w4.cell? ⟨ib,2,none⟩=some (.int .i64 i.y):=aA I4.o (i:=2) rfl
 have d3:w4.cell? ⟨ib,3,none⟩=some (.int .i64 i.n):=aA I4.o (i:=3) rfl
 have d4:w4.cell? ⟨ib,4,none⟩=some (.int .i64 i.mn):=aA I4.o (i:=4) rfl
 have d5:w4.cell? ⟨ib,5,none⟩=some (.int .i64 i.mx):=aA I4.o (i:=5) rfl
 have d6:w4.cell? ⟨ib,6,none⟩=some (.int .u64 (aB i.s 0)):=aA I4.o (i:=6) rfl
 have d7:w4.cell? ⟨ib,7,none⟩=some (.int .u64 (aB i.s 1)):=aA I4.o (i:=7) rfl
 have d8:w4.cell? ⟨ib,8,none⟩=some (.int .u64 (aB i.s 2)):=aA I4.o (i:=8) rfl
 have d9:w4.cell? ⟨ib,9,none⟩=some (.int .u64 (aB i.s 3)):=aA I4.o (i:=9) rfl
 have u0:w4.cell? ⟨ub,0,none⟩=some (.bool false):=aA U4.o (i:=0) rfl
 have u1:w4.cell? ⟨ub,1,none⟩=some (.bool false):=aA U4.o (i:=1) rfl
 have u2:w4.cell? ⟨ub,2,none⟩=some (.bool false):=aA U4.o (i:=2) rfl
 have u3:w4.cell? ⟨ub,3,none⟩=some (.bool false):=aA U4.o (i:=3) rfl
 have u4:w4.cell? ⟨ub,4,none⟩=some (.bool false):=aA U4.o (i:=4) rfl
 have u5:w4.cell? ⟨ub,5,none⟩=some (.bool false):=aA U4.o (i:=5) rfl
 have hs0:=Hs0.o
 go_wp2
 go_ret
 exact⟨rfl,B4.o⟩
theorem xB{w:World}{p:Pg}(h:PgI w p){k:Nat}{i:Ins}(hi:p.L[k]?=some i)(hk:p.L.length<=40000)(ho:i.op=11):Calls Tryz.prog 19 #[.agg #[.slice p.q p.L.length p.c,.int .i64 p.g,.int .i64 p.k,.bool p.f],.int .i64 (k:Int)] w fun e w'=>e=.returned (.bool (fnD p k i))/\wBl w w':=by
 have hkl:=(g7.1 hi).1
 by_cases hs0:i.s=0#256
 ·skip
  by_cases hx0:0<=i.x
  ·skip
   by_cases hy0:0<=i.y
   ·skip
    by_cases hxz:i.x=0
    ·skip
     by_cases hyz:i.y=0
     ·skip
      by_cases hnz:i.n=0
      ·skip
       by_cases hmnz:i.mn=0
       ·skip
        by_cases hmxz:i.mx=0
        ·skip
         exact(bJ (oT h hi hk ho hs0 hx0 hy0 hxz hyz hnz hmnz hmxz) (by unfold fnD;rw [show usA i.op=[false,false,false,false,false,false] from by rw [ho];rfl];simp [ho,isO,hs0,hx0,hy0,hxz,hyz,hnz,hmnz,hmxz];try omega))
        ·skip
         exact(bJ (oS h hi hk ho hs0 hx0 hy0 hxz hyz hnz hmnz hmxz) (by unfold fnD;rw [show usA i.op=[false,false,false,false,false,false] from by rw [ho];rfl];simp [ho,isO,hs0,hx0,hy0,hxz,hyz,hnz,hmnz,hmxz];try omega))
       ·skip
        exact(bJ (oR h hi hk ho hs0 hx0 hy0 hxz hyz hnz hmnz) (by unfold fnD;rw [show usA i.op=[false,false,false,false,false,false] from by rw [ho];rfl];simp [ho,isO,hs0,hx0,hy0,hxz,hyz,hnz,hmnz];try omega))
      ·skip
       exact(bJ (oQ h hi hk ho hs0 hx0 hy0 hxz hyz hnz) (by unfold fnD;rw [show usA i.op=[false,false,false,false,false,false] from by rw [ho];rfl];simp [ho,isO,hs0,hx0,hy0,hxz,hyz,hnz];try omega))
     ·skip
      exact(bJ (oP h hi hk ho hs0 hx0 hy0 hxz hyz) (by unfold fnD;rw [show usA i.op=[false,false,false,false,false,false] from by rw [ho];rfl];simp [ho,isO,hs0,hx0,hy0,hxz,hyz];try omega))
    ·skip
     exact(bJ (oO h hi hk ho hs0 hx0 hy0 hxz) (by unfold fnD;rw [show usA i.op=[false,false,false,false,false,false] from by rw [ho];rfl];simp [ho,isO,hs0,hx0,hy0,hxz];try omega))
   ·skip
    by_cases hxz:i.x=0
    ·skip
     by_cases hyz:i.y=0
     ·skip
      by_cases hnz:i.n=0
      ·skip
       by_cases hmnz:i.mn=0
       ·skip
        by_cases hmxz:i.mx=0
        ·skip
         exfalso;omega
        ·skip
         exfalso;omega
       ·skip
        exfalso;omega
      ·skip
       exfalso;omega
     ·skip
      exact(bJ (oN h hi hk ho hs0 hx0 hy0 hxz hyz) (by unfold fnD;rw [show usA i.op=[false,false,false,false,false,false] from by rw [ho];rfl];simp [ho,isO,hs0,hx0,hy0,hxz,hyz];try omega))
    ·skip
     exact(bJ (oM h hi hk ho hs0 hx0 hy0 hxz) (by unfold fnD;rw [show usA i.op=[false,false,false,false,false,false] from by rw [ho];rfl];simp [ho,isO,hs0,hx0,hy0,hxz];try omega))
  ·skip
   by_cases hy0:0<=i.y
   ·skip
    by_cases hxz:i.x=0
    ·skip
     by_cases hyz:i.y=0
     ·skip
      by_cases hnz:i.n=0
      ·skip
       by_cases hmnz:i.mn=0
       ·skip
        by_cases hmxz:i.mx=0
        ·skip
         exfalso;omega
        ·skip
         exfalso;omega
       ·skip
        exfalso;omega
      ·skip
       exfalso;omega
     ·skip
      exfalso;omega
    ·skip
     exact(bJ (oL h hi hk ho hs0 hx0 hy0 hxz) (by unfold fnD;rw [show usA i.op=[false,false,false,false,false,false] from by rw [ho];rfl];simp [ho,isO,hs0,hx0,hy0,hxz];try omega))
   ·skip
    by_cases hxz:i.x=0
    ·skip
     by_cases hyz:i.y=0
     ·skip
      by_cases hnz:i.n=0
      ·skip
       by_cases hmnz:i.mn=0
       ·skip
        by_cases hmxz:i.mx=0
        ·skip
         exfalso;omega
        ·skip
         exfalso;omega
       ·skip
        exfalso;omega
      ·skip
       exfalso;omega
     ·skip
      exfalso;omega
    ·skip
     exact(bJ (lU h hi hk ho hs0 hx0 hy0 hxz) (by unfold fnD;rw [show usA i.op=[false,false,false,false,false,false] from by rw [ho];rfl];simp [ho,isO,hs0,hx0,hy0,hxz];try omega))
 ·skip
  exact(bJ (lT h hi hk ho hs0) (by unfold fnD;rw [show usA i.op=[false,false,false,false,false,false] from by rw [ho];rfl];simp [ho,isO,hs0];try omega))
end
theorem zN{w:World}{p:Pg}(h:PgI w p){k:Nat}{i:Ins}(hi:p.L[k]?=some i)(hk:p.L.length<=40000):Calls Tryz.prog 19 #[.agg #[.slice p.q p.L.length p.c,.int .i64 p.g,.int .i64 p.k,.bool p.f],.int .i64 (k:Int)] w fun e w'=>e=.returned (.bool (fnD p k i))/\wBl w w':=by
 by_cases h1:i.op=1
 ·exact zX h hi hk h1
 by_cases h2:i.op=2
 ·exact zW h hi hk h2
 by_cases h3:i.op=3
 ·exact zV h hi hk h3
 by_cases h4:i.op=4
 ·exact zU h hi hk h4
 by_cases h5:i.op=5
 ·exact zT h hi hk h5
 by_cases h6:i.op=6
 ·exact zS h hi hk h6
 by_cases h7:i.op=7
 ·exact zR h hi hk h7
 by_cases h8:i.op=8
 ·exact zQ h hi hk h8
 by_cases h9:i.op=9
 ·exact zO h hi hk h9
 by_cases h10:i.op=10
 ·exact xC h hi hk h10
 by_cases h11:i.op=11
 ·exact xB h hi hk h11
 refine zY h hi hk ?_ ?_
 ·unfold isO
  rw [j6]
  omega
 ·unfold usA
  rw [if_neg h1,if_neg h2,if_neg h3,if_neg (fun q=>q.elim h4 h5),if_neg (fun q=>by rcases q with q | q | q | q <;> contradiction),if_neg h10]
section
attribute [local go_sem] Oper.semAt_some
theorem eZ{w:World}{p:Pg}(h:PgI w p):Calls Tryz.prog 6 #[.agg #[.slice p.q p.L.length p.c,.int .i64 p.g,.int .i64 p.k,.bool p.f]] w fun e w'=>e=.returned (.tuple #[.int .i64 (rtE p).1,.int .i64 (rtE p).2])/\wBl w w':=by
 have B1:Hid (wBl w (w.alloc (.cells #[.slice p.q p.L.length p.c,.int .i64 p.g,.int .i64 p.k,.bool p.f] 24))):=bz9
 have X1:Hid ((w.alloc (.cells #[.slice p.q p.L.length p.c,.int .i64 p.g,.int .i64 p.k,.bool p.f] 24)).heap[w.heap.size]?=some (.cells #[.slice p.q p.L.length p.c,.int .i64 p.g,.int .i64 p.k,.bool p.f] 24 (0,0))):=aE w _
 have H:=aD h
 obtain⟨r1,hr1⟩:∃ r,(rtE p).1=r:=⟨_,rfl⟩
 obtain⟨r2,hr2⟩:∃ r,(rtE p).2=r:=⟨_,rfl⟩
 have HR:Hid (rtE p=(r1,r2)):=aD (by rw [<- hr1,<- hr2])
 rw [hr1,hr2]
 unfold rtE at HR
 clear hr1 hr2 h
 go_enter Tryz.func6,Tryz.ntmps6
 go_upto_region 1 with fail
 generalize (w.alloc (.cells #[.slice p.q p.L.length p.c,.int .i64 p.g,.int .i64 p.k,.bool p.f] 24))=w1 at B1 X1 ⊢
 have p0:=aA X1.o (i:=0) rfl
 have p1:=aA X1.o (i:=1) rfl
 have p2:=aA X1.o (i:=2) rfl
 have p3:=aA X1.o (i:=3) rfl
 by_cases hl:40000<p.L.length
 ·have i0:(40000:Int)<(p.L.length:Int):=by omega
  have HE:=HR.o
  rw [if_pos hl] at HE
  obtain⟨e1,e2⟩:=Prod.mk.inj HE
  have E1:=aD e1
  have E2:=aD e2
  clear HE e1 e2 hl
  go_wp2
  go_ret2
  exact⟨by rw [<- E1.o,<- E2.o];rfl,B1.o⟩
 have i0:¬ (40000:Int)<(p.L.length:Int):=by omega
 have HR2:=HR.o
 rw [if_neg hl] at HR2
 have HL:=aD hl
 obtain⟨q,hq⟩:∃ q:Bool,q=(!blw p.g 31 || !blw p.k 41):=⟨_,rfl⟩
 rw [<- hq] at HR2
 have HR3:=aD HR2
 have HQ:=aD hq
 clear HR2 hq hl HR
 go_upto_region 3 with fail
 go_cut [27] (fun v wx=>v=.bool q/\wx=w1)
 case first=>
  by_cases c1:p.g<0
  ·have D1:=aD c1
   go_wp2
   go_meet
   exact⟨by rw [HQ.o];have:=D1.o;simp [blw];omega,rfl⟩
  ·by_cases c2:30<p.g
   ·have D1:=aD c2
    go_wp2
    go_meet
    exact⟨by rw [HQ.o];have:=D1.o;simp [blw];omega,rfl⟩
   ·by_cases c3:p.k<0
    ·have D1:=aD c3
     go_wp2
     go_meet
     exact⟨by rw [HQ.o];have:=D1.o;simp [blw];omega,rfl⟩
    ·by_cases c4:40<p.k
     ·have D1:=aD c4
      go_wp2
      go_meet
      exact⟨by rw [HQ.o];have:=D1.o;simp [blw];omega,rfl⟩
     ·have D:=aD (And.intro c1 (And.intro c2 (And.intro c3 c4)))
      go_wp2
      go_meet
      exact⟨by rw [HQ.o];have:=D.o;simp [blw];omega,rfl⟩
 case rest=>
 obtain⟨hv,hwx⟩:=hcut
 subst hv
 rw [hwx]
 clear hwx wc
 cases q with
 | true=>
  have HE:=HR3.o
  rw [if_pos rfl] at HE
  obtain⟨e1,e2⟩:=Prod.mk.inj HE
  have E1:=aD e1
  have E2:=aD e2
  clear HE e1 e2
  go_wp2
  go_ret2
  exact⟨by rw [<- E1.o,<- E2.o];rfl,B1.o⟩
 | false=>
 have HE:=HR3.o
 rw [if_neg (by decide)] at HE
 have HR4:=aD HE
 clear HE HR3
 go_wp2
 go_loopw [4] (fun v wr=>∃ k:Nat,v=.int .i64 (k:Int)/\k<=p.L.length/\fbI p 0 p.L=fbI p k (p.L.drop k)/\wBl w wr/\wr.heap[w.heap.size]?=some (.cells #[.slice p.q p.L.length p.c,.int .i64 p.g,.int .i64 p.k,.bool p.f] 24 (0,0))) (fun v _=>p.L.length-(intOf v).toNat)
 case atStart=>exact⟨0,rfl,Nat.zero_le _,rfl,B1.o,X1.o⟩
 case round=>
  clear p0 p1 p2 p3
  obtain⟨k,rfl,hk,hf,hB,hX⟩:=hrel
  have HF:=aD hf
  have B2:=aD hB
  have X2:=aD hX
  clear hf hB hX
  have p0:=aA X2.o (i:=0) rfl
  have p1:=aA X2.o (i:=1) rfl
  have p2:=aA X2.o (i:=2) rfl
  have p3:=aA X2.o (i:=3) rfl
  by_cases hkl:k<p.L.length
  ·have i1:(k:Int)<(p.L.length:Int):=by omega
   obtain⟨i,hi⟩:∃ i,p.L[k]?=some i:=⟨_,i8 hkl⟩
   have FD:=mL p hi
   have FC:=aD (zN (H.o.kept B2.o) hi (by have:=HL.o;omega))
   rw [mK] at FC
   have hw1:IntKind.wrap .i64 ((k:Int)+1)=(k:Int)+1:=wrap_small _ (by omega) (by have:=HL.o;omega)
   obtain⟨b,hb⟩:∃ b,bE p k i=b:=⟨_,rfl⟩
   rw [hb] at FC FD
   have FD2:=aD FD
   have i2:¬ (p.L.length:Int)=0:=by omega
   have hne:p.L.length≠0:=by omega
   have HNE:=aD hne
   clear hb hi FD hne
   cases b with
   | false=>
    have HE:=HR4.o
    rw [if_neg HNE.o,HF.o,FD2.o] at HE
    simp only [o8,if_false] at HE
    obtain⟨e1,e2⟩:=Prod.mk.inj HE
    have E1:=aD e1
    have E2:=aD e2
    clear HE e1 e2
    go_wp2_with (go_at_call 19;(with_reducible refine(FC.o).mono ?_);rintro e w5 ⟨rfl,h5⟩;have B5:=aD (aF B2.o h5 lz9);clear h5)
    go_ret2
    exact⟨by rw [<- E1.o,<- E2.o];rfl,B5.o⟩
   | true=>
    have HF2:Hid (fbI p 0 p.L=fbI p (k+1) (p.L.drop (k+1))):=aD (by rw [HF.o,FD2.o,if_pos rfl])
    go_wp2_with (go_at_call 19;(with_reducible refine(FC.o).mono ?_);rintro e w5 ⟨rfl,h5⟩;have B5:=aD (aF B2.o h5 lz9);have X5:=aD ((h5.block _ (aC X2.o)).trans X2.o);clear h5)
    go_roundw
    case rel=>exact⟨k+1,by go_num,hkl,HF2.o,B5.o,X5.o⟩
    case measure=>simp only [intOf];omega
  ·have i1:¬ (k:Int)<(p.L.length:Int):=by omega
   by_cases hz:p.L.length=0
   ·have i2:((p.L.length:Int)==0)=true:=by rw [beq_iff_eq];omega
    have i3:(p.L.length:Int)=0:=by omega
    have HE:=HR4.o
    rw [if_pos hz] at HE
    obtain⟨e1,e2⟩:=Prod.mk.inj HE
    have E1:=aD e1
    have E2:=aD e2
    clear HE e1 e2 hz
    go_wp2
    go_ret2
    exact⟨by rw [<- E1.o,<- E2.o];rfl,B2.o⟩
   ·have i2:((p.L.length:Int)==0)=false:=by rw [i7];omega
    have HE:=HR4.o
    rw [if_neg hz,HF.o,List.drop_eq_nil_of_le (by omega)] at HE
    simp only [fbI] at HE
    obtain⟨e1,e2⟩:=Prod.mk.inj HE
    have E1:=aD e1
    have E2:=aD e2
    clear HE e1 e2 hz
    go_wp2
    go_ret2
    exact⟨by rw [<- E1.o,<- E2.o];rfl,B2.o⟩
end
end Go.Proofs.YtliflleaeimngaaGreatDoor
