/-
  Parts of the proof.
-/
import Derived.Test.YtliflleaeimngaaLongestProofNA0
import Derived.Test.YtliflleaeimngaaLongestProofNB7
set_option linter.unusedSimpArgs false
set_option maxRecDepth 100000
set_option maxHeartbeats 8000000
namespace Go.Proofs.Ytliflleaeimngaa
open Go Go.RowKit
set_option linter.unusedSimpArgs false
set_option linter.unusedVariables false
attribute [local go_sem] Oper.semAt_some aQ aM
theorem aT{w:World}{f:Nat}{args:Array Value}{a b:Bool}(h:Calls Try.prog f args w fun e w'=>e=.returned (.bool a)/\wBl w w')(e:b=a):Calls Try.prog f args w fun e w'=>e=.returned (.bool b)/\wBl w w':=by rw [e];exact h
theorem lW{w:World}{p:Pg}(h:PgI w p){k:Nat}{i:Ins}(hi:p.L[k]?=some i)(hk:p.L.length<=40000)(ho:i.op=9)(hs0:i.s=0#256)(hx0:0<=i.x)(hy0:0<=i.y)(hxz:i.x=0)(hyz:i.y=0)(hn0:i.n<0):Calls Try.prog 31 #[.agg #[.slice p.q p.L.length p.c,.int .i64 p.g,.int .i64 p.k,.bool p.f],.int .i64 (k:Int)] w fun e w'=>e=.returned (.bool (false))/\wBl w w':=by
 have B1:Hid (wBl w (w.alloc (.cells #[.slice p.q p.L.length p.c,.int .i64 p.g,.int .i64 p.k,.bool p.f] 24))):=bz9
 have X1:Hid ((w.alloc (.cells #[.slice p.q p.L.length p.c,.int .i64 p.g,.int .i64 p.k,.bool p.f] 24)).heap[w.heap.size]?=some (.cells #[.slice p.q p.L.length p.c,.int .i64 p.g,.int .i64 p.k,.bool p.f] 24 (0,0))):=aE w _
 obtain⟨g1,o1,hq1,hl1,c0,c1,c2,c3,c4,c5,c6,c7,c8,c9⟩:=(h.li.kept B1.o).ten hi
 have hkl:=(f7.1 hi).1
 have k0:(0:Int)<=(k:Int):=by omega
 have k1:(k:Int)<(p.L.length:Int):=by omega
 have OF:=aD (aI i.op)
 have hu:usA i.op=[false,false,false,true,false,true]:=by rw [ho];rfl
 have hiso:isO i.op=true:=by rw [ho];rfl
 rw [hu,hiso] at OF
 have OF:Hid (∀ w,Calls Try.prog 42 #[.int .i64 i.op] w fun e w'=>e=.returned (.tuple #[.agg #[.bool false,.bool false,.bool false,.bool true,.bool false,.bool true],.bool true])/\wBl w w'):=OF
 have o9:(i.op==9)=true:=by rw [ho];rfl
 have o10:(i.op==10)=false:=by rw [ho];rfl
 have wl:IntKind.wrap .i64 ((p.L.length:Int)-1)=(p.L.length:Int)-1:=by rw [IntKind.wrap_i64];omega
 have exz:(i.x==0)=true:=by rw [beq_iff_eq];exact hxz
 have fxz:(i.x != 0)=false:=by simp [hxz]
 clear hxz
 have eyz:(i.y==0)=true:=by rw [beq_iff_eq];exact hyz
 have fyz:(i.y != 0)=false:=by simp [hyz]
 clear hyz
 have Hs0:=aD hs0
 clear hs0
 clear hu hiso ho
 have HQ:=aD hq1
 clear h hi hq1
 go_enter Try.func31,Try.ntmps31
 go_upto_region 1 with fail
 generalize (w.alloc (.cells #[.slice p.q p.L.length p.c,.int .i64 p.g,.int .i64 p.k,.bool p.f] 24))=w1 at B1 X1 c0 c1 c2 c3 c4 c5 c6 c7 c8 c9 ⊢
 have p0:w1.cell? ⟨w.heap.size,0,none⟩=some (.slice p.q p.L.length p.c):=aA X1.o (i:=0) rfl
 rw [HQ.o] at p0
 go_upto_region 2 with fail
 have BA:wBl w1 (w1.alloc (.cells #[.int .i64 i.op,.int .i64 i.x,.int .i64 i.y,.int .i64 i.n,.int .i64 i.mn,.int .i64 i.mx,.int .u64 (aB i.s 0),.int .u64 (aB i.s 1),.int .u64 (aB i.s 2),.int .u64 (aB i.s 3)] 47)):=bz9
 have X2:=aD ((BA.block _ (aC X1.o)).trans X1.o)
 have I2:Hid ((w1.alloc (.cells #[.int .i64 i.op,.int .i64 i.x,.int .i64 i.y,.int .i64 i.n,.int .i64 i.mn,.int .i64 i.mx,.int .u64 (aB i.s 0),.int .u64 (aB i.s 1),.int .u64 (aB i.s 2),.int .u64 (aB i.s 3)] 47)).heap[w1.heap.size]?=some (.cells #[.int .i64 i.op,.int .i64 i.x,.int .i64 i.y,.int .i64 i.n,.int .i64 i.mn,.int .i64 i.mx,.int .u64 (aB i.s 0),.int .u64 (aB i.s 1),.int .u64 (aB i.s 2),.int .u64 (aB i.s 3)] 47 (0,0))):=aE w1 _
 have B2:=aD (aF B1.o BA lz9)
 clear BA c0 c1 c2 c3 c4 c5 c6 c7 c8 c9 p0
 generalize (w1.alloc (.cells #[.int .i64 i.op,.int .i64 i.x,.int .i64 i.y,.int .i64 i.n,.int .i64 i.mn,.int .i64 i.mx,.int .u64 (aB i.s 0),.int .u64 (aB i.s 1),.int .u64 (aB i.s 2),.int .u64 (aB i.s 3)] 47))=w2 at X2 I2 B2 ⊢
 obtain⟨ib,hib⟩:∃ ib,w1.heap.size=ib:=⟨_,rfl⟩
 rw [hib] at I2 ⊢
 clear hib
 have d0:w2.cell? ⟨ib,0,none⟩=some (.int .i64 i.op):=aA I2.o (i:=0) rfl
 go_upto_region 3 with (go_at_call 42;(with_reducible refine(OF.o _).mono ?_);rintro e w3 ⟨rfl,h3⟩;have X3:=aD ((h3.block _ (aC X2.o)).trans X2.o);have I3:=aD ((h3.block _ (aC I2.o)).trans I2.o);have B3:=aD (aF B2.o h3 lz9);clear h3)
 have BA:wBl w3 (w3.alloc (.cells #[.bool false,.bool false,.bool false,.bool true,.bool false,.bool true] 84)):=bz9
 have X4:=aD ((BA.block _ (aC X3.o)).trans X3.o)
 have I4:=aD ((BA.block _ (aC I3.o)).trans I3.o)
 have U4:Hid ((w3.alloc (.cells #[.bool false,.bool false,.bool false,.bool true,.bool false,.bool true] 84)).heap[w3.heap.size]?=some (.cells #[.bool false,.bool false,.bool false,.bool true,.bool false,.bool true] 84 (0,0))):=aE w3 _
 have B4:=aD (aF B3.o BA lz9)
 clear BA X3 I3 B3 X2 I2 B2
 generalize (w3.alloc (.cells #[.bool false,.bool false,.bool false,.bool true,.bool false,.bool true] 84))=w4 at X4 I4 U4 B4 ⊢
 obtain⟨ub,hub⟩:∃ ub,w3.heap.size=ub:=⟨_,rfl⟩
 rw [hub] at U4 ⊢
 clear hub
 have p0:w4.cell? ⟨w.heap.size,0,none⟩=some (.slice p.q p.L.length p.c):=aA X4.o (i:=0) rfl
 have p1:w4.cell? ⟨w.heap.size,1,none⟩=some (.int .i64 p.g):=aA X4.o (i:=1) rfl
 have p2:w4.cell? ⟨w.heap.size,2,none⟩=some (.int .i64 p.k):=aA X4.o (i:=2) rfl
 have d0:w4.cell? ⟨ib,0,none⟩=some (.int .i64 i.op):=aA I4.o (i:=0) rfl
 have d1:w4.cell? ⟨ib,1,none⟩=some (.int .i64 i.x):=aA I4.o (i:=1) rfl
 have d2:w4.cell? ⟨ib,2,none⟩=some (.int .i64 i.y):=aA I4.o (i:=2) rfl
 have d3:w4.cell? ⟨ib,3,none⟩=some (.int .i64 i.n):=aA I4.o (i:=3) rfl
 have d4:w4.cell? ⟨ib,4,none⟩=some (.int .i64 i.mn):=aA I4.o (i:=4) rfl
 have d5:w4.cell? ⟨ib,5,none⟩=some (.int .i64 i.mx):=aA I4.o (i:=5) rfl
 have d6:w4.cell? ⟨ib,6,none⟩=some (.int .u64 (aB i.s 0)):=aA I4.o (i:=6) rfl
 have d7:w4.cell? ⟨ib,7,none⟩=some (.int .u64 (aB i.s 1)):=aA I4.o (i:=7) rfl
 have d8:w4.cell? ⟨ib,8,none⟩=some (.int .u64 (aB i.s 2)):=aA I4.o (i:=8) rfl
 have d9:w4.cell? ⟨ib,9,none⟩=some (.int .u64 (aB i.s 3)):=aA I4.o (i:=9) rfl
 have u0:w4.cell? ⟨ub,0,none⟩=some (.bool false):=aA U4.o (i:=0) rfl
 have u1:w4.cell? ⟨ub,1,none⟩=some (.bool false):=aA U4.o (i:=1) rfl
 have u2:w4.cell? ⟨ub,2,none⟩=some (.bool false):=aA U4.o (i:=2) rfl
 have u3:w4.cell? ⟨ub,3,none⟩=some (.bool true):=aA U4.o (i:=3) rfl
 have u4:w4.cell? ⟨ub,4,none⟩=some (.bool false):=aA U4.o (i:=4) rfl
 have u5:w4.cell? ⟨ub,5,none⟩=some (.bool true):=aA U4.o (i:=5) rfl
 have hs0:=Hs0.o
 go_wp2
 go_ret
 exact⟨rfl,B4.o⟩
theorem lV{w:World}{p:Pg}(h:PgI w p){k:Nat}{i:Ins}(hi:p.L[k]?=some i)(hk:p.L.length<=40000)(ho:i.op=9)(hs0:i.s=0#256)(hx0:0<=i.x)(hy0:0<=i.y)(hxz:i.x=0)(hyz:i.y=0)(hn0:¬ (i.n<0))(hn1:p.k<=i.n):Calls Try.prog 31 #[.agg #[.slice p.q p.L.length p.c,.int .i64 p.g,.int .i64 p.k,.bool p.f],.int .i64 (k:Int)] w fun e w'=>e=.returned (.bool (false))/\wBl w w':=by
 have B1:Hid (wBl w (w.alloc (.cells #[.slice p.q p.L.length p.c,.int .i64 p.g,.int .i64 p.k,.bool p.f] 24))):=bz9
 have X1:Hid ((w.alloc (.cells #[.slice p.q p.L.length p.c,.int .i64 p.g,.int .i64 p.k,.bool p.f] 24)).heap[w.heap.size]?=some (.cells #[.slice p.q p.L.length p.c,.int .i64 p.g,.int .i64 p.k,.bool p.f] 24 (0,0))):=aE w _
 obtain⟨g1,o1,hq1,hl1,c0,c1,c2,c3,c4,c5,c6,c7,c8,c9⟩:=(h.li.kept B1.o).ten hi
 have hkl:=(f7.1 hi).1
 have k0:(0:Int)<=(k:Int):=by omega
 have k1:(k:Int)<(p.L.length:Int):=by omega
 have OF:=aD (aI i.op)
 have hu:usA i.op=[false,false,false,true,false,true]:=by rw [ho];rfl
 have hiso:isO i.op=true:=by rw [ho];rfl
 rw [hu,hiso] at OF
 have OF:Hid (∀ w,Calls Try.prog 42 #[.int .i64 i.op] w fun e w'=>e=.returned (.tuple #[.agg #[.bool false,.bool false,.bool false,.bool true,.bool false,.bool true],.bool true])/\wBl w w'):=OF
 have o9:(i.op==9)=true:=by rw [ho];rfl
 have o10:(i.op==10)=false:=by rw [ho];rfl
 have wl:IntKind.wrap .i64 ((p.L.length:Int)-1)=(p.L.length:Int)-1:=by rw [IntKind.wrap_i64];omega
 have exz:(i.x==0)=true:=by rw [beq_iff_eq];exact hxz
 have fxz:(i.x != 0)=false:=by simp [hxz]
 clear hxz
 have eyz:(i.y==0)=true:=by rw [beq_iff_eq];exact hyz
 have fyz:(i.y != 0)=false:=by simp [hyz]
 clear hyz
 have Hs0:=aD hs0
 clear hs0
 clear hu hiso ho
 have HQ:=aD hq1
 clear h hi hq1
 go_enter Try.func31,Try.ntmps31
 go_upto_region 1 with fail
 generalize (w.alloc (.cells #[.slice p.q p.L.length p.c,.int .i64 p.g,.int .i64 p.k,.bool p.f] 24))=w1 at B1 X1 c0 c1 c2 c3 c4 c5 c6 c7 c8 c9 ⊢
 have p0:w1.cell? ⟨w.heap.size,0,none⟩=some (.slice p.q p.L.length p.c):=aA X1.o (i:=0) rfl
 rw [HQ.o] at p0
 go_upto_region 2 with fail
 have BA:wBl w1 (w1.alloc (.cells #[.int .i64 i.op,.int .i64 i.x,.int .i64 i.y,.int .i64 i.n,.int .i64 i.mn,.int .i64 i.mx,.int .u64 (aB i.s 0),.int .u64 (aB i.s 1),.int .u64 (aB i.s 2),.int .u64 (aB i.s 3)] 47)):=bz9
 have X2:=aD ((BA.block _ (aC X1.o)).trans X1.o)
 have I2:Hid ((w1.alloc (.cells #[.int .i64 i.op,.int .i64 i.x,.int .i64 i.y,.int .i64 i.n,.int .i64 i.mn,.int .i64 i.mx,.int .u64 (aB i.s 0),.int .u64 (aB i.s 1),.int .u64 (aB i.s 2),.int .u64 (aB i.s 3)] 47)).heap[w1.heap.size]?=some (.cells #[.int .i64 i.op,.int .i64 i.x,.int .i64 i.y,.int .i64 i.n,.int .i64 i.mn,.int .i64 i.mx,.int .u64 (aB i.s 0),.int .u64 (aB i.s 1),.int .u64 (aB i.s 2),.int .u64 (aB i.s 3)] 47 (0,0))):=aE w1 _
 have B2:=aD (aF B1.o BA lz9)
 clear BA c0 c1 c2 c3 c4 c5 c6 c7 c8 c9 p0
 generalize (w1.alloc (.cells #[.int .i64 i.op,.int .i64 i.x,.int .i64 i.y,.int .i64 i.n,.int .i64 i.mn,.int .i64 i.mx,.int .u64 (aB i.s 0),.int .u64 (aB i.s 1),.int .u64 (aB i.s 2),.int .u64 (aB i.s 3)] 47))=w2 at X2 I2 B2 ⊢
 obtain⟨ib,hib⟩:∃ ib,w1.heap.size=ib:=⟨_,rfl⟩
 rw [hib] at I2 ⊢
 clear hib
 have d0:w2.cell? ⟨ib,0,none⟩=some (.int .i64 i.op):=aA I2.o (i:=0) rfl
 go_upto_region 3 with (go_at_call 42;(with_reducible refine(OF.o _).mono ?_);rintro e w3 ⟨rfl,h3⟩;have X3:=aD ((h3.block _ (aC X2.o)).trans X2.o);have I3:=aD ((h3.block _ (aC I2.o)).trans I2.o);have B3:=aD (aF B2.o h3 lz9);clear h3)
 have BA:wBl w3 (w3.alloc (.cells #[.bool false,.bool false,.bool false,.bool true,.bool false,.bool true] 84)):=bz9
 have X4:=aD ((BA.block _ (aC X3.o)).trans X3.o)
 have I4:=aD ((BA.block _ (aC I3.o)).trans I3.o)
 have U4:Hid ((w3.alloc (.cells #[.bool false,.bool false,.bool false,.bool true,.bool false,.bool true] 84)).heap[w3.heap.size]?=some (.cells #[.bool false,.bool false,.bool false,.bool true,.bool false,.bool true] 84 (0,0))):=aE w3 _
 have B4:=aD (aF B3.o BA lz9)
 clear BA X3 I3 B3 X2 I2 B2
 generalize (w3.alloc (.cells #[.bool false,.bool false,.bool false,.bool true,.bool false,.bool true] 84))=w4 at X4 I4 U4 B4 ⊢
 obtain⟨ub,hub⟩:∃ ub,w3.heap.size=ub:=⟨_,rfl⟩
 rw [hub] at U4 ⊢
 clear hub
 have p0:w4.cell? ⟨w.heap.size,0,none⟩=some (.slice p.q p.L.length p.c):=aA X4.o (i:=0) rfl
 have p1:w4.cell? ⟨w.heap.size,1,none⟩=some (.int .i64 p.g):=aA X4.o (i:=1) rfl
 have p2:w4.cell? ⟨w.heap.size,2,none⟩=some (.int .i64 p.k):=aA X4.o (i:=2) rfl
 have d0:w4.cell? ⟨ib,0,none⟩=some (.int .i64 i.op):=aA I4.o (i:=0) rfl
 have d1:w4.cell? ⟨ib,1,none⟩=some (.int .i64 i.x):=aA I4.o (i:=1) rfl
 have d2:w4.cell? ⟨ib,2,none⟩=some (.int .i64 i.y):=aA I4.o (i:=2) rfl
 have d3:w4.cell? ⟨ib,3,none⟩=some (.int .i64 i.n):=aA I4.o (i:=3) rfl
 have d4:w4.cell? ⟨ib,4,none⟩=some (.int .i64 i.mn):=aA I4.o (i:=4) rfl
 have d5:w4.cell? ⟨ib,5,none⟩=some (.int .i64 i.mx):=aA I4.o (i:=5) rfl
 have d6:w4.cell? ⟨ib,6,none⟩=some (.int .u64 (aB i.s 0)):=aA I4.o (i:=6) rfl
 have d7:w4.cell? ⟨ib,7,none⟩=some (.int .u64 (aB i.s 1)):=aA I4.o (i:=7) rfl
 have d8:w4.cell? ⟨ib,8,none⟩=some (.int .u64 (aB i.s 2)):=aA I4.o (i:=8) rfl
 have d9:w4.cell? ⟨ib,9,none⟩=some (.int .u64 (aB i.s 3)):=aA I4.o (i:=9) rfl
 have u0:w4.cell? ⟨ub,0,none⟩=some (.bool false):=aA U4.o (i:=0) rfl
 have u1:w4.cell? ⟨ub,1,none⟩=some (.bool false):=aA U4.o (i:=1) rfl
 have u2:w4.cell? ⟨ub,2,none⟩=some (.bool false):=aA U4.o (i:=2) rfl
 have u3:w4.cell? ⟨ub,3,none⟩=some (.bool true):=aA U4.o (i:=3) rfl
 have u4:w4.cell? ⟨ub,4,none⟩=some (.bool false):=aA U4.o (i:=4) rfl
 have u5:w4.cell? ⟨ub,5,none⟩=some (.bool true):=aA U4.o (i:=5) rfl
 have hs0:=Hs0.o
 go_wp2
 go_ret
 exact⟨rfl,B4.o⟩
theorem lU{w:World}{p:Pg}(h:PgI w p){k:Nat}{i:Ins}(hi:p.L[k]?=some i)(hk:p.L.length<=40000)(ho:i.op=9)(hs0:i.s=0#256)(hx0:0<=i.x)(hy0:0<=i.y)(hxz:i.x=0)(hyz:i.y=0)(hn0:¬ (i.n<0))(hn1:¬ (p.k<=i.n))(hmnz:i.mn=0)(hmxz:i.mx=0):Calls Try.prog 31 #[.agg #[.slice p.q p.L.length p.c,.int .i64 p.g,.int .i64 p.k,.bool p.f],.int .i64 (k:Int)] w fun e w'=>e=.returned (.bool (decide ((k:Int)<(p.L.length:Int)-1)))/\wBl w w':=by
 have B1:Hid (wBl w (w.alloc (.cells #[.slice p.q p.L.length p.c,.int .i64 p.g,.int .i64 p.k,.bool p.f] 24))):=bz9
 have X1:Hid ((w.alloc (.cells #[.slice p.q p.L.length p.c,.int .i64 p.g,.int .i64 p.k,.bool p.f] 24)).heap[w.heap.size]?=some (.cells #[.slice p.q p.L.length p.c,.int .i64 p.g,.int .i64 p.k,.bool p.f] 24 (0,0))):=aE w _
 obtain⟨g1,o1,hq1,hl1,c0,c1,c2,c3,c4,c5,c6,c7,c8,c9⟩:=(h.li.kept B1.o).ten hi
 have hkl:=(f7.1 hi).1
 have k0:(0:Int)<=(k:Int):=by omega
 have k1:(k:Int)<(p.L.length:Int):=by omega
 have OF:=aD (aI i.op)
 have hu:usA i.op=[false,false,false,true,false,true]:=by rw [ho];rfl
 have hiso:isO i.op=true:=by rw [ho];rfl
 rw [hu,hiso] at OF
 have OF:Hid (∀ w,Calls Try.prog 42 #[.int .i64 i.op] w fun e w'=>e=.returned (.tuple #[.agg #[.bool false,.bool false,.bool false,.bool true,.bool false,.bool true],.bool true])/\wBl w w'):=OF
 have o9:(i.op==9)=true:=by rw [ho];rfl
 have o10:(i.op==10)=false:=by rw [ho];rfl
 have wl:IntKind.wrap .i64 ((p.L.length:Int)-1)=(p.L.length:Int)-1:=by rw [IntKind.wrap_i64];omega
 have exz:(i.x==0)=true:=by rw [beq_iff_eq];exact hxz
 have fxz:(i.x != 0)=false:=by simp [hxz]
 clear hxz
 have eyz:(i.y==0)=true:=by rw [beq_iff_eq];exact hyz
 have fyz:(i.y != 0)=false:=by simp [hyz]
 clear hyz
 have emnz:(i.mn==0)=true:=by rw [beq_iff_eq];exact hmnz
 have fmnz:(i.mn != 0)=false:=by simp [hmnz]
 clear hmnz
 have emxz:(i.mx==0)=true:=by rw [beq_iff_eq];exact hmxz
 have fmxz:(i.mx != 0)=false:=by simp [hmxz]
 clear hmxz
 have Hs0:=aD hs0
 clear hs0
 clear hu hiso ho
 have HQ:=aD hq1
 clear h hi hq1
 go_enter Try.func31,Try.ntmps31
 go_upto_region 1 with fail
 generalize (w.alloc (.cells #[.slice p.q p.L.length p.c,.int .i64 p.g,.int .i64 p.k,.bool p.f] 24))=w1 at B1 X1 c0 c1 c2 c3 c4 c5 c6 c7 c8 c9 ⊢
 have p0:w1.cell? ⟨w.heap.size,0,none⟩=some (.slice p.q p.L.length p.c):=aA X1.o (i:=0) rfl
 rw [HQ.o] at p0
 go_upto_region 2 with fail
 have BA:wBl w1 (w1.alloc (.cells #[.int .i64 i.op,.int .i64 i.x,.int .i64 i.y,.int .i64 i.n,.int .i64 i.mn,.int .i64 i.mx,.int .u64 (aB i.s 0),.int .u64 (aB i.s 1),.int .u64 (aB i.s 2),.int .u64 (aB i.s 3)] 47)):=bz9
 have X2:=aD ((BA.block _ (aC X1.o)).trans X1.o)
 have I2:Hid ((w1.alloc (.cells #[.int .i64 i.op,.int .i64 i.x,.int .i64 i.y,.int .i64 i.n,.int .i64 i.mn,.int .i64 i.mx,.int .u64 (aB i.s 0),.int .u64 (aB i.s 1),.int .u64 (aB i.s 2),.int .u64 (aB i.s 3)] 47)).heap[w1.heap.size]?=some (.cells #[.int .i64 i.op,.int .i64 i.x,.int .i64 i.y,.int .i64 i.n,.int .i64 i.mn,.int .i64 i.mx,.int .u64 (aB i.s 0),.int .u64 (aB i.s 1),.int .u64 (aB i.s 2),.int .u64 (aB i.s 3)] 47 (0,0))):=aE w1 _
 have B2:=aD (aF B1.o BA lz9)
 clear BA c0 c1 c2 c3 c4 c5 c6 c7 c8 c9 p0
 generalize (w1.alloc (.cells #[.int .i64 i.op,.int .i64 i.x,.int .i64 i.y,.int .i64 i.n,.int .i64 i.mn,.int .i64 i.mx,.int .u64 (aB i.s 0),.int .u64 (aB i.s 1),.int .u64 (aB i.s 2),.int .u64 (aB i.s 3)] 47))=w2 at X2 I2 B2 ⊢
 obtain⟨ib,hib⟩:∃ ib,w1.heap.size=ib:=⟨_,rfl⟩
 rw [hib] at I2 ⊢
 clear hib
 have d0:w2.cell? ⟨ib,0,none⟩=some (.int .i64 i.op):=aA I2.o (i:=0) rfl
 go_upto_region 3 with (go_at_call 42;(with_reducible refine(OF.o _).mono ?_);rintro e w3 ⟨rfl,h3⟩;have X3:=aD ((h3.block _ (aC X2.o)).trans X2.o);have I3:=aD ((h3.block _ (aC I2.o)).trans I2.o);have B3:=aD (aF B2.o h3 lz9);clear h3)
 have BA:wBl w3 (w3.alloc (.cells #[.bool false,.bool false,.bool false,.bool true,.bool false,.bool true] 84)):=bz9
 have X4:=aD ((BA.block _ (aC X3.o)).trans X3.o)
 have I4:=aD ((BA.block _ (aC I3.o)).trans I3.o)
 have U4:Hid ((w3.alloc (.cells #[.bool false,.bool false,.bool false,.bool true,.bool false,.bool true] 84)).heap[w3.heap.size]?=some (.cells #[.bool false,.bool false,.bool false,.bool true,.bool false,.bool true] 84 (0,0))):=aE w3 _
 have B4:=aD (aF B3.o BA lz9)
 clear BA X3 I3 B3 X2 I2 B2
 generalize (w3.alloc (.cells #[.bool false,.bool false,.bool false,.bool true,.bool false,.bool true] 84))=w4 at X4 I4 U4 B4 ⊢
 obtain⟨ub,hub⟩:∃ ub,w3.heap.size=ub:=⟨_,rfl⟩
 rw [hub] at U4 ⊢
 clear hub
 have p0:w4.cell? ⟨w.heap.size,0,none⟩=some (.slice p.q p.L.length p.c):=aA X4.o (i:=0) rfl
 have p1:w4.cell? ⟨w.heap.size,1,none⟩=some (.int .i64 p.g):=aA X4.o (i:=1) rfl
 have p2:w4.cell? ⟨w.heap.size,2,none⟩=some (.int .i64 p.k):=aA X4.o (i:=2) rfl
 have d0:w4.cell? ⟨ib,0,none⟩=some (.int .i64 i.op):=aA I4.o (i:=0) rfl
 have d1:w4.cell? ⟨ib,1,none⟩=some (.int .i64 i.x):=aA I4.o (i:=1) rfl
 have d2:w4.cell? ⟨ib,2,none⟩=some (.int .i64 i.y):=aA I4.o (i:=2) rfl
 have d3:w4.cell? ⟨ib,3,none⟩=some (.int .i64 i.n):=aA I4.o (i:=3) rfl
 have d4:w4.cell? ⟨ib,4,none⟩=some (.int .i64 i.mn):=aA I4.o (i:=4) rfl
 have d5:w4.cell? ⟨ib,5,none⟩=some (.int .i64 i.mx):=aA I4.o (i:=5) rfl
 have d6:w4.cell? ⟨ib,6,none⟩=some (.int .u64 (aB i.s 0)):=aA I4.o (i:=6) rfl
 have d7:w4.cell? ⟨ib,7,none⟩=some (.int .u64 (aB i.s 1)):=aA I4.o (i:=7) rfl
 have d8:w4.cell? ⟨ib,8,none⟩=some (.int .u64 (aB i.s 2)):=aA I4.o (i:=8) rfl
 have d9:w4.cell? ⟨ib,9,none⟩=some (.int .u64 (aB i.s 3)):=aA I4.o (i:=9) rfl
 have u0:w4.cell? ⟨ub,0,none⟩=some (.bool false):=aA U4.o (i:=0) rfl
 have u1:w4.cell? ⟨ub,1,none⟩=some (.bool false):=aA U4.o (i:=1) rfl
 have u2:w4.cell? ⟨ub,2,none⟩=some (.bool false):=aA U4.o (i:=2) rfl
 have u3:w4.cell? ⟨ub,3,none⟩=some (.bool true):=aA U4.o (i:=3) rfl
 have u4:w4.cell? ⟨ub,4,none⟩=some (.bool false):=aA U4.o (i:=4) rfl
 have u5:w4.cell? ⟨ub,5,none⟩=some (.bool true):=aA U4.o (i:=5) rfl
 have hs0:=Hs0.o
 go_wp2
 go_ret
 exact⟨rfl,B4.o⟩
theorem lT{w:World}{p:Pg}(h:PgI w p){k:Nat}{i:Ins}(hi:p.L[k]?=some i)(hk:p.L.length<=40000)(ho:i.op=9)(hs0:i.s=0#256)(hx0:0<=i.x)(hy0:0<=i.y)(hxz:i.x=0)(hyz:i.y=0)(hn0:¬ (i.n<0))(hn1:¬ (p.k<=i.n))(hmnz:i.mn=0)(hmxz:¬ (i.mx=0)):Calls Try.prog 31 #[.agg #[.slice p.q p.L.length p.c,.int .i64 p.g,.int .i64 p.k,.bool p.f],.int .i64 (k:Int)] w fun e w'=>e=.returned (.bool (false))/\wBl w w':=by
 have B1:Hid (wBl w (w.alloc (.cells #[.slice p.q p.L.length p.c,.int .i64 p.g,.int .i64 p.k,.bool p.f] 24))):=bz9
 have X1:Hid ((w.alloc (.cells #[.slice p.q p.L.length p.c,.int .i64 p.g,.int .i64 p.k,.bool p.f] 24)).heap[w.heap.size]?=some (.cells #[.slice p.q p.L.length p.c,.int .i64 p.g,.int .i64 p.k,.bool p.f] 24 (0,0))):=aE w _
 obtain⟨g1,o1,hq1,hl1,c0,c1,c2,c3,c4,c5,c6,c7,c8,c9⟩:=(h.li.kept B1.o).ten hi
 have hkl:=(f7.1 hi).1
 have k0:(0:Int)<=(k:Int):=by omega
 have k1:(k:Int)<(p.L.length:Int):=by omega
 have OF:=aD (aI i.op)
 have hu:usA i.op=[false,false,false,true,false,true]:=by rw [ho];rfl
 have hiso:isO i.op=true:=by rw [ho];rfl
 rw [hu,hiso] at OF
 have OF:Hid (∀ w,Calls Try.prog 42 #[.int .i64 i.op] w fun e w'=>e=.returned (.tuple #[.agg #[.bool false,.bool false,.bool false,.bool true,.bool false,.bool true],.bool true])/\wBl w w'):=OF
 have o9:(i.op==9)=true:=by rw [ho];rfl
 have o10:(i.op==10)=false:=by rw [ho];rfl
 have wl:IntKind.wrap .i64 ((p.L.length:Int)-1)=(p.L.length:Int)-1:=by rw [IntKind.wrap_i64];omega
 have exz:(i.x==0)=true:=by rw [beq_iff_eq];exact hxz
 have fxz:(i.x != 0)=false:=by simp [hxz]
 clear hxz
 have eyz:(i.y==0)=true:=by rw [beq_iff_eq];exact hyz
 have fyz:(i.y != 0)=false:=by simp [hyz]
 clear hyz
 have emnz:(i.mn==0)=true:=by rw [beq_iff_eq];exact hmnz
 have fmnz:(i.mn != 0)=false:=by simp [hmnz]
 clear hmnz
 have emxz:(i.mx==0)=false:=by rw [f8];exact hmxz
 have fmxz:(i.mx != 0)=true:=by simp [hmxz]
 clear hmxz
 have Hs0:=aD hs0
 clear hs0
 clear hu hiso ho
 have HQ:=aD hq1
 clear h hi hq1
 go_enter Try.func31,Try.ntmps31
 go_upto_region 1 with fail
 generalize (w.alloc (.cells #[.slice p.q p.L.length p.c,.int .i64 p.g,.int .i64 p.k,.bool p.f] 24))=w1 at B1 X1 c0 c1 c2 c3 c4 c5 c6 c7 c8 c9 ⊢
 have p0:w1.cell? ⟨w.heap.size,0,none⟩=some (.slice p.q p.L.length p.c):=aA X1.o (i:=0) rfl
 rw [HQ.o] at p0
 go_upto_region 2 with fail
 have BA:wBl w1 (w1.alloc (.cells #[.int .i64 i.op,.int .i64 i.x,.int .i64 i.y,.int .i64 i.n,.int .i64 i.mn,.int .i64 i.mx,.int .u64 (aB i.s 0),.int .u64 (aB i.s 1),.int .u64 (aB i.s 2),.int .u64 (aB i.s 3)] 47)):=bz9
 have X2:=aD ((BA.block _ (aC X1.o)).trans X1.o)
 have I2:Hid ((w1.alloc (.cells #[.int .i64 i.op,.int .i64 i.x,.int .i64 i.y,.int .i64 i.n,.int .i64 i.mn,.int .i64 i.mx,.int .u64 (aB i.s 0),.int .u64 (aB i.s 1),.int .u64 (aB i.s 2),.int .u64 (aB i.s 3)] 47)).heap[w1.heap.size]?=some (.cells #[.int .i64 i.op,.int .i64 i.x,.int .i64 i.y,.int .i64 i.n,.int .i64 i.mn,.int .i64 i.mx,.int .u64 (aB i.s 0),.int .u64 (aB i.s 1),.int .u64 (aB i.s 2),.int .u64 (aB i.s 3)] 47 (0,0))):=aE w1 _
 have B2:=aD (aF B1.o BA lz9)
 clear BA c0 c1 c2 c3 c4 c5 c6 c7 c8 c9 p0
 generalize (w1.alloc (.cells #[.int .i64 i.op,.int .i64 i.x,.int .i64 i.y,.int .i64 i.n,.int .i64 i.mn,.int .i64 i.mx,.int .u64 (aB i.s 0),.int .u64 (aB i.s 1),.int .u64 (aB i.s 2),.int .u64 (aB i.s 3)] 47))=w2 at X2 I2 B2 ⊢
 obtain⟨ib,hib⟩:∃ ib,w1.heap.size=ib:=⟨_,rfl⟩
 rw [hib] at I2 ⊢
 clear hib
 have d0:w2.cell? ⟨ib,0,none⟩=some (.int .i64 i.op):=aA I2.o (i:=0) rfl
 go_upto_region 3 with (go_at_call 42;(with_reducible refine(OF.o _).mono ?_);rintro e w3 ⟨rfl,h3⟩;have X3:=aD ((h3.block _ (aC X2.o)).trans X2.o);have I3:=aD ((h3.block _ (aC I2.o)).trans I2.o);have B3:=aD (aF B2.o h3 lz9);clear h3)
 have BA:wBl w3 (w3.alloc (.cells #[.bool false,.bool false,.bool false,.bool true,.bool false,.bool true] 84)):=bz9
 have X4:=aD ((BA.block _ (aC X3.o)).trans X3.o)
 have I4:=aD ((BA.block _ (aC I3.o)).trans I3.o)
 have U4:Hid ((w3.alloc (.cells #[.bool false,.bool false,.bool false,.bool true,.bool false,.bool true] 84)).heap[w3.heap.size]?=some (.cells #[.bool false,.bool false,.bool false,.bool true,.bool false,.bool true] 84 (0,0))):=aE w3 _
 have B4:=aD (aF B3.o BA lz9)
 clear BA X3 I3 B3 X2 I2 B2
 generalize (w3.alloc (.cells #[.bool false,.bool false,.bool false,.bool true,.bool false,.bool true] 84))=w4 at X4 I4 U4 B4 ⊢
 obtain⟨ub,hub⟩:∃ ub,w3.heap.size=ub:=⟨_,rfl⟩
 rw [hub] at U4 ⊢
 clear hub
 have p0:w4.cell? ⟨w.heap.size,0,none⟩=some (.slice p.q p.L.length p.c):=aA X4.o (i:=0) rfl
 have p1:w4.cell? ⟨w.heap.size,1,none⟩=some (.int .i64 p.g):=aA X4.o (i:=1) rfl
 have p2:w4.cell? ⟨w.heap.size,2,none⟩=some (.int .i64 p.k):=aA X4.o (i:=2) rfl
 have d0:w4.cell? ⟨ib,0,none⟩=some (.int .i64 i.op):=aA I4.o (i:=0) rfl
 have d1:w4.cell? ⟨ib,1,none⟩=some (.int .i64 i.x):=aA I4.o (i:=1) rfl
 have d2:w4.cell? ⟨ib,2,none⟩=some (.int .i64 i.y):=aA I4.o (i:=2) rfl
 have d3:w4.cell? ⟨ib,3,none⟩=some (.int .i64 i.n):=aA I4.o (i:=3) rfl
 have d4:w4.cell? ⟨ib,4,none⟩=some (.int .i64 i.mn):=aA I4.o (i:=4) rfl
 have d5:w4.cell? ⟨ib,5,none⟩=some (.int .i64 i.mx):=aA I4.o (i:=5) rfl
 have d6:w4.cell? ⟨ib,6,none⟩=some (.int .u64 (aB i.s 0)):=aA I4.o (i:=6) rfl
 have d7:w4.cell? ⟨ib,7,none⟩=some (.int .u64 (aB i.s 1)):=aA I4.o (i:=7) rfl
 have d8:w4.cell? ⟨ib,8,none⟩=some (.int .u64 (aB i.s 2)):=aA I4.o (i:=8) rfl
 have d9:w4.cell? ⟨ib,9,none⟩=some (.int .u64 (aB i.s 3)):=aA I4.o (i:=9) rfl
 have u0:w4.cell? ⟨ub,0,none⟩=some (.bool false):=aA U4.o (i:=0) rfl
 have u1:w4.cell? ⟨ub,1,none⟩=some (.bool false):=aA U4.o (i:=1) rfl
 have u2:w4.cell? ⟨ub,2,none⟩=some (.bool false):=aA U4.o (i:=2) rfl
 have u3:w4.cell? ⟨ub,3,none⟩=some (.bool true):=aA U4.o (i:=3) rfl
 have u4:w4.cell? ⟨ub,4,none⟩=some (.bool false):=aA U4.o (i:=4) rfl
 have u5:w4.cell? ⟨ub,5,none⟩=some (.bool true):=aA U4.o (i:=5) rfl
 have hs0:=Hs0.o
 go_wp2
 go_ret
 exact⟨rfl,B4.o⟩
theorem lS{w:World}{p:Pg}(h:PgI w p){k:Nat}{i:Ins}(hi:p.L[k]?=some i)(hk:p.L.length<=40000)(ho:i.op=9)(hs0:i.s=0#256)(hx0:0<=i.x)(hy0:0<=i.y)(hxz:i.x=0)(hyz:i.y=0)(hn0:¬ (i.n<0))(hn1:¬ (p.k<=i.n))(hmnz:¬ (i.mn=0)):Calls Try.prog 31 #[.agg #[.slice p.q p.L.length p.c,.int .i64 p.g,.int .i64 p.k,.bool p.f],.int .i64 (k:Int)] w fun e w'=>e=.returned (.bool (false))/\wBl w w':=by
 have B1:Hid (wBl w (w.alloc (.cells #[.slice p.q p.L.length p.c,.int .i64 p.g,.int .i64 p.k,.bool p.f] 24))):=bz9
 have X1:Hid ((w.alloc (.cells #[.slice p.q p.L.length p.c,.int .i64 p.g,.int .i64 p.k,.bool p.f] 24)).heap[w.heap.size]?=some (.cells #[.slice p.q p.L.length p.c,.int .i64 p.g,.int .i64 p.k,.bool p.f] 24 (0,0))):=aE w _
 obtain⟨g1,o1,hq1,hl1,c0,c1,c2,c3,c4,c5,c6,c7,c8,c9⟩:=(h.li.kept B1.o).ten hi
 have hkl:=(f7.1 hi).1
 have k0:(0:Int)<=(k:Int):=by omega
 have k1:(k:Int)<(p.L.length:Int):=by omega
 have OF:=aD (aI i.op)
 have hu:usA i.op=[false,false,false,true,false,true]:=by rw [ho];rfl
 have hiso:isO i.op=true:=by rw [ho];rfl
 rw [hu,hiso] at OF
 have OF:Hid (∀ w,Calls Try.prog 42 #[.int .i64 i.op] w fun e w'=>e=.returned (.tuple #[.agg #[.bool false,.bool false,.bool false,.bool true,.bool false,.bool true],.bool true])/\wBl w w'):=OF
 have o9:(i.op==9)=true:=by rw [ho];rfl
 have o10:(i.op==10)=false:=by rw [ho];rfl
 have wl:IntKind.wrap .i64 ((p.L.length:Int)-1)=(p.L.length:Int)-1:=by rw [IntKind.wrap_i64];omega
 have exz:(i.x==0)=true:=by rw [beq_iff_eq];exact hxz
 have fxz:(i.x != 0)=false:=by simp [hxz]
 clear hxz
 have eyz:(i.y==0)=true:=by rw [beq_iff_eq];exact hyz
 have fyz:(i.y != 0)=false:=by simp [hyz]
 clear hyz
 have emnz:(i.mn==0)=false:=by rw [f8];exact hmnz
 have fmnz:(i.mn != 0)=true:=by simp [hmnz]
 clear hmnz
 have Hs0:=aD hs0
 clear hs0
 clear hu hiso ho
 have HQ:=aD hq1
 clear h hi hq1
 go_enter Try.func31,Try.ntmps31
 go_upto_region 1 with fail
 generalize (w.alloc (.cells #[.slice p.q p.L.length p.c,.int .i64 p.g,.int .i64 p.k,.bool p.f] 24))=w1 at B1 X1 c0 c1 c2 c3 c4 c5 c6 c7 c8 c9 ⊢
 have p0:w1.cell? ⟨w.heap.size,0,none⟩=some (.slice p.q p.L.length p.c):=aA X1.o (i:=0) rfl
 rw [HQ.o] at p0
 go_upto_region 2 with fail
 have BA:wBl w1 (w1.alloc (.cells #[.int .i64 i.op,.int .i64 i.x,.int .i64 i.y,.int .i64 i.n,.int .i64 i.mn,.int .i64 i.mx,.int .u64 (aB i.s 0),.int .u64 (aB i.s 1),.int .u64 (aB i.s 2),.int .u64 (aB i.s 3)] 47)):=bz9
 have X2:=aD ((BA.block _ (aC X1.o)).trans X1.o)
 have I2:Hid ((w1.alloc (.cells #[.int .i64 i.op,.int .i64 i.x,.int .i64 i.y,.int .i64 i.n,.int .i64 i.mn,.int .i64 i.mx,.int .u64 (aB i.s 0),.int .u64 (aB i.s 1),.int .u64 (aB i.s 2),.int .u64 (aB i.s 3)] 47)).heap[w1.heap.size]?=some (.cells #[.int .i64 i.op,.int .i64 i.x,.int .i64 i.y,.int .i64 i.n,.int .i64 i.mn,.int .i64 i.mx,.int .u64 (aB i.s 0),.int .u64 (aB i.s 1),.int .u64 (aB i.s 2),.int .u64 (aB i.s 3)] 47 (0,0))):=aE w1 _
 have B2:=aD (aF B1.o BA lz9)
 clear BA c0 c1 c2 c3 c4 c5 c6 c7 c8 c9 p0
 generalize (w1.alloc (.cells #[.int .i64 i.op,.int .i64 i.x,.int .i64 i.y,.int .i64 i.n,.int .i64 i.mn,.int .i64 i.mx,.int .u64 (aB i.s 0),.int .u64 (aB i.s 1),.int .u64 (aB i.s 2),.int .u64 (aB i.s 3)] 47))=w2 at X2 I2 B2 ⊢
 obtain⟨ib,hib⟩:∃ ib,w1.heap.size=ib:=⟨_,rfl⟩
 rw [hib] at I2 ⊢
 clear hib
 have d0:w2.cell? ⟨ib,0,none⟩=some (.int .i64 i.op):=aA I2.o (i:=0) rfl
 go_upto_region 3 with (go_at_call 42;(with_reducible refine(OF.o _).mono ?_);rintro e w3 ⟨rfl,h3⟩;have X3:=aD ((h3.block _ (aC X2.o)).trans X2.o);have I3:=aD ((h3.block _ (aC I2.o)).trans I2.o);have B3:=aD (aF B2.o h3 lz9);clear h3)
 have BA:wBl w3 (w3.alloc (.cells #[.bool false,.bool false,.bool false,.bool true,.bool false,.bool true] 84)):=bz9
 have X4:=aD ((BA.block _ (aC X3.o)).trans X3.o)
 have I4:=aD ((BA.block _ (aC I3.o)).trans I3.o)
 have U4:Hid ((w3.alloc (.cells #[.bool false,.bool false,.bool false,.bool true,.bool false,.bool true] 84)).heap[w3.heap.size]?=some (.cells #[.bool false,.bool false,.bool false,.bool true,.bool false,.bool true] 84 (0,0))):=aE w3 _
 have B4:=aD (aF B3.o BA lz9)
 clear BA X3 I3 B3 X2 I2 B2
 generalize (w3.alloc (.cells #[.bool false,.bool false,.bool false,.bool true,.bool false,.bool true] 84))=w4 at X4 I4 U4 B4 ⊢
 obtain⟨ub,hub⟩:∃ ub,w3.heap.size=ub:=⟨_,rfl⟩
 rw [hub] at U4 ⊢
 clear hub
 have p0:w4.cell? ⟨w.heap.size,0,none⟩=some (.slice p.q p.L.length p.c):=aA X4.o (i:=0) rfl
 have p1:w4.cell? ⟨w.heap.size,1,none⟩=some (.int .i64 p.g):=aA X4.o (i:=1) rfl
 have p2:w4.cell? ⟨w.heap.size,2,none⟩=some (.int .i64 p.k):=aA X4.o (i:=2) rfl
 have d0:w4.cell? ⟨ib,0,none⟩=some (.int .i64 i.op):=aA I4.o (i:=0) rfl
 have d1:w4.cell? ⟨ib,1,none⟩=some (.int .i64 i.x):=aA I4.o (i:=1) rfl
 have d2:w4.cell? ⟨ib,2,none⟩=some (.int .i64 i.y):=aA I4.o (i:=2) rfl
 have d3:w4.cell? ⟨ib,3,none⟩=some (.int .i64 i.n):=aA I4.o (i:=3) rfl
 have d4:w4.cell? ⟨ib,4,none⟩=some (.int .i64 i.mn):=aA I4.o (i:=4) rfl
 have d5:w4.cell? ⟨ib,5,none⟩=some (.int .i64 i.mx):=aA I4.o (i:=5) rfl
 have d6:w4.cell? ⟨ib,6,none⟩=some (.int .u64 (aB i.s 0)):=aA I4.o (i:=6) rfl
 have d7:w4.cell? ⟨ib,7,none⟩=some (.int .u64 (aB i.s 1)):=aA I4.o (i:=7) rfl
 have d8:w4.cell? ⟨ib,8,none⟩=some (.int .u64 (aB i.s 2)):=aA I4.o (i:=8) rfl
 have d9:w4.cell? ⟨ib,9,none⟩=some (.int .u64 (aB i.s 3)):=aA I4.o (i:=9) rfl
 have u0:w4.cell? ⟨ub,0,none⟩=some (.bool false):=aA U4.o (i:=0) rfl
 have u1:w4.cell? ⟨ub,1,none⟩=some (.bool false):=aA U4.o (i:=1) rfl
 have u2:w4.cell? ⟨ub,2,none⟩=some (.bool false):=aA U4.o (i:=2) rfl
 have u3:w4.cell? ⟨ub,3,none⟩=some (.bool true):=aA U4.o (i:=3) rfl
 have u4:w4.cell? ⟨ub,4,none⟩=some (.bool false):=aA U4.o (i:=4) rfl
 have u5:w4.cell? ⟨ub,5,none⟩=some (.bool true):=aA U4.o (i:=5) rfl
 have hs0:=Hs0.o
 go_wp2
 go_ret
 exact⟨rfl,B4.o⟩
theorem lR{w:World}{p:Pg}(h:PgI w p){k:Nat}{i:Ins}(hi:p.L[k]?=some i)(hk:p.L.length<=40000)(ho:i.op=9)(hs0:i.s=0#256)(hx0:0<=i.x)(hy0:0<=i.y)(hxz:i.x=0)(hyz:¬ (i.y=0)):Calls Try.prog 31 #[.agg #[.slice p.q p.L.length p.c,.int .i64 p.g,.int .i64 p.k,.bool p.f],.int .i64 (k:Int)] w fun e w'=>e=.returned (.bool (false))/\wBl w w':=by
 have B1:Hid (wBl w (w.alloc (.cells #[.slice p.q p.L.length p.c,.int .i64 p.g,.int .i64 p.k,.bool p.f] 24))):=bz9
 have X1:Hid ((w.alloc (.cells #[.slice p.q p.L.length p.c,.int .i64 p.g,.int .i64 p.k,.bool p.f] 24)).heap[w.heap.size]?=some (.cells #[.slice p.q p.L.length p.c,.int .i64 p.g,.int .i64 p.k,.bool p.f] 24 (0,0))):=aE w _
 obtain⟨g1,o1,hq1,hl1,c0,c1,c2,c3,c4,c5,c6,c7,c8,c9⟩:=(h.li.kept B1.o).ten hi
 have hkl:=(f7.1 hi).1
 have k0:(0:Int)<=(k:Int):=by omega
 have k1:(k:Int)<(p.L.length:Int):=by omega
 have OF:=aD (aI i.op)
 have hu:usA i.op=[false,false,false,true,false,true]:=by rw [ho];rfl
 have hiso:isO i.op=true:=by rw [ho];rfl
 rw [hu,hiso] at OF
 have OF:Hid (∀ w,Calls Try.prog 42 #[.int .i64 i.op] w fun e w'=>e=.returned (.tuple #[.agg #[.bool false,.bool false,.bool false,.bool true,.bool false,.bool true],.bool true])/\wBl w w'):=OF
 have o9:(i.op==9)=true:=by rw [ho];rfl
 have o10:(i.op==10)=false:=by rw [ho];rfl
 have wl:IntKind.wrap .i64 ((p.L.length:Int)-1)=(p.L.length:Int)-1:=by rw [IntKind.wrap_i64];omega
 have exz:(i.x==0)=true:=by rw [beq_iff_eq];exact hxz
 have fxz:(i.x != 0)=false:=by simp [hxz]
 clear hxz
 have eyz:(i.y==0)=false:=by rw [f8];exact hyz
 have fyz:(i.y != 0)=true:=by simp [hyz]
 clear hyz
 have Hs0:=aD hs0
 clear hs0
 clear hu hiso ho
 have HQ:=aD hq1
 clear h hi hq1
 go_enter Try.func31,Try.ntmps31
 go_upto_region 1 with fail
 generalize (w.alloc (.cells #[.slice p.q p.L.length p.c,.int .i64 p.g,.int .i64 p.k,.bool p.f] 24))=w1 at B1 X1 c0 c1 c2 c3 c4 c5 c6 c7 c8 c9 ⊢
 have p0:w1.cell? ⟨w.heap.size,0,none⟩=some (.slice p.q p.L.length p.c):=aA X1.o (i:=0) rfl
 rw [HQ.o] at p0
 go_upto_region 2 with fail
 have BA:wBl w1 (w1.alloc (.cells #[.int .i64 i.op,.int .i64 i.x,.int .i64 i.y,.int .i64 i.n,.int .i64 i.mn,.int .i64 i.mx,.int .u64 (aB i.s 0),.int .u64 (aB i.s 1),.int .u64 (aB i.s 2),.int .u64 (aB i.s 3)] 47)):=bz9
 have X2:=aD ((BA.block _ (aC X1.o)).trans X1.o)
 have I2:Hid ((w1.alloc (.cells #[.int .i64 i.op,.int .i64 i.x,.int .i64 i.y,.int .i64 i.n,.int .i64 i.mn,.int .i64 i.mx,.int .u64 (aB i.s 0),.int .u64 (aB i.s 1),.int .u64 (aB i.s 2),.int .u64 (aB i.s 3)] 47)).heap[w1.heap.size]?=some (.cells #[.int .i64 i.op,.int .i64 i.x,.int .i64 i.y,.int .i64 i.n,.int .i64 i.mn,.int .i64 i.mx,.int .u64 (aB i.s 0),.int .u64 (aB i.s 1),.int .u64 (aB i.s 2),.int .u64 (aB i.s 3)] 47 (0,0))):=aE w1 _
 have B2:=aD (aF B1.o BA lz9)
 clear BA c0 c1 c2 c3 c4 c5 c6 c7 c8 c9 p0
 generalize (w1.alloc (.cells #[.int .i64 i.op,.int .i64 i.x,.int .i64 i.y,.int .i64 i.n,.int .i64 i.mn,.int .i64 i.mx,.int .u64 (aB i.s 0),.int .u64 (aB i.s 1),.int .u64 (aB i.s 2),.int .u64 (aB i.s 3)] 47))=w2 at X2 I2 B2 ⊢
 obtain⟨ib,hib⟩:∃ ib,w1.heap.size=ib:=⟨_,rfl⟩
 rw [hib] at I2 ⊢
 clear hib
 have d0:w2.cell? ⟨ib,0,none⟩=some (.int .i64 i.op):=aA I2.o (i:=0) rfl
 go_upto_region 3 with (go_at_call 42;(with_reducible refine(OF.o _).mono ?_);rintro e w3 ⟨rfl,h3⟩;have X3:=aD ((h3.block _ (aC X2.o)).trans X2.o);have I3:=aD ((h3.block _ (aC I2.o)).trans I2.o);have B3:=aD (aF B2.o h3 lz9);clear h3)
 have BA:wBl w3 (w3.alloc (.cells #[.bool false,.bool false,.bool false,.bool true,.bool false,.bool true] 84)):=bz9
 have X4:=aD ((BA.block _ (aC X3.o)).trans X3.o)
 have I4:=aD ((BA.block _ (aC I3.o)).trans I3.o)
 have U4:Hid ((w3.alloc (.cells #[.bool false,.bool false,.bool false,.bool true,.bool false,.bool true] 84)).heap[w3.heap.size]?=some (.cells #[.bool false,.bool false,.bool false,.bool true,.bool false,.bool true] 84 (0,0))):=aE w3 _
 have B4:=aD (aF B3.o BA lz9)
 clear BA X3 I3 B3 X2 I2 B2
 generalize (w3.alloc (.cells #[.bool false,.bool false,.bool false,.bool true,.bool false,.bool true] 84))=w4 at X4 I4 U4 B4 ⊢
 obtain⟨ub,hub⟩:∃ ub,w3.heap.size=ub:=⟨_,rfl⟩
 rw [hub] at U4 ⊢
 clear hub
 have p0:w4.cell? ⟨w.heap.size,0,none⟩=some (.slice p.q p.L.length p.c):=aA X4.o (i:=0) rfl
 have p1:w4.cell? ⟨w.heap.size,1,none⟩=some (.int .i64 p.g):=aA X4.o (i:=1) rfl
 have p2:w4.cell? ⟨w.heap.size,2,none⟩=some (.int .i64 p.k):=aA X4.o (i:=2) rfl
 have d0:w4.cell? ⟨ib,0,none⟩=some (.int .i64 i.op):=aA I4.o (i:=0) rfl
 have d1:w4.cell? ⟨ib,1,none⟩=some (.int .i64 i.x):=aA I4.o (i:=1) rfl
 have d2:w4.cell? ⟨ib,2,none⟩=some (.int .i64 i.y):=aA I4.o (i:=2) rfl
 have d3:w4.cell? ⟨ib,3,none⟩=some (.int .i64 i.n):=aA I4.o (i:=3) rfl
 have d4:w4.cell? ⟨ib,4,none⟩=some (.int .i64 i.mn):=aA I4.o (i:=4) rfl
 have d5:w4.cell? ⟨ib,5,none⟩=some (.int .i64 i.mx):=aA I4.o (i:=5) rfl
 have d6:w4.cell? ⟨ib,6,none⟩=some (.int .u64 (aB i.s 0)):=aA I4.o (i:=6) rfl
 have d7:w4.cell? ⟨ib,7,none⟩=some (.int .u64 (aB i.s 1)):=aA I4.o (i:=7) rfl
 have d8:w4.cell? ⟨ib,8,none⟩=some (.int .u64 (aB i.s 2)):=aA I4.o (i:=8) rfl
 have d9:w4.cell? ⟨ib,9,none⟩=some (.int .u64 (aB i.s 3)):=aA I4.o (i:=9) rfl
 have u0:w4.cell? ⟨ub,0,none⟩=some (.bool false):=aA U4.o (i:=0) rfl
 have u1:w4.cell? ⟨ub,1,none⟩=some (.bool false):=aA U4.o (i:=1) rfl
 have u2:w4.cell? ⟨ub,2,none⟩=some (.bool false):=aA U4.o (i:=2) rfl
 have u3:w4.cell? ⟨ub,3,none⟩=some (.bool true):=aA U4.o (i:=3) rfl
 have u4:w4.cell? ⟨ub,4,none⟩=some (.bool false):=aA U4.o (i:=4) rfl
 have u5:w4.cell? ⟨ub,5,none⟩=some (.bool true):=aA U4.o (i:=5) rfl
 have hs0:=Hs0.o
 go_wp2
 go_ret
 exact⟨rfl,B4.o⟩
theorem lQ{w:World}{p:Pg}(h:PgI w p){k:Nat}{i:Ins}(hi:p.L[k]?=some i)(hk:p.L.length<=40000)(ho:i.op=9)(hs0:i.s=0#256)(hx0:0<=i.x)(hy0:0<=i.y)(hxz:¬ (i.x=0)):Calls Try.prog 31 #[.agg #[.slice p.q p.L.length p.c,.int .i64 p.g,.int .i64 p.k,.bool p.f],.int .i64 (k:Int)] w fun e w'=>e=.returned (.bool (false))/\wBl w w':=by
 have B1:Hid (wBl w (w.alloc (.cells #[.slice p.q p.L.length p.c,.int .i64 p.g,.int .i64 p.k,.bool p.f] 24))):=bz9
 have X1:Hid ((w.alloc (.cells #[.slice p.q p.L.length p.c,.int .i64 p.g,.int .i64 p.k,.bool p.f] 24)).heap[w.heap.size]?=some (.cells #[.slice p.q p.L.length p.c,.int .i64 p.g,.int .i64 p.k,.bool p.f] 24 (0,0))):=aE w _
 obtain⟨g1,o1,hq1,hl1,c0,c1,c2,c3,c4,c5,c6,c7,c8,c9⟩:=(h.li.kept B1.o).ten hi
 have hkl:=(f7.1 hi).1
 have k0:(0:Int)<=(k:Int):=by omega
 have k1:(k:Int)<(p.L.length:Int):=by omega
 have OF:=aD (aI i.op)
 have hu:usA i.op=[false,false,false,true,false,true]:=by rw [ho];rfl
 have hiso:isO i.op=true:=by rw [ho];rfl
 rw [hu,hiso] at OF
 have OF:Hid (∀ w,Calls Try.prog 42 #[.int .i64 i.op] w fun e w'=>e=.returned (.tuple #[.agg #[.bool false,.bool false,.bool false,.bool true,.bool false,.bool true],.bool true])/\wBl w w'):=OF
 have o9:(i.op==9)=true:=by rw [ho];rfl
 have o10:(i.op==10)=false:=by rw [ho];rfl
 have wl:IntKind.wrap .i64 ((p.L.length:Int)-1)=(p.L.length:Int)-1:=by rw [IntKind.wrap_i64];omega
 have exz:(i.x==0)=false:=by rw [f8];exact hxz
 have fxz:(i.x != 0)=true:=by simp [hxz]
 clear hxz
 have Hs0:=aD hs0
 clear hs0
 clear hu hiso ho
 have HQ:=aD hq1
 clear h hi hq1
 go_enter Try.func31,Try.ntmps31
 go_upto_region 1 with fail
 generalize (w.alloc (.cells #[.slice p.q p.L.length p.c,.int .i64 p.g,.int .i64 p.k,.bool p.f] 24))=w1 at B1 X1 c0 c1 c2 c3 c4 c5 c6 c7 c8 c9 ⊢
 have p0:w1.cell? ⟨w.heap.size,0,none⟩=some (.slice p.q p.L.length p.c):=aA X1.o (i:=0) rfl
 rw [HQ.o] at p0
 go_upto_region 2 with fail
 have BA:wBl w1 (w1.alloc (.cells #[.int .i64 i.op,.int .i64 i.x,.int .i64 i.y,.int .i64 i.n,.int .i64 i.mn,.int .i64 i.mx,.int .u64 (aB i.s 0),.int .u64 (aB i.s 1),.int .u64 (aB i.s 2),.int .u64 (aB i.s 3)] 47)):=bz9
 have X2:=aD ((BA.block _ (aC X1.o)).trans X1.o)
 have I2:Hid ((w1.alloc (.cells #[.int .i64 i.op,.int .i64 i.x,.int .i64 i.y,.int .i64 i.n,.int .i64 i.mn,.int .i64 i.mx,.int .u64 (aB i.s 0),.int .u64 (aB i.s 1),.int .u64 (aB i.s 2),.int .u64 (aB i.s 3)] 47)).heap[w1.heap.size]?=some (.cells #[.int .i64 i.op,.int .i64 i.x,.int .i64 i.y,.int .i64 i.n,.int .i64 i.mn,.int .i64 i.mx,.int .u64 (aB i.s 0),.int .u64 (aB i.s 1),.int .u64 (aB i.s 2),.int .u64 (aB i.s 3)] 47 (0,0))):=aE w1 _
 have B2:=aD (aF B1.o BA lz9)
 clear BA c0 c1 c2 c3 c4 c5 c6 c7 c8 c9 p0
 generalize (w1.alloc (.cells #[.int .i64 i.op,.int .i64 i.x,.int .i64 i.y,.int .i64 i.n,.int .i64 i.mn,.int .i64 i.mx,.int .u64 (aB i.s 0),.int .u64 (aB i.s 1),.int .u64 (aB i.s 2),.int .u64 (aB i.s 3)] 47))=w2 at X2 I2 B2 ⊢
 obtain⟨ib,hib⟩:∃ ib,w1.heap.size=ib:=⟨_,rfl⟩
 rw [hib] at I2 ⊢
 clear hib
 have d0:w2.cell? ⟨ib,0,none⟩=some (.int .i64 i.op):=aA I2.o (i:=0) rfl
 go_upto_region 3 with (go_at_call 42;(with_reducible refine(OF.o _).mono ?_);rintro e w3 ⟨rfl,h3⟩;have X3:=aD ((h3.block _ (aC X2.o)).trans X2.o);have I3:=aD ((h3.block _ (aC I2.o)).trans I2.o);have B3:=aD (aF B2.o h3 lz9);clear h3)
 have BA:wBl w3 (w3.alloc (.cells #[.bool false,.bool false,.bool false,.bool true,.bool false,.bool true] 84)):=bz9
 have X4:=aD ((BA.block _ (aC X3.o)).trans X3.o)
 have I4:=aD ((BA.block _ (aC I3.o)).trans I3.o)
 have U4:Hid ((w3.alloc (.cells #[.bool false,.bool false,.bool false,.bool true,.bool false,.bool true] 84)).heap[w3.heap.size]?=some (.cells #[.bool false,.bool false,.bool false,.bool true,.bool false,.bool true] 84 (0,0))):=aE w3 _
 have B4:=aD (aF B3.o BA lz9)
 clear BA X3 I3 B3 X2 I2 B2
 generalize (w3.alloc (.cells #[.bool false,.bool false,.bool false,.bool true,.bool false,.bool true] 84))=w4 at X4 I4 U4 B4 ⊢
 obtain⟨ub,hub⟩:∃ ub,w3.heap.size=ub:=⟨_,rfl⟩
 rw [hub] at U4 ⊢
 clear hub
 have p0:w4.cell? ⟨w.heap.size,0,none⟩=some (.slice p.q p.L.length p.c):=aA X4.o (i:=0) rfl
 have p1:w4.cell? ⟨w.heap.size,1,none⟩=some (.int .i64 p.g):=aA X4.o (i:=1) rfl
 have p2:w4.cell? ⟨w.heap.size,2,none⟩=some (.int .i64 p.k):=aA X4.o (i:=2) rfl
 have d0:w4.cell? ⟨ib,0,none⟩=some (.int .i64 i.op):=aA I4.o (i:=0) rfl
 have d1:w4.cell? ⟨ib,1,none⟩=some (.int .i64 i.x):=aA I4.o (i:=1) rfl
 have d2:w4.cell? ⟨ib,2,none⟩=some (.int .i64 i.y):=aA I4.o (i:=2) rfl
 have d3:w4.cell? ⟨ib,3,none⟩=some (.int .i64 i.n):=aA I4.o (i:=3) rfl
 have d4:w4.cell? ⟨ib,4,none⟩=some (.int .i64 i.mn):=aA I4.o (i:=4) rfl
 have d5:w4.cell? ⟨ib,5,none⟩=some (.int .i64 i.mx):=aA I4.o (i:=5) rfl
 have d6:w4.cell? ⟨ib,6,none⟩=some (.int .u64 (aB i.s 0)):=aA I4.o (i:=6) rfl
 have d7:w4.cell? ⟨ib,7,none⟩=some (.int .u64 (aB i.s 1)):=aA I4.o (i:=7) rfl
 have d8:w4.cell? ⟨ib,8,none⟩=some (.int .u64 (aB i.s 2)):=aA I4.o (i:=8) rfl
 have d9:w4.cell? ⟨ib,9,none⟩=some (.int .u64 (aB i.s 3)):=aA I4.o (i:=9) rfl
 have u0:w4.cell? ⟨ub,0,none⟩=some (.bool false):=aA U4.o (i:=0) rfl
 have u1:w4.cell? ⟨ub,1,none⟩=some (.bool false):=aA U4.o (i:=1) rfl
 have u2:w4.cell? ⟨ub,2,none⟩=some (.bool false):=aA U4.o (i:=2) rfl
 have u3:w4.cell? ⟨ub,3,none⟩=some (.bool true):=aA U4.o (i:=3) rfl
 have u4:w4.cell? ⟨ub,4,none⟩=some (.bool false):=aA U4.o (i:=4) rfl
 have u5:w4.cell? ⟨ub,5,none⟩=some (.bool true):=aA U4.o (i:=5) rfl
 have hs0:=Hs0.o
 go_wp2
 go_ret
 exact⟨rfl,B4.o⟩
theorem lP{w:World}{p:Pg}(h:PgI w p){k:Nat}{i:Ins}(hi:p.L[k]?=some i)(hk:p.L.length<=40000)(ho:i.op=9)(hs0:i.s=0#256)(hx0:0<=i.x)(hy0:¬ (0<=i.y))(hxz:i.x=0)(hyz:¬ (i.y=0)):Calls Try.prog 31 #[.agg #[.slice p.q p.L.length p.c,.int .i64 p.g,.int .i64 p.k,.bool p.f],.int .i64 (k:Int)] w fun e w'=>e=.returned (.bool (false))/\wBl w w':=by
 have B1:Hid (wBl w (w.alloc (.cells #[.slice p.q p.L.length p.c,.int .i64 p.g,.int .i64 p.k,.bool p.f] 24))):=bz9
 have X1:Hid ((w.alloc (.cells #[.slice p.q p.L.length p.c,.int .i64 p.g,.int .i64 p.k,.bool p.f] 24)).heap[w.heap.size]?=some (.cells #[.slice p.q p.L.length p.c,.int .i64 p.g,.int .i64 p.k,.bool p.f] 24 (0,0))):=aE w _
 obtain⟨g1,o1,hq1,hl1,c0,c1,c2,c3,c4,c5,c6,c7,c8,c9⟩:=(h.li.kept B1.o).ten hi
 have hkl:=(f7.1 hi).1
 have k0:(0:Int)<=(k:Int):=by omega
 have k1:(k:Int)<(p.L.length:Int):=by omega
 have OF:=aD (aI i.op)
 have hu:usA i.op=[false,false,false,true,false,true]:=by rw [ho];rfl
 have hiso:isO i.op=true:=by rw [ho];rfl
 rw [hu,hiso] at OF
 have OF:Hid (∀ w,Calls Try.prog 42 #[.int .i64 i.op] w fun e w'=>e=.returned (.tuple #[.agg #[.bool false,.bool false,.bool false,.bool true,.bool false,.bool true],.bool true])/\wBl w w'):=OF
 have o9:(i.op==9)=true:=by rw [ho];rfl
 have o10:(i.op==10)=false:=by rw [ho];rfl
 have wl:IntKind.wrap .i64 ((p.L.length:Int)-1)=(p.L.length:Int)-1:=by rw [IntKind.wrap_i64];omega
 have exz:(i.x==0)=true:=by rw [beq_iff_eq];exact hxz
 have fxz:(i.x != 0)=false:=by simp [hxz]
 clear hxz
 have eyz:(i.y==0)=false:=by rw [f8];exact hyz
 have fyz:(i.y != 0)=true:=by simp [hyz]
 clear hyz
 have Hs0:=aD hs0
 clear hs0
 clear hu hiso ho
 have HQ:=aD hq1
 clear h hi hq1
 go_enter Try.func31,Try.ntmps31
 go_upto_region 1 with fail
 generalize (w.alloc (.cells #[.slice p.q p.L.length p.c,.int .i64 p.g,.int .i64 p.k,.bool p.f] 24))=w1 at B1 X1 c0 c1 c2 c3 c4 c5 c6 c7 c8 c9 ⊢
 have p0:w1.cell? ⟨w.heap.size,0,none⟩=some (.slice p.q p.L.length p.c):=aA X1.o (i:=0) rfl
 rw [HQ.o] at p0
 go_upto_region 2 with fail
 have BA:wBl w1 (w1.alloc (.cells #[.int .i64 i.op,.int .i64 i.x,.int .i64 i.y,.int .i64 i.n,.int .i64 i.mn,.int .i64 i.mx,.int .u64 (aB i.s 0),.int .u64 (aB i.s 1),.int .u64 (aB i.s 2),.int .u64 (aB i.s 3)] 47)):=bz9
 have X2:=aD ((BA.block _ (aC X1.o)).trans X1.o)
 have I2:Hid ((w1.alloc (.cells #[.int .i64 i.op,.int .i64 i.x,.int .i64 i.y,.int .i64 i.n,.int .i64 i.mn,.int .i64 i.mx,.int .u64 (aB i.s 0),.int .u64 (aB i.s 1),.int .u64 (aB i.s 2),.int .u64 (aB i.s 3)] 47)).heap[w1.heap.size]?=some (.cells #[.int .i64 i.op,.int .i64 i.x,.int .i64 i.y,.int .i64 i.n,.int .i64 i.mn,.int .i64 i.mx,.int .u64 (aB i.s 0),.int .u64 (aB i.s 1),.int .u64 (aB i.s 2),.int .u64 (aB i.s 3)] 47 (0,0))):=aE w1 _
 have B2:=aD (aF B1.o BA lz9)
 clear BA c0 c1 c2 c3 c4 c5 c6 c7 c8 c9 p0
 generalize (w1.alloc (.cells #[.int .i64 i.op,.int .i64 i.x,.int .i64 i.y,.int .i64 i.n,.int .i64 i.mn,.int .i64 i.mx,.int .u64 (aB i.s 0),.int .u64 (aB i.s 1),.int .u64 (aB i.s 2),.int .u64 (aB i.s 3)] 47))=w2 at X2 I2 B2 ⊢
 obtain⟨ib,hib⟩:∃ ib,w1.heap.size=ib:=⟨_,rfl⟩
 rw [hib] at I2 ⊢
 clear hib
 have d0:w2.cell? ⟨ib,0,none⟩=some (.int .i64 i.op):=aA I2.o (i:=0) rfl
 go_upto_region 3 with (go_at_call 42;(with_reducible refine(OF.o _).mono ?_);rintro e w3 ⟨rfl,h3⟩;have X3:=aD ((h3.block _ (aC X2.o)).trans X2.o);have I3:=aD ((h3.block _ (aC I2.o)).trans I2.o);have B3:=aD (aF B2.o h3 lz9);clear h3)
 have BA:wBl w3 (w3.alloc (.cells #[.bool false,.bool false,.bool false,.bool true,.bool false,.bool true] 84)):=bz9
 have X4:=aD ((BA.block _ (aC X3.o)).trans X3.o)
 have I4:=aD ((BA.block _ (aC I3.o)).trans I3.o)
 have U4:Hid ((w3.alloc (.cells #[.bool false,.bool false,.bool false,.bool true,.bool false,.bool true] 84)).heap[w3.heap.size]?=some (.cells #[.bool false,.bool false,.bool false,.bool true,.bool false,.bool true] 84 (0,0))):=aE w3 _
 have B4:=aD (aF B3.o BA lz9)
 clear BA X3 I3 B3 X2 I2 B2
 generalize (w3.alloc (.cells #[.bool false,.bool false,.bool false,.bool true,.bool false,.bool true] 84))=w4 at X4 I4 U4 B4 ⊢
 obtain⟨ub,hub⟩:∃ ub,w3.heap.size=ub:=⟨_,rfl⟩
 rw [hub] at U4 ⊢
 clear hub
 have p0:w4.cell? ⟨w.heap.size,0,none⟩=some (.slice p.q p.L.length p.c):=aA X4.o (i:=0) rfl
 have p1:w4.cell? ⟨w.heap.size,1,none⟩=some (.int .i64 p.g):=aA X4.o (i:=1) rfl
 have p2:w4.cell? ⟨w.heap.size,2,none⟩=some (.int .i64 p.k):=aA X4.o (i:=2) rfl
 have d0:w4.cell? ⟨ib,0,none⟩=some (.int .i64 i.op):=aA I4.o (i:=0) rfl
 have d1:w4.cell? ⟨ib,1,none⟩=some (.int .i64 i.x):=aA I4.o (i:=1) rfl
 have d2:w4.cell? ⟨ib,2,none⟩=some (.int .i64 i.y):=aA I4.o (i:=2) rfl
 have d3:w4.cell? ⟨ib,3,none⟩=some (.int .i64 i.n):=aA I4.o (i:=3) rfl
 have d4:w4.cell? ⟨ib,4,none⟩=some (.int .i64 i.mn):=aA I4.o (i:=4) rfl
 have d5:w4.cell? ⟨ib,5,none⟩=some (.int .i64 i.mx):=aA I4.o (i:=5) rfl
 have d6:w4.cell? ⟨ib,6,none⟩=some (.int .u64 (aB i.s 0)):=aA I4.o (i:=6) rfl
 have d7:w4.cell? ⟨ib,7,none⟩=some (.int .u64 (aB i.s 1)):=aA I4.o (i:=7) rfl
 have d8:w4.cell? ⟨ib,8,none⟩=some (.int .u64 (aB i.s 2)):=aA I4.o (i:=8) rfl
 have d9:w4.cell? ⟨ib,9,none⟩=some (.int .u64 (aB i.s 3)):=aA I4.o (i:=9) rfl
 have u0:w4.cell? ⟨ub,0,none⟩=some (.bool false):=aA U4.o (i:=0) rfl
 have u1:w4.cell? ⟨ub,1,none⟩=some (.bool false):=aA U4.o (i:=1) rfl
 have u2:w4.cell? ⟨ub,2,none⟩=some (.bool false):=aA U4.o (i:=2) rfl
 have u3:w4.cell? ⟨ub,3,none⟩=some (.bool true):=aA U4.o (i:=3) rfl
 have u4:w4.cell? ⟨ub,4,none⟩=some (.bool false):=aA U4.o (i:=4) rfl
 have u5:w4.cell? ⟨ub,5,none⟩=some (.bool true):=aA U4.o (i:=5) rfl
 have hs0:=Hs0.o
 go_wp2
 go_ret
 exact⟨rfl,B4.o⟩
theorem lO{w:World}{p:Pg}(h:PgI w p){k:Nat}{i:Ins}(hi:p.L[k]?=some i)(hk:p.L.length<=40000)(ho:i.op=9)(hs0:i.s=0#256)(hx0:0<=i.x)(hy0:¬ (0<=i.y))(hxz:¬ (i.x=0)):Calls Try.prog 31 #[.agg #[.slice p.q p.L.length p.c,.int .i64 p.g,.int .i64 p.k,.bool p.f],.int .i64 (k:Int)] w fun e w'=>e=.returned (.bool (false))/\wBl w w':=by
 have B1:Hid (wBl w (w.alloc (.cells #[.slice p.q p.L.length p.c,.int .i64 p.g,.int .i64 p.k,.bool p.f] 24))):=bz9
 have X1:Hid ((w.alloc (.cells #[.slice p.q p.L.length p.c,.int .i64 p.g,.int .i64 p.k,.bool p.f] 24)).heap[w.heap.size]?=some (.cells #[.slice p.q p.L.length p.c,.int .i64 p.g,.int .i64 p.k,.bool p.f] 24 (0,0))):=aE w _
 obtain⟨g1,o1,hq1,hl1,c0,c1,c2,c3,c4,c5,c6,c7,c8,c9⟩:=(h.li.kept B1.o).ten hi
 have hkl:=(f7.1 hi).1
 have k0:(0:Int)<=(k:Int):=by omega
 have k1:(k:Int)<(p.L.length:Int):=by omega
 have OF:=aD (aI i.op)
 have hu:usA i.op=[false,false,false,true,false,true]:=by rw [ho];rfl
 have hiso:isO i.op=true:=by rw [ho];rfl
 rw [hu,hiso] at OF
 have OF:Hid (∀ w,Calls Try.prog 42 #[.int .i64 i.op] w fun e w'=>e=.returned (.tuple #[.agg #[.bool false,.bool false,.bool false,.bool true,.bool false,.bool true],.bool true])/\wBl w w'):=OF
 have o9:(i.op==9)=true:=by rw [ho];rfl
 have o10:(i.op==10)=false:=by rw [ho];rfl
 have wl:IntKind.wrap .i64 ((p.L.length:Int)-1)=(p.L.length:Int)-1:=by rw [IntKind.wrap_i64];omega
 have exz:(i.x==0)=false:=by rw [f8];exact hxz
 have fxz:(i.x != 0)=true:=by simp [hxz]
 clear hxz
 have Hs0:=aD hs0
 clear hs0
 clear hu hiso ho
 have HQ:=aD hq1
 clear h hi hq1
 go_enter Try.func31,Try.ntmps31
 go_upto_region 1 with fail
 generalize (w.alloc (.cells #[.slice p.q p.L.length p.c,.int .i64 p.g,.int .i64 p.k,.bool p.f] 24))=w1 at B1 X1 c0 c1 c2 c3 c4 c5 c6 c7 c8 c9 ⊢
 have p0:w1.cell? ⟨w.heap.size,0,none⟩=some (.slice p.q p.L.length p.c):=aA X1.o (i:=0) rfl
 rw [HQ.o] at p0
 go_upto_region 2 with fail
 have BA:wBl w1 (w1.alloc (.cells #[.int .i64 i.op,.int .i64 i.x,.int .i64 i.y,.int .i64 i.n,.int .i64 i.mn,.int .i64 i.mx,.int .u64 (aB i.s 0),.int .u64 (aB i.s 1),.int .u64 (aB i.s 2),.int .u64 (aB i.s 3)] 47)):=bz9
 have X2:=aD ((BA.block _ (aC X1.o)).trans X1.o)
 have I2:Hid ((w1.alloc (.cells #[.int .i64 i.op,.int .i64 i.x,.int .i64 i.y,.int .i64 i.n,.int .i64 i.mn,.int .i64 i.mx,.int .u64 (aB i.s 0),.int .u64 (aB i.s 1),.int .u64 (aB i.s 2),.int .u64 (aB i.s 3)] 47)).heap[w1.heap.size]?=some (.cells #[.int .i64 i.op,.int .i64 i.x,.int .i64 i.y,.int .i64 i.n,.int .i64 i.mn,.int .i64 i.mx,.int .u64 (aB i.s 0),.int .u64 (aB i.s 1),.int .u64 (aB i.s 2),.int .u64 (aB i.s 3)] 47 (0,0))):=aE w1 _
 have B2:=aD (aF B1.o BA lz9)
 clear BA c0 c1 c2 c3 c4 c5 c6 c7 c8 c9 p0
 generalize (w1.alloc (.cells #[.int .i64 i.op,.int .i64 i.x,.int .i64 i.y,.int .i64 i.n,.int .i64 i.mn,.int .i64 i.mx,.int .u64 (aB i.s 0),.int .u64 (aB i.s 1),.int .u64 (aB i.s 2),.int .u64 (aB i.s 3)] 47))=w2 at X2 I2 B2 ⊢
 obtain⟨ib,hib⟩:∃ ib,w1.heap.size=ib:=⟨_,rfl⟩
 rw [hib] at I2 ⊢
 clear hib
 have d0:w2.cell? ⟨ib,0,none⟩=some (.int .i64 i.op):=aA I2.o (i:=0) rfl
 go_upto_region 3 with (go_at_call 42;(with_reducible refine(OF.o _).mono ?_);rintro e w3 ⟨rfl,h3⟩;have X3:=aD ((h3.block _ (aC X2.o)).trans X2.o);have I3:=aD ((h3.block _ (aC I2.o)).trans I2.o);have B3:=aD (aF B2.o h3 lz9);clear h3)
 have BA:wBl w3 (w3.alloc (.cells #[.bool false,.bool false,.bool false,.bool true,.bool false,.bool true] 84)):=bz9
 have X4:=aD ((BA.block _ (aC X3.o)).trans X3.o)
 have I4:=aD ((BA.block _ (aC I3.o)).trans I3.o)
 have U4:Hid ((w3.alloc (.cells #[.bool false,.bool false,.bool false,.bool true,.bool false,.bool true] 84)).heap[w3.heap.size]?=some (.cells #[.bool false,.bool false,.bool false,.bool true,.bool false,.bool true] 84 (0,0))):=aE w3 _
 have B4:=aD (aF B3.o BA lz9)
 clear BA X3 I3 B3 X2 I2 B2
 generalize (w3.alloc (.cells #[.bool false,.bool false,.bool false,.bool true,.bool false,.bool true] 84))=w4 at X4 I4 U4 B4 ⊢
 obtain⟨ub,hub⟩:∃ ub,w3.heap.size=ub:=⟨_,rfl⟩
 rw [hub] at U4 ⊢
 clear hub
 have p0:w4.cell? ⟨w.heap.size,0,none⟩=some (.slice p.q p.L.length p.c):=aA X4.o (i:=0) rfl
 have p1:w4.cell? ⟨w.heap.size,1,none⟩=some (.int .i64 p.g):=aA X4.o (i:=1) rfl
 have p2:w4.cell? ⟨w.heap.size,2,none⟩=some (.int .i64 p.k):=aA X4.o (i:=2) rfl
 have d0:w4.cell? ⟨ib,0,none⟩=some (.int .i64 i.op):=aA I4.o (i:=0) rfl
 have d1:w4.cell? ⟨ib,1,none⟩=some (.int .i64 i.x):=aA I4.o (i:=1) rfl
 have d2:w4.cell? ⟨ib,2,none⟩=some (.int .i64 i.y):=aA I4.o (i:=2) rfl
 have d3:w4.cell? ⟨ib,3,none⟩=some (.int .i64 i.n):=aA I4.o (i:=3) rfl
 have d4:w4.cell? ⟨ib,4,none⟩=some (.int .i64 i.mn):=aA I4.o (i:=4) rfl
 have d5:w4.cell? ⟨ib,5,none⟩=some (.int .i64 i.mx):=aA I4.o (i:=5) rfl
 have d6:w4.cell? ⟨ib,6,none⟩=some (.int .u64 (aB i.s 0)):=aA I4.o (i:=6) rfl
 have d7:w4.cell? ⟨ib,7,none⟩=some (.int .u64 (aB i.s 1)):=aA I4.o (i:=7) rfl
 have d8:w4.cell? ⟨ib,8,none⟩=some (.int .u64 (aB i.s 2)):=aA I4.o (i:=8) rfl
 have d9:w4.cell? ⟨ib,9,none⟩=some (.int .u64 (aB i.s 3)):=aA I4.o (i:=9) rfl
 have u0:w4.cell? ⟨ub,0,none⟩=some (.bool false):=aA U4.o (i:=0) rfl
 have u1:w4.cell? ⟨ub,1,none⟩=some (.bool false):=aA U4.o (i:=1) rfl
 have u2:w4.cell? ⟨ub,2,none⟩=some (.bool false):=aA U4.o (i:=2) rfl
 have u3:w4.cell? ⟨ub,3,none⟩=some (.bool true):=aA U4.o (i:=3) rfl
 have u4:w4.cell? ⟨ub,4,none⟩=some (.bool false):=aA U4.o (i:=4) rfl
 have u5:w4.cell? ⟨ub,5,none⟩=some (.bool true):=aA U4.o (i:=5) rfl
 have hs0:=Hs0.o
 go_wp2
 go_ret
 exact⟨rfl,B4.o⟩
theorem iT{w:World}{p:Pg}(h:PgI w p){k:Nat}{i:Ins}(hi:p.L[k]?=some i)(hk:p.L.length<=40000)(ho:i.op=9)(hs0:i.s=0#256)(hx0:¬ (0<=i.x))(hy0:0<=i.y)(hxz:¬ (i.x=0)):Calls Try.prog 31 #[.agg #[.slice p.q p.L.length p.c,.int .i64 p.g,.int .i64 p.k,.bool p.f],.int .i64 (k:Int)] w fun e w'=>e=.returned (.bool (false))/\wBl w w':=by
 have B1:Hid (wBl w (w.alloc (.cells #[.slice p.q p.L.length p.c,.int .i64 p.g,.int .i64 p.k,.bool p.f] 24))):=bz9
 have X1:Hid ((w.alloc (.cells #[.slice p.q p.L.length p.c,.int .i64 p.g,.int .i64 p.k,.bool p.f] 24)).heap[w.heap.size]?=some (.cells #[.slice p.q p.L.length p.c,.int .i64 p.g,.int .i64 p.k,.bool p.f] 24 (0,0))):=aE w _
 obtain⟨g1,o1,hq1,hl1,c0,c1,c2,c3,c4,c5,c6,c7,c8,c9⟩:=(h.li.kept B1.o).ten hi
 have hkl:=(f7.1 hi).1
 have k0:(0:Int)<=(k:Int):=by omega
 have k1:(k:Int)<(p.L.length:Int):=by omega
 have OF:=aD (aI i.op)
 have hu:usA i.op=[false,false,false,true,false,true]:=by rw [ho];rfl
 have hiso:isO i.op=true:=by rw [ho];rfl
 rw [hu,hiso] at OF
 have OF:Hid (∀ w,Calls Try.prog 42 #[.int .i64 i.op] w fun e w'=>e=.returned (.tuple #[.agg #[.bool false,.bool false,.bool false,.bool true,.bool false,.bool true],.bool true])/\wBl w w'):=OF
 have o9:(i.op==9)=true:=by rw [ho];rfl
 have o10:(i.op==10)=false:=by rw [ho];rfl
 have wl:IntKind.wrap .i64 ((p.L.length:Int)-1)=(p.L.length:Int)-1:=by rw [IntKind.wrap_i64];omega
 have exz:(i.x==0)=false:=by rw [f8];exact hxz
 have fxz:(i.x != 0)=true:=by simp [hxz]
 clear hxz
 have Hs0:=aD hs0
 clear hs0
 clear hu hiso ho
 have HQ:=aD hq1
 clear h hi hq1
 go_enter Try.func31,Try.ntmps31
 go_upto_region 1 with fail
 generalize (w.alloc (.cells #[.slice p.q p.L.length p.c,.int .i64 p.g,.int .i64 p.k,.bool p.f] 24))=w1 at B1 X1 c0 c1 c2 c3 c4 c5 c6 c7 c8 c9 ⊢
 have p0:w1.cell? ⟨w.heap.size,0,none⟩=some (.slice p.q p.L.length p.c):=aA X1.o (i:=0) rfl
 rw [HQ.o] at p0
 go_upto_region 2 with fail
 have BA:wBl w1 (w1.alloc (.cells #[.int .i64 i.op,.int .i64 i.x,.int .i64 i.y,.int .i64 i.n,.int .i64 i.mn,.int .i64 i.mx,.int .u64 (aB i.s 0),.int .u64 (aB i.s 1),.int .u64 (aB i.s 2),.int .u64 (aB i.s 3)] 47)):=bz9
 have X2:=aD ((BA.block _ (aC X1.o)).trans X1.o)
 have I2:Hid ((w1.alloc (.cells #[.int .i64 i.op,.int .i64 i.x,.int .i64 i.y,.int .i64 i.n,.int .i64 i.mn,.int .i64 i.mx,.int .u64 (aB i.s 0),.int .u64 (aB i.s 1),.int .u64 (aB i.s 2),.int .u64 (aB i.s 3)] 47)).heap[w1.heap.size]?=some (.cells #[.int .i64 i.op,.int .i64 i.x,.int .i64 i.y,.int .i64 i.n,.int .i64 i.mn,.int .i64 i.mx,.int .u64 (aB i.s 0),.int .u64 (aB i.s 1),.int .u64 (aB i.s 2),.int .u64 (aB i.s 3)] 47 (0,0))):=aE w1 _
 have B2:=aD (aF B1.o BA lz9)
 clear BA c0 c1 c2 c3 c4 c5 c6 c7 c8 c9 p0
 generalize (w1.alloc (.cells #[.int .i64 i.op,.int .i64 i.x,.int .i64 i.y,.int .i64 i.n,.int .i64 i.mn,.int .i64 i.mx,.int .u64 (aB i.s 0),.int .u64 (aB i.s 1),.int .u64 (aB i.s 2),.int .u64 (aB i.s 3)] 47))=w2 at X2 I2 B2 ⊢
 obtain⟨ib,hib⟩:∃ ib,w1.heap.size=ib:=⟨_,rfl⟩
 rw [hib] at I2 ⊢
 clear hib
 have d0:w2.cell? ⟨ib,0,none⟩=some (.int .i64 i.op):=aA I2.o (i:=0) rfl
 go_upto_region 3 with (go_at_call 42;(with_reducible refine(OF.o _).mono ?_);rintro e w3 ⟨rfl,h3⟩;have X3:=aD ((h3.block _ (aC X2.o)).trans X2.o);have I3:=aD ((h3.block _ (aC I2.o)).trans I2.o);have B3:=aD (aF B2.o h3 lz9);clear h3)
 have BA:wBl w3 (w3.alloc (.cells #[.bool false,.bool false,.bool false,.bool true,.bool false,.bool true] 84)):=bz9
 have X4:=aD ((BA.block _ (aC X3.o)).trans X3.o)
 have I4:=aD ((BA.block _ (aC I3.o)).trans I3.o)
 have U4:Hid ((w3.alloc (.cells #[.bool false,.bool false,.bool false,.bool true,.bool false,.bool true] 84)).heap[w3.heap.size]?=some (.cells #[.bool false,.bool false,.bool false,.bool true,.bool false,.bool true] 84 (0,0))):=aE w3 _
 have B4:=aD (aF B3.o BA lz9)
 clear BA X3 I3 B3 X2 I2 B2
 generalize (w3.alloc (.cells #[.bool false,.bool false,.bool false,.bool true,.bool false,.bool true] 84))=w4 at X4 I4 U4 B4 ⊢
 obtain⟨ub,hub⟩:∃ ub,w3.heap.size=ub:=⟨_,rfl⟩
 rw [hub] at U4 ⊢
 clear hub
 have p0:w4.cell? ⟨w.heap.size,0,none⟩=some (.slice p.q p.L.length p.c):=aA X4.o (i:=0) rfl
 have p1:w4.cell? ⟨w.heap.size,1,none⟩=some (.int .i64 p.g):=aA X4.o (i:=1) rfl
 have p2:w4.cell? ⟨w.heap.size,2,none⟩=some (.int .i64 p.k):=aA X4.o (i:=2) rfl
 have d0:w4.cell? ⟨ib,0,none⟩=some (.int .i64 i.op):=aA I4.o (i:=0) rfl
 have d1:w4.cell? ⟨ib,1,none⟩=some (.int .i64 i.x):=aA I4.o (i:=1) rfl
 have d2:w4.cell? ⟨ib,2,none⟩=some (.int .i64 i.y):=aA I4.o (i:=2) rfl
 have d3:w4.cell? ⟨ib,3,none⟩=some (.int .i64 i.n):=aA I4.o (i:=3) rfl
 have d4:w4.cell? ⟨ib,4,none⟩=some (.int .i64 i.mn):=aA I4.o (i:=4) rfl
 have d5:w4.cell? ⟨ib,5,none⟩=some (.int .i64 i.mx):=aA I4.o (i:=5) rfl
 have d6:w4.cell? ⟨ib,6,none⟩=some (.int .u64 (aB i.s 0)):=aA I4.o (i:=6) rfl
 have d7:w4.cell? ⟨ib,7,none⟩=some (.int .u64 (aB i.s 1)):=aA I4.o (i:=7) rfl
 have d8:w4.cell? ⟨ib,8,none⟩=some (.int .u64 (aB i.s 2)):=aA I4.o (i:=8) rfl
 have d9:w4.cell? ⟨ib,9,none⟩=some (.int .u64 (aB i.s 3)):=aA I4.o (i:=9) rfl
 have u0:w4.cell? ⟨ub,0,none⟩=some (.bool false):=aA U4.o (i:=0) rfl
 have u1:w4.cell? ⟨ub,1,none⟩=some (.bool false):=aA U4.o (i:=1) rfl
 have u2:w4.cell? ⟨ub,2,none⟩=some (.bool false):=aA U4.o (i:=2) rfl
 have u3:w4.cell? ⟨ub,3,none⟩=some (.bool true):=aA U4.o (i:=3) rfl
 have u4:w4.cell? ⟨ub,4,none⟩=some (.bool false):=aA U4.o (i:=4) rfl
 have u5:w4.cell? ⟨ub,5,none⟩=some (.bool true):=aA U4.o (i:=5) rfl
 have hs0:=Hs0.o
 go_wp2
 go_ret
 exact⟨rfl,B4.o⟩
theorem iS{w:World}{p:Pg}(h:PgI w p){k:Nat}{i:Ins}(hi:p.L[k]?=some i)(hk:p.L.length<=40000)(ho:i.op=9)(hs0:i.s=0#256)(hx0:¬ (0<=i.x))(hy0:¬ (0<=i.y))(hxz:¬ (i.x=0)):Calls Try.prog 31 #[.agg #[.slice p.q p.L.length p.c,.int .i64 p.g,.int .i64 p.k,.bool p.f],.int .i64 (k:Int)] w fun e w'=>e=.returned (.bool (false))/\wBl w w':=by
 have B1:Hid (wBl w (w.alloc (.cells #[.slice p.q p.L.length p.c,.int .i64 p.g,.int .i64 p.k,.bool p.f] 24))):=bz9
 have X1:Hid ((w.alloc (.cells #[.slice p.q p.L.length p.c,.int .i64 p.g,.int .i64 p.k,.bool p.f] 24)).heap[w.heap.size]?=some (.cells #[.slice p.q p.L.length p.c,.int .i64 p.g,.int .i64 p.k,.bool p.f] 24 (0,0))):=aE w _
 obtain⟨g1,o1,hq1,hl1,c0,c1,c2,c3,c4,c5,c6,c7,c8,c9⟩:=(h.li.kept B1.o).ten hi
 have hkl:=(f7.1 hi).1
 have k0:(0:Int)<=(k:Int):=by omega
 have k1:(k:Int)<(p.L.length:Int):=by omega
 have OF:=aD (aI i.op)
 have hu:usA i.op=[false,false,false,true,false,true]:=by rw [ho];rfl
 have hiso:isO i.op=true:=by rw [ho];rfl
 rw [hu,hiso] at OF
 have OF:Hid (∀ w,Calls Try.prog 42 #[.int .i64 i.op] w fun e w'=>e=.returned (.tuple #[.agg #[.bool false,.bool false,.bool false,.bool true,.bool false,.bool true],.bool true])/\wBl w w'):=OF
 have o9:(i.op==9)=true:=by rw [ho];rfl
 have o10:(i.op==10)=false:=by rw [ho];rfl
 have wl:IntKind.wrap .i64 ((p.L.length:Int)-1)=(p.L.length:Int)-1:=by rw [IntKind.wrap_i64];omega
 have exz:(i.x==0)=false:=by rw [f8];exact hxz
 have fxz:(i.x != 0)=true:=by simp [hxz]
 clear hxz
 have Hs0:=aD hs0
 clear hs0
 clear hu hiso ho
 have HQ:=aD hq1
 clear h hi hq1
 go_enter Try.func31,Try.ntmps31
 go_upto_region 1 with fail
 generalize (w.alloc (.cells #[.slice p.q p.L.length p.c,.int .i64 p.g,.int .i64 p.k,.bool p.f] 24))=w1 at B1 X1 c0 c1 c2 c3 c4 c5 c6 c7 c8 c9 ⊢
 have p0:w1.cell? ⟨w.heap.size,0,none⟩=some (.slice p.q p.L.length p.c):=aA X1.o (i:=0) rfl
 rw [HQ.o] at p0
 go_upto_region 2 with fail
 have BA:wBl w1 (w1.alloc (.cells #[.int .i64 i.op,.int .i64 i.x,.int .i64 i.y,.int .i64 i.n,.int .i64 i.mn,.int .i64 i.mx,.int .u64 (aB i.s 0),.int .u64 (aB i.s 1),.int .u64 (aB i.s 2),.int .u64 (aB i.s 3)] 47)):=bz9
 have X2:=aD ((BA.block _ (aC X1.o)).trans X1.o)
 have I2:Hid ((w1.alloc (.cells #[.int .i64 i.op,.int .i64 i.x,.int .i64 i.y,.int .i64 i.n,.int .i64 i.mn,.int .i64 i.mx,.int .u64 (aB i.s 0),.int .u64 (aB i.s 1),.int .u64 (aB i.s 2),.int .u64 (aB i.s 3)] 47)).heap[w1.heap.size]?=some (.cells #[.int .i64 i.op,.int .i64 i.x,.int .i64 i.y,.int .i64 i.n,.int .i64 i.mn,.int .i64 i.mx,.int .u64 (aB i.s 0),.int .u64 (aB i.s 1),.int .u64 (aB i.s 2),.int .u64 (aB i.s 3)] 47 (0,0))):=aE w1 _
 have B2:=aD (aF B1.o BA lz9)
 clear BA c0 c1 c2 c3 c4 c5 c6 c7 c8 c9 p0
 generalize (w1.alloc (.cells #[.int .i64 i.op,.int .i64 i.x,.int .i64 i.y,.int .i64 i.n,.int .i64 i.mn,.int .i64 i.mx,.int .u64 (aB i.s 0),.int .u64 (aB i.s 1),.int .u64 (aB i.s 2),.int .u64 (aB i.s 3)] 47))=w2 at X2 I2 B2 ⊢
 obtain⟨ib,hib⟩:∃ ib,w1.heap.size=ib:=⟨_,rfl⟩
 rw [hib] at I2 ⊢
 clear hib
 have d0:w2.cell? ⟨ib,0,none⟩=some (.int .i64 i.op):=aA I2.o (i:=0) rfl
 go_upto_region 3 with (go_at_call 42;(with_reducible refine(OF.o _).mono ?_);rintro e w3 ⟨rfl,h3⟩;have X3:=aD ((h3.block _ (aC X2.o)).trans X2.o);have I3:=aD ((h3.block _ (aC I2.o)).trans I2.o);have B3:=aD (aF B2.o h3 lz9);clear h3)
 have BA:wBl w3 (w3.alloc (.cells #[.bool false,.bool false,.bool false,.bool true,.bool false,.bool true] 84)):=bz9
 have X4:=aD ((BA.block _ (aC X3.o)).trans X3.o)
 have I4:=aD ((BA.block _ (aC I3.o)).trans I3.o)
 have U4:Hid ((w3.alloc (.cells #[.bool false,.bool false,.bool false,.bool true,.bool false,.bool true] 84)).heap[w3.heap.size]?=some (.cells #[.bool false,.bool false,.bool false,.bool true,.bool false,.bool true] 84 (0,0))):=aE w3 _
 have B4:=aD (aF B3.o BA lz9)
 clear BA X3 I3 B3 X2 I2 B2
 generalize (w3.alloc (.cells #[.bool false,.bool false,.bool false,.bool true,.bool false,.bool true] 84))=w4 at X4 I4 U4 B4 ⊢
 obtain⟨ub,hub⟩:∃ ub,w3.heap.size=ub:=⟨_,rfl⟩
 rw [hub] at U4 ⊢
 clear hub
 have p0:w4.cell? ⟨w.heap.size,0,none⟩=some (.slice p.q p.L.length p.c):=aA X4.o (i:=0) rfl
 have p1:w4.cell? ⟨w.heap.size,1,none⟩=some (.int .i64 p.g):=aA X4.o (i:=1) rfl
 have p2:w4.cell? ⟨w.heap.size,2,none⟩=some (.int .i64 p.k):=aA X4.o (i:=2) rfl
 have d0:w4.cell? ⟨ib,0,none⟩=some (.int .i64 i.op):=aA I4.o (i:=0) rfl
 have d1:w4.cell? ⟨ib,1,none⟩=some (.int .i64 i.x):=aA I4.o (i:=1) rfl
 have d2:w4.cell? ⟨ib,2,none⟩=some (.int .i64 i.y):=aA I4.o (i:=2) rfl
 have d3:w4.cell? ⟨ib,3,none⟩=some (.int .i64 i.n):=aA I4.o (i:=3) rfl
 have d4:w4.cell? ⟨ib,4,none⟩=some (.int .i64 i.mn):=aA I4.o (i:=4) rfl
 have d5:w4.cell? ⟨ib,5,none⟩=some (.int .i64 i.mx):=aA I4.o (i:=5) rfl
 have d6:w4.cell? ⟨ib,6,none⟩=some (.int .u64 (aB i.s 0)):=aA I4.o (i:=6) rfl
 have d7:w4.cell? ⟨ib,7,none⟩=some (.int .u64 (aB i.s 1)):=aA I4.o (i:=7) rfl
 have d8:w4.cell? ⟨ib,8,none⟩=some (.int .u64 (aB i.s 2)):=aA I4.o (i:=8) rfl
 have d9:w4.cell? ⟨ib,9,none⟩=some (.int .u64 (aB i.s 3)):=aA I4.o (i:=9) rfl
 have u0:w4.cell? ⟨ub,0,none⟩=some (.bool false):=aA U4.o (i:=0) rfl
 have u1:w4.cell? ⟨ub,1,none⟩=some (.bool false):=aA U4.o (i:=1) rfl
 have u2:w4.cell? ⟨ub,2,none⟩=some (.bool false):=aA U4.o (i:=2) rfl
 have u3:w4.cell? ⟨ub,3,none⟩=some (.bool true):=aA U4.o (i:=3) rfl
 have u4:w4.cell? ⟨ub,4,none⟩=some (.bool false):=aA U4.o (i:=4) rfl
 have u5:w4.cell? ⟨ub,5,none⟩=some (.bool true):=aA U4.o (i:=5) rfl
 have hs0:=Hs0.o
 go_wp2
 go_ret
 exact⟨rfl,B4.o⟩
theorem iR{w:World}{p:Pg}(h:PgI w p){k:Nat}{i:Ins}(hi:p.L[k]?=some i)(hk:p.L.length<=40000)(ho:i.op=9)(hs0:¬ (i.s=0#256)):Calls Try.prog 31 #[.agg #[.slice p.q p.L.length p.c,.int .i64 p.g,.int .i64 p.k,.bool p.f],.int .i64 (k:Int)] w fun e w'=>e=.returned (.bool (false))/\wBl w w':=by
 have B1:Hid (wBl w (w.alloc (.cells #[.slice p.q p.L.length p.c,.int .i64 p.g,.int .i64 p.k,.bool p.f] 24))):=bz9
 have X1:Hid ((w.alloc (.cells #[.slice p.q p.L.length p.c,.int .i64 p.g,.int .i64 p.k,.bool p.f] 24)).heap[w.heap.size]?=some (.cells #[.slice p.q p.L.length p.c,.int .i64 p.g,.int .i64 p.k,.bool p.f] 24 (0,0))):=aE w _
 obtain⟨g1,o1,hq1,hl1,c0,c1,c2,c3,c4,c5,c6,c7,c8,c9⟩:=(h.li.kept B1.o).ten hi
 have hkl:=(f7.1 hi).1
 have k0:(0:Int)<=(k:Int):=by omega
 have k1:(k:Int)<(p.L.length:Int):=by omega
 have OF:=aD (aI i.op)
 have hu:usA i.op=[false,false,false,true,false,true]:=by rw [ho];rfl
 have hiso:isO i.op=true:=by rw [ho];rfl
 rw [hu,hiso] at OF
 have OF:Hid (∀ w,Calls Try.prog 42 #[.int .i64 i.op] w fun e w'=>e=.returned (.tuple #[.agg #[.bool false,.bool false,.bool false,.bool true,.bool false,.bool true],.bool true])/\wBl w w'):=OF
 have o9:(i.op==9)=true:=by rw [ho];rfl
 have o10:(i.op==10)=false:=by rw [ho];rfl
 have wl:IntKind.wrap .i64 ((p.L.length:Int)-1)=(p.L.length:Int)-1:=by rw [IntKind.wrap_i64];omega
 have Hs0:=aD hs0
 clear hs0
 clear hu hiso ho
 have HQ:=aD hq1
 clear h hi hq1
 go_enter Try.func31,Try.ntmps31
 go_upto_region 1 with fail
 generalize (w.alloc (.cells #[.slice p.q p.L.length p.c,.int .i64 p.g,.int .i64 p.k,.bool p.f] 24))=w1 at B1 X1 c0 c1 c2 c3 c4 c5 c6 c7 c8 c9 ⊢
 have p0:w1.cell? ⟨w.heap.size,0,none⟩=some (.slice p.q p.L.length p.c):=aA X1.o (i:=0) rfl
 rw [HQ.o] at p0
 go_upto_region 2 with fail
 have BA:wBl w1 (w1.alloc (.cells #[.int .i64 i.op,.int .i64 i.x,.int .i64 i.y,.int .i64 i.n,.int .i64 i.mn,.int .i64 i.mx,.int .u64 (aB i.s 0),.int .u64 (aB i.s 1),.int .u64 (aB i.s 2),.int .u64 (aB i.s 3)] 47)):=bz9
 have X2:=aD ((BA.block _ (aC X1.o)).trans X1.o)
 have I2:Hid ((w1.alloc (.cells #[.int .i64 i.op,.int .i64 i.x,.int .i64 i.y,.int .i64 i.n,.int .i64 i.mn,.int .i64 i.mx,.int .u64 (aB i.s 0),.int .u64 (aB i.s 1),.int .u64 (aB i.s 2),.int .u64 (aB i.s 3)] 47)).heap[w1.heap.size]?=some (.cells #[.int .i64 i.op,.int .i64 i.x,.int .i64 i.y,.int .i64 i.n,.int .i64 i.mn,.int .i64 i.mx,.int .u64 (aB i.s 0),.int .u64 (aB i.s 1),.int .u64 (aB i.s 2),.int .u64 (aB i.s 3)] 47 (0,0))):=aE w1 _
 have B2:=aD (aF B1.o BA lz9)
 clear BA c0 c1 c2 c3 c4 c5 c6 c7 c8 c9 p0
 generalize (w1.alloc (.cells #[.int .i64 i.op,.int .i64 i.x,.int .i64 i.y,.int .i64 i.n,.int .i64 i.mn,.int .i64 i.mx,.int .u64 (aB i.s 0),.int .u64 (aB i.s 1),.int .u64 (aB i.s 2),.int .u64 (aB i.s 3)] 47))=w2 at X2 I2 B2 ⊢
 obtain⟨ib,hib⟩:∃ ib,w1.heap.size=ib:=⟨_,rfl⟩
 rw [hib] at I2 ⊢
 clear hib
 have d0:w2.cell? ⟨ib,0,none⟩=some (.int .i64 i.op):=aA I2.o (i:=0) rfl
 go_upto_region 3 with (go_at_call 42;(with_reducible refine(OF.o _).mono ?_);rintro e w3 ⟨rfl,h3⟩;have X3:=aD ((h3.block _ (aC X2.o)).trans X2.o);have I3:=aD ((h3.block _ (aC I2.o)).trans I2.o);have B3:=aD (aF B2.o h3 lz9);clear h3)
 have BA:wBl w3 (w3.alloc (.cells #[.bool false,.bool false,.bool false,.bool true,.bool false,.bool true] 84)):=bz9
 have X4:=aD ((BA.block _ (aC X3.o)).trans X3.o)
 have I4:=aD ((BA.block _ (aC I3.o)).trans I3.o)
 have U4:Hid ((w3.alloc (.cells #[.bool false,.bool false,.bool false,.bool true,.bool false,.bool true] 84)).heap[w3.heap.size]?=some (.cells #[.bool false,.bool false,.bool false,.bool true,.bool false,.bool true] 84 (0,0))):=aE w3 _
 have B4:=aD (aF B3.o BA lz9)
 clear BA X3 I3 B3 X2 I2 B2
 generalize (w3.alloc (.cells #[.bool false,.bool false,.bool false,.bool true,.bool false,.bool true] 84))=w4 at X4 I4 U4 B4 ⊢
 obtain⟨ub,hub⟩:∃ ub,w3.heap.size=ub:=⟨_,rfl⟩
 rw [hub] at U4 ⊢
 clear hub
 have p0:w4.cell? ⟨w.heap.size,0,none⟩=some (.slice p.q p.L.length p.c):=aA X4.o (i:=0) rfl
 have p1:w4.cell? ⟨w.heap.size,1,none⟩=some (.int .i64 p.g):=aA X4.o (i:=1) rfl
 have p2:w4.cell? ⟨w.heap.size,2,none⟩=some (.int .i64 p.k):=aA X4.o (i:=2) rfl
 have d0:w4.cell? ⟨ib,0,none⟩=some (.int .i64 i.op):=aA I4.o (i:=0) rfl
 have d1:w4.cell? ⟨ib,1,none⟩=some (.int .i64 i.x):=aA I4.o (i:=1) rfl
 have d2:w4.cell? ⟨ib,2,none⟩=some (.int .i64 i.y):=aA I4.o (i:=2) rfl
 have d3:w4.cell? ⟨ib,3,none⟩=some (.int .i64 i.n):=aA I4.o (i:=3) rfl
 have d4:w4.cell? ⟨ib,4,none⟩=some (.int .i64 i.mn):=aA I4.o (i:=4) rfl
 have d5:w4.cell? ⟨ib,5,none⟩=some (.int .i64 i.mx):=aA I4.o (i:=5) rfl
 have d6:w4.cell? ⟨ib,6,none⟩=some (.int .u64 (aB i.s 0)):=aA I4.o (i:=6) rfl
 have d7:w4.cell? ⟨ib,7,none⟩=some (.int .u64 (aB i.s 1)):=aA I4.o (i:=7) rfl
 have d8:w4.cell? ⟨ib,8,none⟩=some (.int .u64 (aB i.s 2)):=aA I4.o (i:=8) rfl
 have d9:w4.cell? ⟨ib,9,none⟩=some (.int .u64 (aB i.s 3)):=aA I4.o (i:=9) rfl
 have u0:w4.cell? ⟨ub,0,none⟩=some (.bool false):=aA U4.o (i:=0) rfl
 have u1:w4.cell? ⟨ub,1,none⟩=some (.bool false):=aA U4.o (i:=1) rfl
 have u2:w4.cell? ⟨ub,2,none⟩=some (.bool false):=aA U4.o (i:=2) rfl
 have u3:w4.cell? ⟨ub,3,none⟩=some (.bool true):=aA U4.o (i:=3) rfl
 have u4:w4.cell? ⟨ub,4,none⟩=some (.bool false):=aA U4.o (i:=4) rfl
 have u5:w4.cell? ⟨ub,5,none⟩=some (.bool true):=aA U4.o (i:=5) rfl
 have hs0:=Hs0.o
 go_wp2
 go_ret
 exact⟨rfl,B4.o⟩
theorem rH{w:World}{p:Pg}(h:PgI w p){k:Nat}{i:Ins}(hi:p.L[k]?=some i)(hk:p.L.length<=40000)(ho:i.op=9):Calls Try.prog 31 #[.agg #[.slice p.q p.L.length p.c,.int .i64 p.g,.int .i64 p.k,.bool p.f],.int .i64 (k:Int)] w fun e w'=>e=.returned (.bool (fnD p k i))/\wBl w w':=by
 have hkl:=(f7.1 hi).1
 by_cases hs0:i.s=0#256
 ·skip
  by_cases hx0:0<=i.x
  ·skip
   by_cases hy0:0<=i.y
   ·skip
    by_cases hxz:i.x=0
    ·skip
     by_cases hyz:i.y=0
     ·skip
      by_cases hn0:i.n<0
      ·skip
       exact(aT (lW h hi hk ho hs0 hx0 hy0 hxz hyz hn0) (by unfold fnD;rw [show usA i.op=[false,false,false,true,false,true] from by rw [ho];rfl];simp [ho,isO,hs0,hx0,hy0,hxz,hyz,hn0];try omega))
      ·skip
       by_cases hn1:p.k<=i.n
       ·skip
        exact(aT (lV h hi hk ho hs0 hx0 hy0 hxz hyz hn0 hn1) (by unfold fnD;rw [show usA i.op=[false,false,false,true,false,true] from by rw [ho];rfl];simp [ho,isO,hs0,hx0,hy0,hxz,hyz,hn0,hn1];try omega))
       ·skip
        by_cases hmnz:i.mn=0
        ·skip
         by_cases hmxz:i.mx=0
         ·skip
          exact(aT (lU h hi hk ho hs0 hx0 hy0 hxz hyz hn0 hn1 hmnz hmxz) (by unfold fnD;rw [show usA i.op=[false,false,false,true,false,true] from by rw [ho];rfl];simp [ho,isO,hs0,hx0,hy0,hxz,hyz,hn0,hn1,hmnz,hmxz];try omega))
         ·skip
          exact(aT (lT h hi hk ho hs0 hx0 hy0 hxz hyz hn0 hn1 hmnz hmxz) (by unfold fnD;rw [show usA i.op=[false,false,false,true,false,true] from by rw [ho];rfl];simp [ho,isO,hs0,hx0,hy0,hxz,hyz,hn0,hn1,hmnz,hmxz];try omega))
        ·skip
         exact(aT (lS h hi hk ho hs0 hx0 hy0 hxz hyz hn0 hn1 hmnz) (by unfold fnD;rw [show usA i.op=[false,false,false,true,false,true] from by rw [ho];rfl];simp [ho,isO,hs0,hx0,hy0,hxz,hyz,hn0,hn1,hmnz];try omega))
     ·skip
      exact(aT (lR h hi hk ho hs0 hx0 hy0 hxz hyz) (by unfold fnD;rw [show usA i.op=[false,false,false,true,false,true] from by rw [ho];rfl];simp [ho,isO,hs0,hx0,hy0,hxz,hyz];try omega))
    ·skip
     exact(aT (lQ h hi hk ho hs0 hx0 hy0 hxz) (by unfold fnD;rw [show usA i.op=[false,false,false,true,false,true] from by rw [ho];rfl];simp [ho,isO,hs0,hx0,hy0,hxz];try omega))
   ·skip
    by_cases hxz:i.x=0
    ·skip
     by_cases hyz:i.y=0
     ·skip
      by_cases hn0:i.n<0
      ·skip
       exfalso;omega
      ·skip
       by_cases hn1:p.k<=i.n
       ·skip
        exfalso;omega
       ·skip
        by_cases hmnz:i.mn=0
        ·skip
         by_cases hmxz:i.mx=0
         ·skip
          exfalso;omega
         ·skip
          exfalso;omega
        ·skip
         exfalso;omega
     ·skip
      exact(aT (lP h hi hk ho hs0 hx0 hy0 hxz hyz) (by unfold fnD;rw [show usA i.op=[false,false,false,true,false,true] from by rw [ho];rfl];simp [ho,isO,hs0,hx0,hy0,hxz,hyz];try omega))
    ·skip
     exact(aT (lO h hi hk ho hs0 hx0 hy0 hxz) (by unfold fnD;rw [show usA i.op=[false,false,false,true,false,true] from by rw [ho];rfl];simp [ho,isO,hs0,hx0,hy0,hxz];try omega))
  ·skip
   by_cases hy0:0<=i.y
   ·skip
    by_cases hxz:i.x=0
    ·skip
     by_cases hyz:i.y=0
     ·skip
      by_cases hn0:i.n<0
      ·skip
       exfalso;omega
      ·skip
       by_cases hn1:p.k<=i.n
       ·skip
        exfalso;omega
       ·skip
        by_cases hmnz:i.mn=0
        ·skip
         by_cases hmxz:i.mx=0
         ·skip
          exfalso;omega
         ·skip
          exfalso;omega
        ·skip
         exfalso;omega
     ·skip
      exfalso;omega
    ·skip
     exact(aT (iT h hi hk ho hs0 hx0 hy0 hxz) (by unfold fnD;rw [show usA i.op=[false,false,false,true,false,true] from by rw [ho];rfl];simp [ho,isO,hs0,hx0,hy0,hxz];try omega))
   ·skip
    by_cases hxz:i.x=0
    ·skip
     by_cases hyz:i.y=0
     ·skip
      by_cases hn0:i.n<0
      ·skip
       exfalso;omega
      ·skip
       by_cases hn1:p.k<=i.n
       ·skip
        exfalso;omega
       ·skip
        by_cases hmnz:i.mn=0
        ·skip
         by_cases hmxz:i.mx=0
         ·skip
          exfalso;omega
         ·skip
          exfalso;omega
        ·skip
         exfalso;omega
     ·skip
      exfalso;omega
    ·skip
     exact(aT (iS h hi hk ho hs0 hx0 hy0 hxz) (by unfold fnD;rw [show usA i.op=[false,false,false,true,false,true] from by rw [ho];rfl];simp [ho,isO,hs0,hx0,hy0,hxz];try omega))
 ·skip
  exact(aT (iR h hi hk ho hs0) (by unfold fnD;rw [show usA i.op=[false,false,false,true,false,true] from by rw [ho];rfl];simp [ho,isO,hs0];try omega))
end Go.Proofs.Ytliflleaeimngaa
