/-
  Parts of the proof.
-/
import Derived.Test.YtliflleaeimngaaGreatDoorRightsProofA0
import Derived.Test.YtliflleaeimngaaGreatDoorRightsProofB2
import Derived.OwnWalk
import Derived.RangeFuncRecord
import Derived.Deep.RegionWith
import Derived.Deep.DeepCutAuto
set_option linter.unusedSimpArgs false
set_option maxRecDepth 100000
set_option maxHeartbeats 8000000
namespace Go.Proofs.YtliflleaeimngaaGreatDoor
open Go Go.RowKit
section
attribute [local go_sem] Oper.semAt_some cD
def bE(p:Pg)(k:Nat)(i:Ins):Bool:=
 !(shW i.op==[])&&decide (i=usI (shT i.op) i)&&(!hsT (shT i.op) 2||blw i.x p.L.length)&&(!hsT (shT i.op) 4||blw i.y p.L.length)&&(!hsT (shT i.op) 8||blw i.n p.g)&&(!hsT (shT i.op) 16||blw i.n p.k)&&(!hsT (shT i.op) 32||rbd i.mn i.mx)&&(!hsT (shT i.op) 64||decide ((k:Int)+1<p.L.length))
def RaP(p:Pg)(k:Nat)(i:Ins)(w:World)(e:Ending)(w':World):Prop:=e=.returned (.bool (bE p k i))/\wBl w w'
theorem cS{t:Int}{i j:Ins}(h:t∈trs)(hj:j=usI t i){w:World}(x:Ext w):Calls Tryz.prog 46 #[.int .i64 t,.agg #[.int .i64 i.op,.int .i64 i.x,.int .i64 i.y,.int .i64 i.n,.int .i64 i.mn,.int .i64 i.mx,.int .u64 (aB i.s 0),.int .u64 (aB i.s 1),.int .u64 (aB i.s 2),.int .u64 (aB i.s 3)]] x.val fun e w'=>e=.returned (.agg #[.int .i64 j.op,.int .i64 j.x,.int .i64 j.y,.int .i64 j.n,.int .i64 j.mn,.int .i64 j.mx,.int .u64 (aB j.s 0),.int .u64 (aB j.s 1),.int .u64 (aB j.s 2),.int .u64 (aB j.s 3)])/\Below x.val.heap.size x.val w':=(aD6 h i x.val).mono fun e w' ⟨j',h1,h2,h3⟩=>by
 subst hj h1
 exact⟨h2,h3⟩
theorem aJ3{w:World}{p:Pg}(h:PgI w p){k:Nat}{i:Ins}(hi:p.L[k]?=some i)(hk:p.L.length<=40000)(ho:i.op=1) :
  Calls Tryz.prog 24 #[.agg #[.slice p.q p.L.length p.c,.int .i64 p.g,.int .i64 p.k,.bool p.f],.int .i64 (k:Int)] w (RaP p k i w):=by
 have B1:Hid (wBl w (w.alloc (.cells #[.slice p.q p.L.length p.c,.int .i64 p.g,.int .i64 p.k,.bool p.f] 24))):=bz9
 have n1:=aE w (.cells #[.slice p.q p.L.length p.c,.int .i64 p.g,.int .i64 p.k,.bool p.f] 24)
 have p0:(w.alloc (.cells #[.slice p.q p.L.length p.c,.int .i64 p.g,.int .i64 p.k,.bool p.f] 24)).cell? ⟨w.heap.size,0,none⟩=some (.slice p.q p.L.length p.c):=aA n1 (i:=0) rfl
 have X1:Hid ((w.alloc (.cells #[.slice p.q p.L.length p.c,.int .i64 p.g,.int .i64 p.k,.bool p.f] 24)).heap[w.heap.size]?=some (.cells #[.slice p.q p.L.length p.c,.int .i64 p.g,.int .i64 p.k,.bool p.f] 24 (0,0))):=n1
 obtain⟨g1,o1,hq1,hl1,c0,c1,c2,c3,c4,c5,c6,c7,c8,c9⟩:=(h.li.kept B1.o).ten hi
 have hlt:=(g7.1 hi).1
 have i0:(k:Int)<(p.L.length:Int):=by omega
 have Q1:=aD hq1
 have HO:=aD ho
 clear hq1 n1 ho
 go_enter Tryz.func24,Tryz.ntmps24
 go_upto_region 1 with fail
 generalize (w.alloc (.cells #[.slice p.q p.L.length p.c,.int .i64 p.g,.int .i64 p.k,.bool p.f] 24))=w1 at B1 p0 X1 hl1 c0 c1 c2 c3 c4 c5 c6 c7 c8 c9 ⊢
 rw [Q1.o] at p0
 have hl2:=aC X1.o
 go_region
 clear p0 c0 c1 c2 c3 c4 c5 c6 c7 c8 c9 hl1
 have B2:Hid (wBl w (w1.alloc (.cells #[.int .i64 i.op,.int .i64 i.x,.int .i64 i.y,.int .i64 i.n,.int .i64 i.mn,.int .i64 i.mx,.int .u64 (aB i.s 0),.int .u64 (aB i.s 1),.int .u64 (aB i.s 2),.int .u64 (aB i.s 3)] 54)).drew):=(aF B1.o (bz9) lz9).drew
 have X2:Hid ((w1.alloc (.cells #[.int .i64 i.op,.int .i64 i.x,.int .i64 i.y,.int .i64 i.n,.int .i64 i.mn,.int .i64 i.mx,.int .u64 (aB i.s 0),.int .u64 (aB i.s 1),.int .u64 (aB i.s 2),.int .u64 (aB i.s 3)] 54)).drew.heap[w1.heap.size]?=some (.cells #[.int .i64 i.op,.int .i64 i.x,.int .i64 i.y,.int .i64 i.n,.int .i64 i.mn,.int .i64 i.mx,.int .u64 (aB i.s 0),.int .u64 (aB i.s 1),.int .u64 (aB i.s 2),.int .u64 (aB i.s 3)] 54 (0,0))):=aE w1 _
 have X3:Hid ((w1.alloc (.cells #[.int .i64 i.op,.int .i64 i.x,.int .i64 i.y,.int .i64 i.n,.int .i64 i.mn,.int .i64 i.mx,.int .u64 (aB i.s 0),.int .u64 (aB i.s 1),.int .u64 (aB i.s 2),.int .u64 (aB i.s 3)] 54)).drew.heap[w.heap.size]?=some (.cells #[.slice p.q p.L.length p.c,.int .i64 p.g,.int .i64 p.k,.bool p.f] 24 (0,0))):=(Below.heap_alloc _ _ _ hl2).trans X1.o
 generalize (w1.alloc (.cells #[.int .i64 i.op,.int .i64 i.x,.int .i64 i.y,.int .i64 i.n,.int .i64 i.mn,.int .i64 i.mx,.int .u64 (aB i.s 0),.int .u64 (aB i.s 1),.int .u64 (aB i.s 2),.int .u64 (aB i.s 3)] 54)).drew=w2 at B2 X2 X3 ⊢
 obtain⟨j,hj⟩:∃ j,j=usI 65 i:=⟨_,rfl⟩
 have hc:=fun x:Ext w2=>cS (t:=65) (by decide) hj x
 obtain⟨io,ix,iy,inn,imn,imx,iss⟩:=i
 simp only at HO X2 hc hj ⊢
 obtain rfl:=HO.o
 have d0:=aA X2.o (i:=0) rfl
 have d1:=aA X2.o (i:=1) rfl
 have d2:=aA X2.o (i:=2) rfl
 have d3:=aA X2.o (i:=3) rfl
 have d4:=aA X2.o (i:=4) rfl
 have d5:=aA X2.o (i:=5) rfl
 have d6:=aA X2.o (i:=6) rfl
 have d7:=aA X2.o (i:=7) rfl
 have d8:=aA X2.o (i:=8) rfl
 have d9:=aA X2.o (i:=9) rfl
 have e1:=aA X3.o (i:=1) rfl
 have e2:=aA X3.o (i:=2) rfl
 have l2:=aC X2.o
 have l3:=aC X3.o
 have hs:=fun (W:World)=>(show Calls Tryz.prog 33 #[.int .i64 1] W fun e w'=>e=.returned (.tuple #[.string ⟨#[98,121,116,101]⟩,.int .i64 65])/\w'=W from aO 1 W)
 have q2:hsT 65 2=false:=by decide
 have q4:hsT 65 4=false:=by decide
 have q8:hsT 65 8=false:=by decide
 have q16:hsT 65 16=false:=by decide
 have q32:hsT 65 32=false:=by decide
 have q64:hsT 65 64=true:=by decide
 have EI:=fun W=>cC ⟨1,ix,iy,inn,imn,imx,iss⟩ j W
 simp only at EI
 have hF:bE p k ⟨1,ix,iy,inn,imn,imx,iss⟩=(decide ((⟨1,ix,iy,inn,imn,imx,iss⟩:Ins)=j)&&decide ((k:Int)+1<p.L.length)):=by
  rw [hj]
  show (!(shW 1==[])&&decide ((⟨1,ix,iy,inn,imn,imx,iss⟩:Ins)=usI 65 ⟨1,ix,iy,inn,imn,imx,iss⟩)&&(!hsT 65 2||blw ix p.L.length)&&(!hsT 65 4||blw iy p.L.length)&&(!hsT 65 8||blw inn p.g)&&(!hsT 65 16||blw inn p.k)&&(!hsT 65 32||rbd imn imx)&&(!hsT 65 64||decide ((k:Int)+1<p.L.length)))=_
  rw [show (!(shW 1==[]))=true from rfl,q2,q4,q8,q16,q32,q64]
  simp
 have HF:=aD hF
 clear hF
 clear hj
 go_wp2_with (go_at_call 33;(with_reducible refine(hs _).mono ?_);rintro e w5 ⟨rfl,rfl⟩)
 refine wx9 ?_
 repeat (go_big_quiet_step (first | exact rfl | exact EI _ |(go_at_call 46;exact cE (hc _))))
 refine wpQuiet_nil ?_
 intro w6 hw6
 have hb6:=cZ hw6
 have B6:=aD (aF B2.o hb6 lz9)
 have y1:=(hb6.cell (p:=⟨w1.heap.size,1,none⟩) l2).trans d1
 have y2:=(hb6.cell (p:=⟨w1.heap.size,2,none⟩) l2).trans d2
 have y3:=(hb6.cell (p:=⟨w1.heap.size,3,none⟩) l2).trans d3
 have y4:=(hb6.cell (p:=⟨w1.heap.size,4,none⟩) l2).trans d4
 have y5:=(hb6.cell (p:=⟨w1.heap.size,5,none⟩) l2).trans d5
 have z1:=(hb6.cell (p:=⟨w.heap.size,1,none⟩) l3).trans e1
 have z2:=(hb6.cell (p:=⟨w.heap.size,2,none⟩) l3).trans e2
 clear hw6 hb6 d0 d1 d2 d3 d4 d5 d6 d7 d8 d9 e1 e2 hc EI hs
 obtain⟨r,hr⟩:∃ r,decide ((⟨1,ix,iy,inn,imn,imx,iss⟩:Ins)=j)=r:=⟨_,rfl⟩
 rw [hr] at HF ⊢
 clear hr hi
 have hw1:IntKind.wrap .i64 ((k:Int)+1)=(k:Int)+1:=wrap_small _ (by omega) (by omega)
 go_wp2_with first
  |(go_at_call 34;(with_reducible refine(aU _ _ _).mono ?_);rintro e w7 ⟨rfl,rfl⟩)
  |(go_at_call 23;(with_reducible refine(bT _ _ _).mono ?_);rintro e w7 ⟨rfl,rfl⟩)
  |(go_at_call 47;(with_reducible refine(cT _ _ _).mono ?_);rintro e w7 ⟨rfl,rfl⟩)
 all_goals go_ret
 all_goals
  refine⟨?_,B6.o⟩
  rw [HF.o]
  first | rfl | simp_all
theorem aJ2{w:World}{p:Pg}(h:PgI w p){k:Nat}{i:Ins}(hi:p.L[k]?=some i)(hk:p.L.length<=40000)(ho:i.op=2) :
  Calls Tryz.prog 24 #[.agg #[.slice p.q p.L.length p.c,.int .i64 p.g,.int .i64 p.k,.bool p.f],.int .i64 (k:Int)] w (RaP p k i w):=by
 have B1:Hid (wBl w (w.alloc (.cells #[.slice p.q p.L.length p.c,.int .i64 p.g,.int .i64 p.k,.bool p.f] 24))):=bz9
 have n1:=aE w (.cells #[.slice p.q p.L.length p.c,.int .i64 p.g,.int .i64 p.k,.bool p.f] 24)
 have p0:(w.alloc (.cells #[.slice p.q p.L.length p.c,.int .i64 p.g,.int .i64 p.k,.bool p.f] 24)).cell? ⟨w.heap.size,0,none⟩=some (.slice p.q p.L.length p.c):=aA n1 (i:=0) rfl
 have X1:Hid ((w.alloc (.cells #[.slice p.q p.L.length p.c,.int .i64 p.g,.int .i64 p.k,.bool p.f] 24)).heap[w.heap.size]?=some (.cells #[.slice p.q p.L.length p.c,.int .i64 p.g,.int .i64 p.k,.bool p.f] 24 (0,0))):=n1
 obtain⟨g1,o1,hq1,hl1,c0,c1,c2,c3,c4,c5,c6,c7,c8,c9⟩:=(h.li.kept B1.o).ten hi
 have hlt:=(g7.1 hi).1
 have i0:(k:Int)<(p.L.length:Int):=by omega
 have Q1:=aD hq1
 have HO:=aD ho
 clear hq1 n1 ho
 go_enter Tryz.func24,Tryz.ntmps24
 go_upto_region 1 with fail
 generalize (w.alloc (.cells #[.slice p.q p.L.length p.c,.int .i64 p.g,.int .i64 p.k,.bool p.f] 24))=w1 at B1 p0 X1 hl1 c0 c1 c2 c3 c4 c5 c6 c7 c8 c9 ⊢
 rw [Q1.o] at p0
 have hl2:=aC X1.o
 go_region
 clear p0 c0 c1 c2 c3 c4 c5 c6 c7 c8 c9 hl1
 have B2:Hid (wBl w (w1.alloc (.cells #[.int .i64 i.op,.int .i64 i.x,.int .i64 i.y,.int .i64 i.n,.int .i64 i.mn,.int .i64 i.mx,.int .u64 (aB i.s 0),.int .u64 (aB i.s 1),.int .u64 (aB i.s 2),.int .u64 (aB i.s 3)] 54)).drew):=(aF B1.o (bz9) lz9).drew
 have X2:Hid ((w1.alloc (.cells #[.int .i64 i.op,.int .i64 i.x,.int .i64 i.y,.int .i64 i.n,.int .i64 i.mn,.int .i64 i.mx,.int .u64 (aB i.s 0),.int .u64 (aB i.s 1),.int .u64 (aB i.s 2),.int .u64 (aB i.s 3)] 54)).drew.heap[w1.heap.size]?=some (.cells #[.int .i64 i.op,.int .i64 i.x,.int .i64 i.y,.int .i64 i.n,.int .i64 i.mn,.int .i64 i.mx,.int .u64 (aB i.s 0),.int .u64 (aB i.s 1),.int .u64 (aB i.s 2),.int .u64 (aB i.s 3)] 54 (0,0))):=aE w1 _
 have X3:Hid ((w1.alloc (.cells #[.int .i64 i.op,.int .i64 i.x,.int .i64 i.y,.int .i64 i.n,.int .i64 i.mn,.int .i64 i.mx,.int .u64 (aB i.s 0),.int .u64 (aB i.s 1),.int .u64 (aB i.s 2),.int .u64 (aB i.s 3)] 54)).drew.heap[w.heap.size]?=some (.cells #[.slice p.q p.L.length p.c,.int .i64 p.g,.int .i64 p.k,.bool p.f] 24 (0,0))):=(Below.heap_alloc _ _ _ hl2).trans X1.o
 generalize (w1.alloc (.cells #[.int .i64 i.op,.int .i64 i.x,.int .i64 i.y,.int .i64 i.n,.int .i64 i.mn,.int .i64 i.mx,.int .u64 (aB i.s 0),.int .u64 (aB i.s 1),.int .u64 (aB i.s 2),.int .u64 (aB i.s 3)] 54)).drew=w2 at B2 X2 X3 ⊢
 obtain⟨j,hj⟩:∃ j,j=usI 6 i:=⟨_,rfl⟩
 have hc:=fun x:Ext w2=>cS (t:=6) (by decide) hj x
 obtain⟨io,ix,iy,inn,imn,imx,iss⟩:=i
 simp only at HO X2 hc hj ⊢
 obtain rfl:=HO.o
 have d0:=aA X2.o (i:=0) rfl
 have d1:=aA X2.o (i:=1) rfl
 have d2:=aA X2.o (i:=2) rfl
 have d3:=aA X2.o (i:=3) rfl
 have d4:=aA X2.o (i:=4) rfl
 have d5:=aA X2.o (i:=5) rfl
 have d6:=aA X2.o (i:=6) rfl
 have d7:=aA X2.o (i:=7) rfl
 have d8:=aA X2.o (i:=8) rfl
 have d9:=aA X2.o (i:=9) rfl
 have e1:=aA X3.o (i:=1) rfl
 have e2:=aA X3.o (i:=2) rfl
 have l2:=aC X2.o
 have l3:=aC X3.o
 have hs:=fun (W:World)=>(show Calls Tryz.prog 33 #[.int .i64 2] W fun e w'=>e=.returned (.tuple #[.string ⟨#[115,112,108,105,116]⟩,.int .i64 6])/\w'=W from aO 2 W)
 have q2:hsT 6 2=true:=by decide
 have q4:hsT 6 4=true:=by decide
 have q8:hsT 6 8=false:=by decide
 have q16:hsT 6 16=false:=by decide
 have q32:hsT 6 32=false:=by decide
 have q64:hsT 6 64=false:=by decide
 have EI:=fun W=>cC ⟨2,ix,iy,inn,imn,imx,iss⟩ j W
 simp only at EI
 have hF:bE p k ⟨2,ix,iy,inn,imn,imx,iss⟩=(decide ((⟨2,ix,iy,inn,imn,imx,iss⟩:Ins)=j)&&blw ix p.L.length&&blw iy p.L.length):=by
  rw [hj]
  show (!(shW 2==[])&&decide ((⟨2,ix,iy,inn,imn,imx,iss⟩:Ins)=usI 6 ⟨2,ix,iy,inn,imn,imx,iss⟩)&&(!hsT 6 2||blw ix p.L.length)&&(!hsT 6 4||blw iy p.L.length)&&(!hsT 6 8||blw inn p.g)&&(!hsT 6 16||blw inn p.k)&&(!hsT 6 32||rbd imn imx)&&(!hsT 6 64||decide ((k:Int)+1<p.L.length)))=_
  rw [show (!(shW 2==[]))=true from rfl,q2,q4,q8,q16,q32,q64]
  simp
 have HF:=aD hF
 clear hF
 clear hj
 go_wp2_with (go_at_call 33;(with_reducible refine(hs _).mono ?_);rintro e w5 ⟨rfl,rfl⟩)
 refine wx9 ?_
 repeat (go_big_quiet_step (first | exact rfl | exact EI _ |(go_at_call 46;exact cE (hc _))))
 refine wpQuiet_nil ?_
 intro w6 hw6
 have hb6:=cZ hw6
 have B6:=aD (aF B2.o hb6 lz9)
 have y1:=(hb6.cell (p:=⟨w1.heap.size,1,none⟩) l2).trans d1
 have y2:=(hb6.cell (p:=⟨w1.heap.size,2,none⟩) l2).trans d2
 have y3:=(hb6.cell (p:=⟨w1.heap.size,3,none⟩) l2).trans d3
 have y4:=(hb6.cell (p:=⟨w1.heap.size,4,none⟩) l2).trans d4
 have y5:=(hb6.cell (p:=⟨w1.heap.size,5,none⟩) l2).trans d5
 have z1:=(hb6.cell (p:=⟨w.heap.size,1,none⟩) l3).trans e1
 have z2:=(hb6.cell (p:=⟨w.heap.size,2,none⟩) l3).trans e2
 clear hw6 hb6 d0 d1 d2 d3 d4 d5 d6 d7 d8 d9 e1 e2 hc EI hs
 obtain⟨r,hr⟩:∃ r,decide ((⟨2,ix,iy,inn,imn,imx,iss⟩:Ins)=j)=r:=⟨_,rfl⟩
 rw [hr] at HF ⊢
 clear hr hi
 have hw1:IntKind.wrap .i64 ((k:Int)+1)=(k:Int)+1:=wrap_small _ (by omega) (by omega)
 go_wp2_with first
  |(go_at_call 34;(with_reducible refine(aU _ _ _).mono ?_);rintro e w7 ⟨rfl,rfl⟩)
  |(go_at_call 23;(with_reducible refine(bT _ _ _).mono ?_);rintro e w7 ⟨rfl,rfl⟩)
  |(go_at_call 47;(with_reducible refine(cT _ _ _).mono ?_);rintro e w7 ⟨rfl,rfl⟩)
 all_goals go_ret
 all_goals
  refine⟨?_,B6.o⟩
  rw [HF.o]
  first | rfl | simp_all
theorem aJ1{w:World}{p:Pg}(h:PgI w p){k:Nat}{i:Ins}(hi:p.L[k]?=some i)(hk:p.L.length<=40000)(ho:i.op=3) :
  Calls Tryz.prog 24 #[.agg #[.slice p.q p.L.length p.c,.int .i64 p.g,.int .i64 p.k,.bool p.f],.int .i64 (k:Int)] w (RaP p k i w):=by
 have B1:Hid (wBl w (w.alloc (.cells #[.slice p.q p.L.length p.c,.int .i64 p.g,.int .i64 p.k,.bool p.f] 24))):=bz9
 have n1:=aE w (.cells #[.slice p.q p.L.length p.c,.int .i64 p.g,.int .i64 p.k,.bool p.f] 24)
 have p0:(w.alloc (.cells #[.slice p.q p.L.length p.c,.int .i64 p.g,.int .i64 p.k,.bool p.f] 24)).cell? ⟨w.heap.size,0,none⟩=some (.slice p.q p.L.length p.c):=aA n1 (i:=0) rfl
 have X1:Hid ((w.alloc (.cells #[.slice p.q p.L.length p.c,.int .i64 p.g,.int .i64 p.k,.bool p.f] 24)).heap[w.heap.size]?=some (.cells #[.slice p.q p.L.length p.c,.int .i64 p.g,.int .i64 p.k,.bool p.f] 24 (0,0))):=n1
 obtain⟨g1,o1,hq1,hl1,c0,c1,c2,c3,c4,c5,c6,c7,c8,c9⟩:=(h.li.kept B1.o).ten hi
 have hlt:=(g7.1 hi).1
 have i0:(k:Int)<(p.L.length:Int):=by omega
 have Q1:=aD hq1
 have HO:=aD ho
 clear hq1 n1 ho
 go_enter Tryz.func24,Tryz.ntmps24
 go_upto_region 1 with fail
 generalize (w.alloc (.cells #[.slice p.q p.L.length p.c,.int .i64 p.g,.int .i64 p.k,.bool p.f] 24))=w1 at B1 p0 X1 hl1 c0 c1 c2 c3 c4 c5 c6 c7 c8 c9 ⊢
 rw [Q1.o] at p0
 have hl2:=aC X1.o
 go_region
 clear p0 c0 c1 c2 c3 c4 c5 c6 c7 c8 c9 hl1
 have B2:Hid (wBl w (w1.alloc (.cells #[.int .i64 i.op,.int .i64 i.x,.int .i64 i.y,.int .i64 i.n,.int .i64 i.mn,.int .i64 i.mx,.int .u64 (aB i.s 0),.int .u64 (aB i.s 1),.int .u64 (aB i.s 2),.int .u64 (aB i.s 3)] 54)).drew):=(aF B1.o (bz9) lz9).drew
 have X2:Hid ((w1.alloc (.cells #[.int .i64 i.op,.int .i64 i.x,.int .i64 i.y,.int .i64 i.n,.int .i64 i.mn,.int .i64 i.mx,.int .u64 (aB i.s 0),.int .u64 (aB i.s 1),.int .u64 (aB i.s 2),.int .u64 (aB i.s 3)] 54)).drew.heap[w1.heap.size]?=some (.cells #[.int .i64 i.op,.int .i64 i.x,.int .i64 i.y,.int .i64 i.n,.int .i64 i.mn,.int .i64 i.mx,.int .u64 (aB i.s 0),.int .u64 (aB i.s 1),.int .u64 (aB i.s 2),.int .u64 (aB i.s 3)] 54 (0,0))):=aE w1 _
 have X3:Hid ((w1.alloc (.cells #[.int .i64 i.op,.int .i64 i.x,.int .i64 i.y,.int .i64 i.n,.int .i64 i.mn,.int .i64 i.mx,.int .u64 (aB i.s 0),.int .u64 (aB i.s 1),.int .u64 (aB i.s 2),.int .u64 (aB i.s 3)] 54)).drew.heap[w.heap.size]?=some (.cells #[.slice p.q p.L.length p.c,.int .i64 p.g,.int .i64 p.k,.bool p.f] 24 (0,0))):=(Below.heap_alloc _ _ _ hl2).trans X1.o
 generalize (w1.alloc (.cells #[.int .i64 i.op,.int .i64 i.x,.int .i64 i.y,.int .i64 i.n,.int .i64 i.mn,.int .i64 i.mx,.int .u64 (aB i.s 0),.int .u64 (aB i.s 1),.int .u64 (aB i.s 2),.int .u64 (aB i.s 3)] 54)).drew=w2 at B2 X2 X3 ⊢
 obtain⟨j,hj⟩:∃ j,j=usI 2 i:=⟨_,rfl⟩
 have hc:=fun x:Ext w2=>cS (t:=2) (by decide) hj x
 obtain⟨io,ix,iy,inn,imn,imx,iss⟩:=i
 simp only at HO X2 hc hj ⊢
 obtain rfl:=HO.o
 have d0:=aA X2.o (i:=0) rfl
 have d1:=aA X2.o (i:=1) rfl
 have d2:=aA X2.o (i:=2) rfl
 have d3:=aA X2.o (i:=3) rfl
 have d4:=aA X2.o (i:=4) rfl
 have d5:=aA X2.o (i:=5) rfl
 have d6:=aA X2.o (i:=6) rfl
 have d7:=aA X2.o (i:=7) rfl
 have d8:=aA X2.o (i:=8) rfl
 have d9:=aA X2.o (i:=9) rfl
 have e1:=aA X3.o (i:=1) rfl
 have e2:=aA X3.o (i:=2) rfl
 have l2:=aC X2.o
 have l3:=aC X3.o
 have hs:=fun (W:World)=>(show Calls Tryz.prog 33 #[.int .i64 3] W fun e w'=>e=.returned (.tuple #[.string ⟨#[106,117,109,112]⟩,.int .i64 2])/\w'=W from aO 3 W)
 have q2:hsT 2 2=true:=by decide
 have q4:hsT 2 4=false:=by decide
 have q8:hsT 2 8=false:=by decide
 have q16:hsT 2 16=false:=by decide
 have q32:hsT 2 32=false:=by decide
 have q64:hsT 2 64=false:=by decide
 have EI:=fun W=>cC ⟨3,ix,iy,inn,imn,imx,iss⟩ j W
 simp only at EI
 have hF:bE p k ⟨3,ix,iy,inn,imn,imx,iss⟩=(decide ((⟨3,ix,iy,inn,imn,imx,iss⟩:Ins)=j)&&blw ix p.L.length):=by
  rw [hj]
  show (!(shW 3==[])&&decide ((⟨3,ix,iy,inn,imn,imx,iss⟩:Ins)=usI 2 ⟨3,ix,iy,inn,imn,imx,iss⟩)&&(!hsT 2 2||blw ix p.L.length)&&(!hsT 2 4||blw iy p.L.length)&&(!hsT 2 8||blw inn p.g)&&(!hsT 2 16||blw inn p.k)&&(!hsT 2 32||rbd imn imx)&&(!hsT 2 64||decide ((k:Int)+1<p.L.length)))=_
  rw [show (!(shW 3==[]))=true from rfl,q2,q4,q8,q16,q32,q64]
  simp
 have HF:=aD hF
 clear hF
 clear hj
 go_wp2_with (go_at_call 33;(with_reducible refine(hs _).mono ?_);rintro e w5 ⟨rfl,rfl⟩)
 refine wx9 ?_
 repeat (go_big_quiet_step (first | exact rfl | exact EI _ |(go_at_call 46;exact cE (hc _))))
 refine wpQuiet_nil ?_
 intro w6 hw6
 have hb6:=cZ hw6
 have B6:=aD (aF B2.o hb6 lz9)
 have y1:=(hb6.cell (p:=⟨w1.heap.size,1,none⟩) l2).trans d1
 have y2:=(hb6.cell (p:=⟨w1.heap.size,2,none⟩) l2).trans d2
 have y3:=(hb6.cell (p:=⟨w1.heap.size,3,none⟩) l2).trans d3
 have y4:=(hb6.cell (p:=⟨w1.heap.size,4,none⟩) l2).trans d4
 have y5:=(hb6.cell (p:=⟨w1.heap.size,5,none⟩) l2).trans d5
 have z1:=(hb6.cell (p:=⟨w.heap.size,1,none⟩) l3).trans e1
 have z2:=(hb6.cell (p:=⟨w.heap.size,2,none⟩) l3).trans e2
 clear hw6 hb6 d0 d1 d2 d3 d4 d5 d6 d7 d8 d9 e1 e2 hc EI hs
 obtain⟨r,hr⟩:∃ r,decide ((⟨3,ix,iy,inn,imn,imx,iss⟩:Ins)=j)=r:=⟨_,rfl⟩
 rw [hr] at HF ⊢
 clear hr hi
 have hw1:IntKind.wrap .i64 ((k:Int)+1)=(k:Int)+1:=wrap_small _ (by omega) (by omega)
 go_wp2_with first
  |(go_at_call 34;(with_reducible refine(aU _ _ _).mono ?_);rintro e w7 ⟨rfl,rfl⟩)
  |(go_at_call 23;(with_reducible refine(bT _ _ _).mono ?_);rintro e w7 ⟨rfl,rfl⟩)
  |(go_at_call 47;(with_reducible refine(cT _ _ _).mono ?_);rintro e w7 ⟨rfl,rfl⟩)
 all_goals go_ret
 all_goals
  refine⟨?_,B6.o⟩
  rw [HF.o]
  first | rfl | simp_all
theorem aJ0{w:World}{p:Pg}(h:PgI w p){k:Nat}{i:Ins}(hi:p.L[k]?=some i)(hk:p.L.length<=40000)(ho:i.op=4) :
  Calls Tryz.prog 24 #[.agg #[.slice p.q p.L.length p.c,.int .i64 p.g,.int .i64 p.k,.bool p.f],.int .i64 (k:Int)] w (RaP p k i w):=by
 have B1:Hid (wBl w (w.alloc (.cells #[.slice p.q p.L.length p.c,.int .i64 p.g,.int .i64 p.k,.bool p.f] 24))):=bz9
 have n1:=aE w (.cells #[.slice p.q p.L.length p.c,.int .i64 p.g,.int .i64 p.k,.bool p.f] 24)
 have p0:(w.alloc (.cells #[.slice p.q p.L.length p.c,.int .i64 p.g,.int .i64 p.k,.bool p.f] 24)).cell? ⟨w.heap.size,0,none⟩=some (.slice p.q p.L.length p.c):=aA n1 (i:=0) rfl
 have X1:Hid ((w.alloc (.cells #[.slice p.q p.L.length p.c,.int .i64 p.g,.int .i64 p.k,.bool p.f] 24)).heap[w.heap.size]?=some (.cells #[.slice p.q p.L.length p.c,.int .i64 p.g,.int .i64 p.k,.bool p.f] 24 (0,0))):=n1
 obtain⟨g1,o1,hq1,hl1,c0,c1,c2,c3,c4,c5,c6,c7,c8,c9⟩:=(h.li.kept B1.o).ten hi
 have hlt:=(g7.1 hi).1
 have i0:(k:Int)<(p.L.length:Int):=by omega
 have Q1:=aD hq1
 have HO:=aD ho
 clear hq1 n1 ho
 go_enter Tryz.func24,Tryz.ntmps24
 go_upto_region 1 with fail
 generalize (w.alloc (.cells #[.slice p.q p.L.length p.c,.int .i64 p.g,.int .i64 p.k,.bool p.f] 24))=w1 at B1 p0 X1 hl1 c0 c1 c2 c3 c4 c5 c6 c7 c8 c9 ⊢
 rw [Q1.o] at p0
 have hl2:=aC X1.o
 go_region
 clear p0 c0 c1 c2 c3 c4 c5 c6 c7 c8 c9 hl1
 have B2:Hid (wBl w (w1.alloc (.cells #[.int .i64 i.op,.int .i64 i.x,.int .i64 i.y,.int .i64 i.n,.int .i64 i.mn,.int .i64 i.mx,.int .u64 (aB i.s 0),.int .u64 (aB i.s 1),.int .u64 (aB i.s 2),.int .u64 (aB i.s 3)] 54)).drew):=(aF B1.o (bz9) lz9).drew
 have X2:Hid ((w1.alloc (.cells #[.int .i64 i.op,.int .i64 i.x,.int .i64 i.y,.int .i64 i.n,.int .i64 i.mn,.int .i64 i.mx,.int .u64 (aB i.s 0),.int .u64 (aB i.s 1),.int .u64 (aB i.s 2),.int .u64 (aB i.s 3)] 54)).drew.heap[w1.heap.size]?=some (.cells #[.int .i64 i.op,.int .i64 i.x,.int .i64 i.y,.int .i64 i.n,.int .i64 i.mn,.int .i64 i.mx,.int .u64 (aB i.s 0),.int .u64 (aB i.s 1),.int .u64 (aB i.s 2),.int .u64 (aB i.s 3)] 54 (0,0))):=aE w1 _
 have X3:Hid ((w1.alloc (.cells #[.int .i64 i.op,.int .i64 i.x,.int .i64 i.y,.int .i64 i.n,.int .i64 i.mn,.int .i64 i.mx,.int .u64 (aB i.s 0),.int .u64 (aB i.s 1),.int .u64 (aB i.s 2),.int .u64 (aB i.s 3)] 54)).drew.heap[w.heap.size]?=some (.cells #[.slice p.q p.L.length p.c,.int .i64 p.g,.int .i64 p.k,.bool p.f] 24 (0,0))):=(Below.heap_alloc _ _ _ hl2).trans X1.o
 generalize (w1.alloc (.cells #[.int .i64 i.op,.int .i64 i.x,.int .i64 i.y,.int .i64 i.n,.int .i64 i.mn,.int .i64 i.mx,.int .u64 (aB i.s 0),.int .u64 (aB i.s 1),.int .u64 (aB i.s 2),.int .u64 (aB i.s 3)] 54)).drew=w2 at B2 X2 X3 ⊢
 obtain⟨j,hj⟩:∃ j,j=usI 64 i:=⟨_,rfl⟩
 have hc:=fun x:Ext w2=>cS (t:=64) (by decide) hj x
 obtain⟨io,ix,iy,inn,imn,imx,iss⟩:=i
 simp only at HO X2 hc hj ⊢
 obtain rfl:=HO.o
 have d0:=aA X2.o (i:=0) rfl
 have d1:=aA X2.o (i:=1) rfl
 have d2:=aA X2.o (i:=2) rfl
 have d3:=aA X2.o (i:=3) rfl
 have d4:=aA X2.o (i:=4) rfl
 have d5:=aA X2.o (i:=5) rfl
 have d6:=aA X2.o (i:=6) rfl
 have d7:=aA X2.o (i:=7) rfl
 have d8:=aA X2.o (i:=8) rfl
 have d9:=aA X2.o (i:=9) rfl
 have e1:=aA X3.o (i:=1) rfl
 have e2:=aA X3.o (i:=2) rfl
 have l2:=aC X2.o
 have l3:=aC X3.o
 have hs:=fun (W:World)=>(show Calls Tryz.prog 33 #[.int .i64 4] W fun e w'=>e=.returned (.tuple #[.string ⟨#[98,101,103,105,110]⟩,.int .i64 64])/\w'=W from aO 4 W)
 have q2:hsT 64 2=false:=by decide
 have q4:hsT 64 4=false:=by decide
 have q8:hsT 64 8=false:=by decide
 have q16:hsT 64 16=false:=by decide
 have q32:hsT 64 32=false:=by decide
 have q64:hsT 64 64=true:=by decide
 have EI:=fun W=>cC ⟨4,ix,iy,inn,imn,imx,iss⟩ j W
 simp only at EI
 have hF:bE p k ⟨4,ix,iy,inn,imn,imx,iss⟩=(decide ((⟨4,ix,iy,inn,imn,imx,iss⟩:Ins)=j)&&decide ((k:Int)+1<p.L.length)):=by
  rw [hj]
  show (!(shW 4==[])&&decide ((⟨4,ix,iy,inn,imn,imx,iss⟩:Ins)=usI 64 ⟨4,ix,iy,inn,imn,imx,iss⟩)&&(!hsT 64 2||blw ix p.L.length)&&(!hsT 64 4||blw iy p.L.length)&&(!hsT 64 8||blw inn p.g)&&(!hsT 64 16||blw inn p.k)&&(!hsT 64 32||rbd imn imx)&&(!hsT 64 64||decide ((k:Int)+1<p.L.length)))=_
  rw [show (!(shW 4==[]))=true from rfl,q2,q4,q8,q16,q32,q64]
  simp
 have HF:=aD hF
 clear hF
 clear hj
 go_wp2_with (go_at_call 33;(with_reducible refine(hs _).mono ?_);rintro e w5 ⟨rfl,rfl⟩)
 refine wx9 ?_
 repeat (go_big_quiet_step (first | exact rfl | exact EI _ |(go_at_call 46;exact cE (hc _))))
 refine wpQuiet_nil ?_
 intro w6 hw6
 have hb6:=cZ hw6
 have B6:=aD (aF B2.o hb6 lz9)
 have y1:=(hb6.cell (p:=⟨w1.heap.size,1,none⟩) l2).trans d1
 have y2:=(hb6.cell (p:=⟨w1.heap.size,2,none⟩) l2).trans d2
 have y3:=(hb6.cell (p:=⟨w1.heap.size,3,none⟩) l2).trans d3
 have y4:=(hb6.cell (p:=⟨w1.heap.size,4,none⟩) l2).trans d4
 have y5:=(hb6.cell (p:=⟨w1.heap.size,5,none⟩) l2).trans d5
 have z1:=(hb6.cell (p:=⟨w.heap.size,1,none⟩) l3).trans e1
 have z2:=(hb6.cell (p:=⟨w.heap.size,2,none⟩) l3).trans e2
 clear hw6 hb6 d0 d1 d2 d3 d4 d5 d6 d7 d8 d9 e1 e2 hc EI hs
 obtain⟨r,hr⟩:∃ r,decide ((⟨4,ix,iy,inn,imn,imx,iss⟩:Ins)=j)=r:=⟨_,rfl⟩
 rw [hr] at HF ⊢
 clear hr hi
 have hw1:IntKind.wrap .i64 ((k:Int)+1)=(k:Int)+1:=wrap_small _ (by omega) (by omega)
 go_wp2_with first
  |(go_at_call 34;(with_reducible refine(aU _ _ _).mono ?_);rintro e w7 ⟨rfl,rfl⟩)
  |(go_at_call 23;(with_reducible refine(bT _ _ _).mono ?_);rintro e w7 ⟨rfl,rfl⟩)
  |(go_at_call 47;(with_reducible refine(cT _ _ _).mono ?_);rintro e w7 ⟨rfl,rfl⟩)
 all_goals go_ret
 all_goals
  refine⟨?_,B6.o⟩
  rw [HF.o]
  first | rfl | simp_all
theorem aI9{w:World}{p:Pg}(h:PgI w p){k:Nat}{i:Ins}(hi:p.L[k]?=some i)(hk:p.L.length<=40000)(ho:i.op=5) :
  Calls Tryz.prog 24 #[.agg #[.slice p.q p.L.length p.c,.int .i64 p.g,.int .i64 p.k,.bool p.f],.int .i64 (k:Int)] w (RaP p k i w):=by
 have B1:Hid (wBl w (w.alloc (.cells #[.slice p.q p.L.length p.c,.int .i64 p.g,.int .i64 p.k,.bool p.f] 24))):=bz9
 have n1:=aE w (.cells #[.slice p.q p.L.length p.c,.int .i64 p.g,.int .i64 p.k,.bool p.f] 24)
 have p0:(w.alloc (.cells #[.slice p.q p.L.length p.c,.int .i64 p.g,.int .i64 p.k,.bool p.f] 24)).cell? ⟨w.heap.size,0,none⟩=some (.slice p.q p.L.length p.c):=aA n1 (i:=0) rfl
 have X1:Hid ((w.alloc (.cells #[.slice p.q p.L.length p.c,.int .i64 p.g,.int .i64 p.k,.bool p.f] 24)).heap[w.heap.size]?=some (.cells #[.slice p.q p.L.length p.c,.int .i64 p.g,.int .i64 p.k,.bool p.f] 24 (0,0))):=n1
 obtain⟨g1,o1,hq1,hl1,c0,c1,c2,c3,c4,c5,c6,c7,c8,c9⟩:=(h.li.kept B1.o).ten hi
 have hlt:=(g7.1 hi).1
 have i0:(k:Int)<(p.L.length:Int):=by omega
 have Q1:=aD hq1
 have HO:=aD ho
 clear hq1 n1 ho
 go_enter Tryz.func24,Tryz.ntmps24
 go_upto_region 1 with fail
 generalize (w.alloc (.cells #[.slice p.q p.L.length p.c,.int .i64 p.g,.int .i64 p.k,.bool p.f] 24))=w1 at B1 p0 X1 hl1 c0 c1 c2 c3 c4 c5 c6 c7 c8 c9 ⊢
 rw [Q1.o] at p0
 have hl2:=aC X1.o
 go_region
 clear p0 c0 c1 c2 c3 c4 c5 c6 c7 c8 c9 hl1
 have B2:Hid (wBl w (w1.alloc (.cells #[.int .i64 i.op,.int .i64 i.x,.int .i64 i.y,.int .i64 i.n,.int .i64 i.mn,.int .i64 i.mx,.int .u64 (aB i.s 0),.int .u64 (aB i.s 1),.int .u64 (aB i.s 2),.int .u64 (aB i.s 3)] 54)).drew):=(aF B1.o (bz9) lz9).drew
 have X2:Hid ((w1.alloc (.cells #[.int .i64 i.op,.int .i64 i.x,.int .i64 i.y,.int .i64 i.n,.int .i64 i.mn,.int .i64 i.mx,.int .u64 (aB i.s 0),.int .u64 (aB i.s 1),.int .u64 (aB i.s 2),.int .u64 (aB i.s 3)] 54)).drew.heap[w1.heap.size]?=some (.cells #[.int .i64 i.op,.int .i64 i.x,.int .i64 i.y,.int .i64 i.n,.int .i64 i.mn,.int .i64 i.mx,.int .u64 (aB i.s 0),.int .u64 (aB i.s 1),.int .u64 (aB i.s 2),.int .u64 (aB i.s 3)] 54 (0,0))):=aE w1 _
 have X3:Hid ((w1.alloc (.cells #[.int .i64 i.op,.int .i64 i.x,.int .i64 i.y,.int .i64 i.n,.int .i64 i.mn,.int .i64 i.mx,.int .u64 (aB i.s 0),.int .u64 (aB i.s 1),.int .u64 (aB i.s 2),.int .u64 (aB i.s 3)] 54)).drew.heap[w.heap.size]?=some (.cells #[.slice p.q p.L.length p.c,.int .i64 p.g,.int .i64 p.k,.bool p.f] 24 (0,0))):=(Below.heap_alloc _ _ _ hl2).trans X1.o
 generalize (w1.alloc (.cells #[.int .i64 i.op,.int .i64 i.x,.int .i64 i.y,.int .i64 i.n,.int .i64 i.mn,.int .i64 i.mx,.int .u64 (aB i.s 0),.int .u64 (aB i.s 1),.int .u64 (aB i.s 2),.int .u64 (aB i.s 3)] 54)).drew=w2 at B2 X2 X3 ⊢
 obtain⟨j,hj⟩:∃ j,j=usI 64 i:=⟨_,rfl⟩
 have hc:=fun x:Ext w2=>cS (t:=64) (by decide) hj x
 obtain⟨io,ix,iy,inn,imn,imx,iss⟩:=i
 simp only at HO X2 hc hj ⊢
 obtain rfl:=HO.o
 have d0:=aA X2.o (i:=0) rfl
 have d1:=aA X2.o (i:=1) rfl
 have d2:=aA X2.o (i:=2) rfl
 have d3:=aA X2.o (i:=3) rfl
 have d4:=aA X2.o (i:=4) rfl
 have d5:=aA X2.o (i:=5) rfl
 have d6:=aA X2.o (i:=6) rfl
 have d7:=aA X2.o (i:=7) rfl
 have d8:=aA X2.o (i:=8) rfl
 have d9:=aA X2.o (i:=9) rfl
 have e1:=aA X3.o (i:=1) rfl
 have e2:=aA X3.o (i:=2) rfl
 have l2:=aC X2.o
 have l3:=aC X3.o
 have hs:=fun (W:World)=>(show Calls Tryz.prog 33 #[.int .i64 5] W fun e w'=>e=.returned (.tuple #[.string ⟨#[101,110,100]⟩,.int .i64 64])/\w'=W from aO 5 W)
 have q2:hsT 64 2=false:=by decide
 have q4:hsT 64 4=false:=by decide
 have q8:hsT 64 8=false:=by decide
 have q16:hsT 64 16=false:=by decide
 have q32:hsT 64 32=false:=by decide
 have q64:hsT 64 64=true:=by decide
 have EI:=fun W=>cC ⟨5,ix,iy,inn,imn,imx,iss⟩ j W
 simp only at EI
 have hF:bE p k ⟨5,ix,iy,inn,imn,imx,iss⟩=(decide ((⟨5,ix,iy,inn,imn,imx,iss⟩:Ins)=j)&&decide ((k:Int)+1<p.L.length)):=by
  rw [hj]
  show (!(shW 5==[])&&decide ((⟨5,ix,iy,inn,imn,imx,iss⟩:Ins)=usI 64 ⟨5,ix,iy,inn,imn,imx,iss⟩)&&(!hsT 64 2||blw ix p.L.length)&&(!hsT 64 4||blw iy p.L.length)&&(!hsT 64 8||blw inn p.g)&&(!hsT 64 16||blw inn p.k)&&(!hsT 64 32||rbd imn imx)&&(!hsT 64 64||decide ((k:Int)+1<p.L.length)))=_
  rw [show (!(shW 5==[]))=true from rfl,q2,q4,q8,q16,q32,q64]
  simp
 have HF:=aD hF
 clear hF
 clear hj
 go_wp2_with (go_at_call 33;(with_reducible refine(hs _).mono ?_);rintro e w5 ⟨rfl,rfl⟩)
 refine wx9 ?_
 repeat (go_big_quiet_step (first | exact rfl | exact EI _ |(go_at_call 46;exact cE (hc _))))
 refine wpQuiet_nil ?_
 intro w6 hw6
 have hb6:=cZ hw6
 have B6:=aD (aF B2.o hb6 lz9)
 have y1:=(hb6.cell (p:=⟨w1.heap.size,1,none⟩) l2).trans d1
 have y2:=(hb6.cell (p:=⟨w1.heap.size,2,none⟩) l2).trans d2
 have y3:=(hb6.cell (p:=⟨w1.heap.size,3,none⟩) l2).trans d3
 have y4:=(hb6.cell (p:=⟨w1.heap.size,4,none⟩) l2).trans d4
 have y5:=(hb6.cell (p:=⟨w1.heap.size,5,none⟩) l2).trans d5
 have z1:=(hb6.cell (p:=⟨w.heap.size,1,none⟩) l3).trans e1
 have z2:=(hb6.cell (p:=⟨w.heap.size,2,none⟩) l3).trans e2
 clear hw6 hb6 d0 d1 d2 d3 d4 d5 d6 d7 d8 d9 e1 e2 hc EI hs
 obtain⟨r,hr⟩:∃ r,decide ((⟨5,ix,iy,inn,imn,imx,iss⟩:Ins)=j)=r:=⟨_,rfl⟩
 rw [hr] at HF ⊢
 clear hr hi
 have hw1:IntKind.wrap .i64 ((k:Int)+1)=(k:Int)+1:=wrap_small _ (by omega) (by omega)
 go_wp2_with first
  |(go_at_call 34;(with_reducible refine(aU _ _ _).mono ?_);rintro e w7 ⟨rfl,rfl⟩)
  |(go_at_call 23;(with_reducible refine(bT _ _ _).mono ?_);rintro e w7 ⟨rfl,rfl⟩)
  |(go_at_call 47;(with_reducible refine(cT _ _ _).mono ?_);rintro e w7 ⟨rfl,rfl⟩)
 all_goals go_ret
 all_goals
  refine⟨?_,B6.o⟩
  rw [HF.o]
  first | rfl | simp_all
theorem aI8{w:World}{p:Pg}(h:PgI w p){k:Nat}{i:Ins}(hi:p.L[k]?=some i)(hk:p.L.length<=40000)(ho:i.op=6) :
  Calls Tryz.prog 24 #[.agg #[.slice p.q p.L.length p.c,.int .i64 p.g,.int .i64 p.k,.bool p.f],.int .i64 (k:Int)] w (RaP p k i w):=by
 have B1:Hid (wBl w (w.alloc (.cells #[.slice p.q p.L.length p.c,.int .i64 p.g,.int .i64 p.k,.bool p.f] 24))):=bz9
 have n1:=aE w (.cells #[.slice p.q p.L.length p.c,.int .i64 p.g,.int .i64 p.k,.bool p.f] 24)
 have p0:(w.alloc (.cells #[.slice p.q p.L.length p.c,.int .i64 p.g,.int .i64 p.k,.bool p.f] 24)).cell? ⟨w.heap.size,0,none⟩=some (.slice p.q p.L.length p.c):=aA n1 (i:=0) rfl
 have X1:Hid ((w.alloc (.cells #[.slice p.q p.L.length p.c,.int .i64 p.g,.int .i64 p.k,.bool p.f] 24)).heap[w.heap.size]?=some (.cells #[.slice p.q p.L.length p.c,.int .i64 p.g,.int .i64 p.k,.bool p.f] 24 (0,0))):=n1
 obtain⟨g1,o1,hq1,hl1,c0,c1,c2,c3,c4,c5,c6,c7,c8,c9⟩:=(h.li.kept B1.o).ten hi
 have hlt:=(g7.1 hi).1
 have i0:(k:Int)<(p.L.length:Int):=by omega
 have Q1:=aD hq1
 have HO:=aD ho
 clear hq1 n1 ho
 go_enter Tryz.func24,Tryz.ntmps24
 go_upto_region 1 with fail
 generalize (w.alloc (.cells #[.slice p.q p.L.length p.c,.int .i64 p.g,.int .i64 p.k,.bool p.f] 24))=w1 at B1 p0 X1 hl1 c0 c1 c2 c3 c4 c5 c6 c7 c8 c9 ⊢
 rw [Q1.o] at p0
 have hl2:=aC X1.o
 go_region
 clear p0 c0 c1 c2 c3 c4 c5 c6 c7 c8 c9 hl1
 have B2:Hid (wBl w (w1.alloc (.cells #[.int .i64 i.op,.int .i64 i.x,.int .i64 i.y,.int .i64 i.n,.int .i64 i.mn,.int .i64 i.mx,.int .u64 (aB i.s 0),.int .u64 (aB i.s 1),.int .u64 (aB i.s 2),.int .u64 (aB i.s 3)] 54)).drew):=(aF B1.o (bz9) lz9).drew
 have X2:Hid ((w1.alloc (.cells #[.int .i64 i.op,.int .i64 i.x,.int .i64 i.y,.int .i64 i.n,.int .i64 i.mn,.int .i64 i.mx,.int .u64 (aB i.s 0),.int .u64 (aB i.s 1),.int .u64 (aB i.s 2),.int .u64 (aB i.s 3)] 54)).drew.heap[w1.heap.size]?=some (.cells #[.int .i64 i.op,.int .i64 i.x,.int .i64 i.y,.int .i64 i.n,.int .i64 i.mn,.int .i64 i.mx,.int .u64 (aB i.s 0),.int .u64 (aB i.s 1),.int .u64 (aB i.s 2),.int .u64 (aB i.s 3)] 54 (0,0))):=aE w1 _
 have X3:Hid ((w1.alloc (.cells #[.int .i64 i.op,.int .i64 i.x,.int .i64 i.y,.int .i64 i.n,.int .i64 i.mn,.int .i64 i.mx,.int .u64 (aB i.s 0),.int .u64 (aB i.s 1),.int .u64 (aB i.s 2),.int .u64 (aB i.s 3)] 54)).drew.heap[w.heap.size]?=some (.cells #[.slice p.q p.L.length p.c,.int .i64 p.g,.int .i64 p.k,.bool p.f] 24 (0,0))):=(Below.heap_alloc _ _ _ hl2).trans X1.o
 generalize (w1.alloc (.cells #[.int .i64 i.op,.int .i64 i.x,.int .i64 i.y,.int .i64 i.n,.int .i64 i.mn,.int .i64 i.mx,.int .u64 (aB i.s 0),.int .u64 (aB i.s 1),.int .u64 (aB i.s 2),.int .u64 (aB i.s 3)] 54)).drew=w2 at B2 X2 X3 ⊢
 obtain⟨j,hj⟩:∃ j,j=usI 72 i:=⟨_,rfl⟩
 have hc:=fun x:Ext w2=>cS (t:=72) (by decide) hj x
 obtain⟨io,ix,iy,inn,imn,imx,iss⟩:=i
 simp only at HO X2 hc hj ⊢
 obtain rfl:=HO.o
 have d0:=aA X2.o (i:=0) rfl
 have d1:=aA X2.o (i:=1) rfl
 have d2:=aA X2.o (i:=2) rfl
 have d3:=aA X2.o (i:=3) rfl
 have d4:=aA X2.o (i:=4) rfl
 have d5:=aA X2.o (i:=5) rfl
 have d6:=aA X2.o (i:=6) rfl
 have d7:=aA X2.o (i:=7) rfl
 have d8:=aA X2.o (i:=8) rfl
 have d9:=aA X2.o (i:=9) rfl
 have e1:=aA X3.o (i:=1) rfl
 have e2:=aA X3.o (i:=2) rfl
 have l2:=aC X2.o
 have l3:=aC X3.o
 have hs:=fun (W:World)=>(show Calls Tryz.prog 33 #[.int .i64 6] W fun e w'=>e=.returned (.tuple #[.string ⟨#[111,112,101,110]⟩,.int .i64 72])/\w'=W from aO 6 W)
 have q2:hsT 72 2=false:=by decide
 have q4:hsT 72 4=false:=by decide
 have q8:hsT 72 8=true:=by decide
 have q16:hsT 72 16=false:=by decide
 have q32:hsT 72 32=false:=by decide
 have q64:hsT 72 64=true:=by decide
 have EI:=fun W=>cC ⟨6,ix,iy,inn,imn,imx,iss⟩ j W
 simp only at EI
 have hF:bE p k ⟨6,ix,iy,inn,imn,imx,iss⟩=(decide ((⟨6,ix,iy,inn,imn,imx,iss⟩:Ins)=j)&&blw inn p.g&&decide ((k:Int)+1<p.L.length)):=by
  rw [hj]
  show (!(shW 6==[])&&decide ((⟨6,ix,iy,inn,imn,imx,iss⟩:Ins)=usI 72 ⟨6,ix,iy,inn,imn,imx,iss⟩)&&(!hsT 72 2||blw ix p.L.length)&&(!hsT 72 4||blw iy p.L.length)&&(!hsT 72 8||blw inn p.g)&&(!hsT 72 16||blw inn p.k)&&(!hsT 72 32||rbd imn imx)&&(!hsT 72 64||decide ((k:Int)+1<p.L.length)))=_
  rw [show (!(shW 6==[]))=true from rfl,q2,q4,q8,q16,q32,q64]
  simp
 have HF:=aD hF
 clear hF
 clear hj
 go_wp2_with (go_at_call 33;(with_reducible refine(hs _).mono ?_);rintro e w5 ⟨rfl,rfl⟩)
 refine wx9 ?_
 repeat (go_big_quiet_step (first | exact rfl | exact EI _ |(go_at_call 46;exact cE (hc _))))
 refine wpQuiet_nil ?_
 intro w6 hw6
 have hb6:=cZ hw6
 have B6:=aD (aF B2.o hb6 lz9)
 have y1:=(hb6.cell (p:=⟨w1.heap.size,1,none⟩) l2).trans d1
 have y2:=(hb6.cell (p:=⟨w1.heap.size,2,none⟩) l2).trans d2
 have y3:=(hb6.cell (p:=⟨w1.heap.size,3,none⟩) l2).trans d3
 have y4:=(hb6.cell (p:=⟨w1.heap.size,4,none⟩) l2).trans d4
 have y5:=(hb6.cell (p:=⟨w1.heap.size,5,none⟩) l2).trans d5
 have z1:=(hb6.cell (p:=⟨w.heap.size,1,none⟩) l3).trans e1
 have z2:=(hb6.cell (p:=⟨w.heap.size,2,none⟩) l3).trans e2
 clear hw6 hb6 d0 d1 d2 d3 d4 d5 d6 d7 d8 d9 e1 e2 hc EI hs
 obtain⟨r,hr⟩:∃ r,decide ((⟨6,ix,iy,inn,imn,imx,iss⟩:Ins)=j)=r:=⟨_,rfl⟩
 rw [hr] at HF ⊢
 clear hr hi
 have hw1:IntKind.wrap .i64 ((k:Int)+1)=(k:Int)+1:=wrap_small _ (by omega) (by omega)
 go_wp2_with first
  |(go_at_call 34;(with_reducible refine(aU _ _ _).mono ?_);rintro e w7 ⟨rfl,rfl⟩)
  |(go_at_call 23;(with_reducible refine(bT _ _ _).mono ?_);rintro e w7 ⟨rfl,rfl⟩)
  |(go_at_call 47;(with_reducible refine(cT _ _ _).mono ?_);rintro e w7 ⟨rfl,rfl⟩)
 all_goals go_ret
 all_goals
  refine⟨?_,B6.o⟩
  rw [HF.o]
  first | rfl | simp_all
theorem aI7{w:World}{p:Pg}(h:PgI w p){k:Nat}{i:Ins}(hi:p.L[k]?=some i)(hk:p.L.length<=40000)(ho:i.op=7) :
  Calls Tryz.prog 24 #[.agg #[.slice p.q p.L.length p.c,.int .i64 p.g,.int .i64 p.k,.bool p.f],.int .i64 (k:Int)] w (RaP p k i w):=by
 have B1:Hid (wBl w (w.alloc (.cells #[.slice p.q p.L.length p.c,.int .i64 p.g,.int .i64 p.k,.bool p.f] 24))):=bz9
 have n1:=aE w (.cells #[.slice p.q p.L.length p.c,.int .i64 p.g,.int .i64 p.k,.bool p.f] 24)
 have p0:(w.alloc (.cells #[.slice p.q p.L.length p.c,.int .i64 p.g,.int .i64 p.k,.bool p.f] 24)).cell? ⟨w.heap.size,0,none⟩=some (.slice p.q p.L.length p.c):=aA n1 (i:=0) rfl
 have X1:Hid ((w.alloc (.cells #[.slice p.q p.L.length p.c,.int .i64 p.g,.int .i64 p.k,.bool p.f] 24)).heap[w.heap.size]?=some (.cells #[.slice p.q p.L.length p.c,.int .i64 p.g,.int .i64 p.k,.bool p.f] 24 (0,0))):=n1
 obtain⟨g1,o1,hq1,hl1,c0,c1,c2,c3,c4,c5,c6,c7,c8,c9⟩:=(h.li.kept B1.o).ten hi
 have hlt:=(g7.1 hi).1
 have i0:(k:Int)<(p.L.length:Int):=by omega
 have Q1:=aD hq1
 have HO:=aD ho
 clear hq1 n1 ho
 go_enter Tryz.func24,Tryz.ntmps24
 go_upto_region 1 with fail
 generalize (w.alloc (.cells #[.slice p.q p.L.length p.c,.int .i64 p.g,.int .i64 p.k,.bool p.f] 24))=w1 at B1 p0 X1 hl1 c0 c1 c2 c3 c4 c5 c6 c7 c8 c9 ⊢
 rw [Q1.o] at p0
 have hl2:=aC X1.o
 go_region
 clear p0 c0 c1 c2 c3 c4 c5 c6 c7 c8 c9 hl1
 have B2:Hid (wBl w (w1.alloc (.cells #[.int .i64 i.op,.int .i64 i.x,.int .i64 i.y,.int .i64 i.n,.int .i64 i.mn,.int .i64 i.mx,.int .u64 (aB i.s 0),.int .u64 (aB i.s 1),.int .u64 (aB i.s 2),.int .u64 (aB i.s 3)] 54)).drew):=(aF B1.o (bz9) lz9).drew
 have X2:Hid ((w1.alloc (.cells #[.int .i64 i.op,.int .i64 i.x,.int .i64 i.y,.int .i64 i.n,.int .i64 i.mn,.int .i64 i.mx,.int .u64 (aB i.s 0),.int .u64 (aB i.s 1),.int .u64 (aB i.s 2),.int .u64 (aB i.s 3)] 54)).drew.heap[w1.heap.size]?=some (.cells #[.int .i64 i.op,.int .i64 i.x,.int .i64 i.y,.int .i64 i.n,.int .i64 i.mn,.int .i64 i.mx,.int .u64 (aB i.s 0),.int .u64 (aB i.s 1),.int .u64 (aB i.s 2),.int .u64 (aB i.s 3)] 54 (0,0))):=aE w1 _
 have X3:Hid ((w1.alloc (.cells #[.int .i64 i.op,.int .i64 i.x,.int .i64 i.y,.int .i64 i.n,.int .i64 i.mn,.int .i64 i.mx,.int .u64 (aB i.s 0),.int .u64 (aB i.s 1),.int .u64 (aB i.s 2),.int .u64 (aB i.s 3)] 54)).drew.heap[w.heap.size]?=some (.cells #[.slice p.q p.L.length p.c,.int .i64 p.g,.int .i64 p.k,.bool p.f] 24 (0,0))):=(Below.heap_alloc _ _ _ hl2).trans X1.o
 generalize (w1.alloc (.cells #[.int .i64 i.op,.int .i64 i.x,.int .i64 i.y,.int .i64 i.n,.int .i64 i.mn,.int .i64 i.mx,.int .u64 (aB i.s 0),.int .u64 (aB i.s 1),.int .u64 (aB i.s 2),.int .u64 (aB i.s 3)] 54)).drew=w2 at B2 X2 X3 ⊢
 obtain⟨j,hj⟩:∃ j,j=usI 72 i:=⟨_,rfl⟩
 have hc:=fun x:Ext w2=>cS (t:=72) (by decide) hj x
 obtain⟨io,ix,iy,inn,imn,imx,iss⟩:=i
 simp only at HO X2 hc hj ⊢
 obtain rfl:=HO.o
 have d0:=aA X2.o (i:=0) rfl
 have d1:=aA X2.o (i:=1) rfl
 have d2:=aA X2.o (i:=2) rfl
 have d3:=aA X2.o (i:=3) rfl
 have d4:=aA X2.o (i:=4) rfl
 have d5:=aA X2.o (i:=5) rfl
 have d6:=aA X2.o (i:=6) rfl
 have d7:=aA X2.o (i:=7) rfl
 have d8:=aA X2.o (i:=8) rfl
 have d9:=aA X2.o (i:=9) rfl
 have e1:=aA X3.o (i:=1) rfl
 have e2:=aA X3.o (i:=2) rfl
 have l2:=aC X2.o
 have l3:=aC X3.o
 have hs:=fun (W:World)=>(show Calls Tryz.prog 33 #[.int .i64 7] W fun e w'=>e=.returned (.tuple #[.string ⟨#[99,108,111,115,101]⟩,.int .i64 72])/\w'=W from aO 7 W)
 have q2:hsT 72 2=false:=by decide
 have q4:hsT 72 4=false:=by decide
 have q8:hsT 72 8=true:=by decide
 have q16:hsT 72 16=false:=by decide
 have q32:hsT 72 32=false:=by decide
 have q64:hsT 72 64=true:=by decide
 have EI:=fun W=>cC ⟨7,ix,iy,inn,imn,imx,iss⟩ j W
 simp only at EI
 have hF:bE p k ⟨7,ix,iy,inn,imn,imx,iss⟩=(decide ((⟨7,ix,iy,inn,imn,imx,iss⟩:Ins)=j)&&blw inn p.g&&decide ((k:Int)+1<p.L.length)):=by
  rw [hj]
  show (!(shW 7==[])&&decide ((⟨7,ix,iy,inn,imn,imx,iss⟩:Ins)=usI 72 ⟨7,ix,iy,inn,imn,imx,iss⟩)&&(!hsT 72 2||blw ix p.L.length)&&(!hsT 72 4||blw iy p.L.length)&&(!hsT 72 8||blw inn p.g)&&(!hsT 72 16||blw inn p.k)&&(!hsT 72 32||rbd imn imx)&&(!hsT 72 64||decide ((k:Int)+1<p.L.length)))=_
  rw [show (!(shW 7==[]))=true from rfl,q2,q4,q8,q16,q32,q64]
  simp
 have HF:=aD hF
 clear hF
 clear hj
 go_wp2_with (go_at_call 33;(with_reducible refine(hs _).mono ?_);rintro e w5 ⟨rfl,rfl⟩)
 refine wx9 ?_
 repeat (go_big_quiet_step (first | exact rfl | exact EI _ |(go_at_call 46;exact cE (hc _))))
 refine wpQuiet_nil ?_
 intro w6 hw6
 have hb6:=cZ hw6
 have B6:=aD (aF B2.o hb6 lz9)
 have y1:=(hb6.cell (p:=⟨w1.heap.size,1,none⟩) l2).trans d1
 have y2:=(hb6.cell (p:=⟨w1.heap.size,2,none⟩) l2).trans d2
 have y3:=(hb6.cell (p:=⟨w1.heap.size,3,none⟩) l2).trans d3
 have y4:=(hb6.cell (p:=⟨w1.heap.size,4,none⟩) l2).trans d4
 have y5:=(hb6.cell (p:=⟨w1.heap.size,5,none⟩) l2).trans d5
 have z1:=(hb6.cell (p:=⟨w.heap.size,1,none⟩) l3).trans e1
 have z2:=(hb6.cell (p:=⟨w.heap.size,2,none⟩) l3).trans e2
 clear hw6 hb6 d0 d1 d2 d3 d4 d5 d6 d7 d8 d9 e1 e2 hc EI hs
 obtain⟨r,hr⟩:∃ r,decide ((⟨7,ix,iy,inn,imn,imx,iss⟩:Ins)=j)=r:=⟨_,rfl⟩
 rw [hr] at HF ⊢
 clear hr hi
 have hw1:IntKind.wrap .i64 ((k:Int)+1)=(k:Int)+1:=wrap_small _ (by omega) (by omega)
 go_wp2_with first
  |(go_at_call 34;(with_reducible refine(aU _ _ _).mono ?_);rintro e w7 ⟨rfl,rfl⟩)
  |(go_at_call 23;(with_reducible refine(bT _ _ _).mono ?_);rintro e w7 ⟨rfl,rfl⟩)
  |(go_at_call 47;(with_reducible refine(cT _ _ _).mono ?_);rintro e w7 ⟨rfl,rfl⟩)
 all_goals go_ret
 all_goals
  refine⟨?_,B6.o⟩
  rw [HF.o]
  first | rfl | simp_all
theorem aI6{w:World}{p:Pg}(h:PgI w p){k:Nat}{i:Ins}(hi:p.L[k]?=some i)(hk:p.L.length<=40000)(ho:i.op=8) :
  Calls Tryz.prog 24 #[.agg #[.slice p.q p.L.length p.c,.int .i64 p.g,.int .i64 p.k,.bool p.f],.int .i64 (k:Int)] w (RaP p k i w):=by
 have B1:Hid (wBl w (w.alloc (.cells #[.slice p.q p.L.length p.c,.int .i64 p.g,.int .i64 p.k,.bool p.f] 24))):=bz9
 have n1:=aE w (.cells #[.slice p.q p.L.length p.c,.int .i64 p.g,.int .i64 p.k,.bool p.f] 24)
 have p0:(w.alloc (.cells #[.slice p.q p.L.length p.c,.int .i64 p.g,.int .i64 p.k,.bool p.f] 24)).cell? ⟨w.heap.size,0,none⟩=some (.slice p.q p.L.length p.c):=aA n1 (i:=0) rfl
 have X1:Hid ((w.alloc (.cells #[.slice p.q p.L.length p.c,.int .i64 p.g,.int .i64 p.k,.bool p.f] 24)).heap[w.heap.size]?=some (.cells #[.slice p.q p.L.length p.c,.int .i64 p.g,.int .i64 p.k,.bool p.f] 24 (0,0))):=n1
 obtain⟨g1,o1,hq1,hl1,c0,c1,c2,c3,c4,c5,c6,c7,c8,c9⟩:=(h.li.kept B1.o).ten hi
 have hlt:=(g7.1 hi).1
 have i0:(k:Int)<(p.L.length:Int):=by omega
 have Q1:=aD hq1
 have HO:=aD ho
 clear hq1 n1 ho
 go_enter Tryz.func24,Tryz.ntmps24
 go_upto_region 1 with fail
 generalize (w.alloc (.cells #[.slice p.q p.L.length p.c,.int .i64 p.g,.int .i64 p.k,.bool p.f] 24))=w1 at B1 p0 X1 hl1 c0 c1 c2 c3 c4 c5 c6 c7 c8 c9 ⊢
 rw [Q1.o] at p0
 have hl2:=aC X1.o
 go_region
 clear p0 c0 c1 c2 c3 c4 c5 c6 c7 c8 c9 hl1
 have B2:Hid (wBl w (w1.alloc (.cells #[.int .i64 i.op,.int .i64 i.x,.int .i64 i.y,.int .i64 i.n,.int .i64 i.mn,.int .i64 i.mx,.int .u64 (aB i.s 0),.int .u64 (aB i.s 1),.int .u64 (aB i.s 2),.int .u64 (aB i.s 3)] 54)).drew):=(aF B1.o (bz9) lz9).drew
 have X2:Hid ((w1.alloc (.cells #[.int .i64 i.op,.int .i64 i.x,.int .i64 i.y,.int .i64 i.n,.int .i64 i.mn,.int .i64 i.mx,.int .u64 (aB i.s 0),.int .u64 (aB i.s 1),.int .u64 (aB i.s 2),.int .u64 (aB i.s 3)] 54)).drew.heap[w1.heap.size]?=some (.cells #[.int .i64 i.op,.int .i64 i.x,.int .i64 i.y,.int .i64 i.n,.int .i64 i.mn,.int .i64 i.mx,.int .u64 (aB i.s 0),.int .u64 (aB i.s 1),.int .u64 (aB i.s 2),.int .u64 (aB i.s 3)] 54 (0,0))):=aE w1 _
 have X3:Hid ((w1.alloc (.cells #[.int .i64 i.op,.int .i64 i.x,.int .i64 i.y,.int .i64 i.n,.int .i64 i.mn,.int .i64 i.mx,.int .u64 (aB i.s 0),.int .u64 (aB i.s 1),.int .u64 (aB i.s 2),.int .u64 (aB i.s 3)] 54)).drew.heap[w.heap.size]?=some (.cells #[.slice p.q p.L.length p.c,.int .i64 p.g,.int .i64 p.k,.bool p.f] 24 (0,0))):=(Below.heap_alloc _ _ _ hl2).trans X1.o
 generalize (w1.alloc (.cells #[.int .i64 i.op,.int .i64 i.x,.int .i64 i.y,.int .i64 i.n,.int .i64 i.mn,.int .i64 i.mx,.int .u64 (aB i.s 0),.int .u64 (aB i.s 1),.int .u64 (aB i.s 2),.int .u64 (aB i.s 3)] 54)).drew=w2 at B2 X2 X3 ⊢
 obtain⟨j,hj⟩:∃ j,j=usI 72 i:=⟨_,rfl⟩
 have hc:=fun x:Ext w2=>cS (t:=72) (by decide) hj x
 obtain⟨io,ix,iy,inn,imn,imx,iss⟩:=i
 simp only at HO X2 hc hj ⊢
 obtain rfl:=HO.o
 have d0:=aA X2.o (i:=0) rfl
 have d1:=aA X2.o (i:=1) rfl
 have d2:=aA X2.o (i:=2) rfl
 have d3:=aA X2.o (i:=3) rfl
 have d4:=aA X2.o (i:=4) rfl
 have d5:=aA X2.o (i:=5) rfl
 have d6:=aA X2.o (i:=6) rfl
 have d7:=aA X2.o (i:=7) rfl
 have d8:=aA X2.o (i:=8) rfl
 have d9:=aA X2.o (i:=9) rfl
 have e1:=aA X3.o (i:=1) rfl
 have e2:=aA X3.o (i:=2) rfl
 have l2:=aC X2.o
 have l3:=aC X3.o
 have hs:=fun (W:World)=>(show Calls Tryz.prog 33 #[.int .i64 8] W fun e w'=>e=.returned (.tuple #[.string ⟨#[98,97,99,107]⟩,.int .i64 72])/\w'=W from aO 8 W)
 have q2:hsT 72 2=false:=by decide
 have q4:hsT 72 4=false:=by decide
 have q8:hsT 72 8=true:=by decide
 have q16:hsT 72 16=false:=by decide
 have q32:hsT 72 32=false:=by decide
 have q64:hsT 72 64=true:=by decide
 have EI:=fun W=>cC ⟨8,ix,iy,inn,imn,imx,iss⟩ j W
 simp only at EI
 have hF:bE p k ⟨8,ix,iy,inn,imn,imx,iss⟩=(decide ((⟨8,ix,iy,inn,imn,imx,iss⟩:Ins)=j)&&blw inn p.g&&decide ((k:Int)+1<p.L.length)):=by
  rw [hj]
  show (!(shW 8==[])&&decide ((⟨8,ix,iy,inn,imn,imx,iss⟩:Ins)=usI 72 ⟨8,ix,iy,inn,imn,imx,iss⟩)&&(!hsT 72 2||blw ix p.L.length)&&(!hsT 72 4||blw iy p.L.length)&&(!hsT 72 8||blw inn p.g)&&(!hsT 72 16||blw inn p.k)&&(!hsT 72 32||rbd imn imx)&&(!hsT 72 64||decide ((k:Int)+1<p.L.length)))=_
  rw [show (!(shW 8==[]))=true from rfl,q2,q4,q8,q16,q32,q64]
  simp
 have HF:=aD hF
 clear hF
 clear hj
 go_wp2_with (go_at_call 33;(with_reducible refine(hs _).mono ?_);rintro e w5 ⟨rfl,rfl⟩)
 refine wx9 ?_
 repeat (go_big_quiet_step (first | exact rfl | exact EI _ |(go_at_call 46;exact cE (hc _))))
 refine wpQuiet_nil ?_
 intro w6 hw6
 have hb6:=cZ hw6
 have B6:=aD (aF B2.o hb6 lz9)
 have y1:=(hb6.cell (p:=⟨w1.heap.size,1,none⟩) l2).trans d1
 have y2:=(hb6.cell (p:=⟨w1.heap.size,2,none⟩) l2).trans d2
 have y3:=(hb6.cell (p:=⟨w1.heap.size,3,none⟩) l2).trans d3
 have y4:=(hb6.cell (p:=⟨w1.heap.size,4,none⟩) l2).trans d4
 have y5:=(hb6.cell (p:=⟨w1.heap.size,5,none⟩) l2).trans d5
 have z1:=(hb6.cell (p:=⟨w.heap.size,1,none⟩) l3).trans e1
 have z2:=(hb6.cell (p:=⟨w.heap.size,2,none⟩) l3).trans e2
 clear hw6 hb6 d0 d1 d2 d3 d4 d5 d6 d7 d8 d9 e1 e2 hc EI hs
 obtain⟨r,hr⟩:∃ r,decide ((⟨8,ix,iy,inn,imn,imx,iss⟩:Ins)=j)=r:=⟨_,rfl⟩
 rw [hr] at HF ⊢
 clear hr hi
 have hw1:IntKind.wrap .i64 ((k:Int)+1)=(k:Int)+1:=wrap_small _ (by omega) (by omega)
 go_wp2_with first
  |(go_at_call 34;(with_reducible refine(aU _ _ _).mono ?_);rintro e w7 ⟨rfl,rfl⟩)
  |(go_at_call 23;(with_reducible refine(bT _ _ _).mono ?_);rintro e w7 ⟨rfl,rfl⟩)
  |(go_at_call 47;(with_reducible refine(cT _ _ _).mono ?_);rintro e w7 ⟨rfl,rfl⟩)
 all_goals go_ret
 all_goals
  refine⟨?_,B6.o⟩
  rw [HF.o]
  first | rfl | simp_all
theorem aI5{w:World}{p:Pg}(h:PgI w p){k:Nat}{i:Ins}(hi:p.L[k]?=some i)(hk:p.L.length<=40000)(ho:i.op=9) :
  Calls Tryz.prog 24 #[.agg #[.slice p.q p.L.length p.c,.int .i64 p.g,.int .i64 p.k,.bool p.f],.int .i64 (k:Int)] w (RaP p k i w):=by
 have B1:Hid (wBl w (w.alloc (.cells #[.slice p.q p.L.length p.c,.int .i64 p.g,.int .i64 p.k,.bool p.f] 24))):=bz9
 have n1:=aE w (.cells #[.slice p.q p.L.length p.c,.int .i64 p.g,.int .i64 p.k,.bool p.f] 24)
 have p0:(w.alloc (.cells #[.slice p.q p.L.length p.c,.int .i64 p.g,.int .i64 p.k,.bool p.f] 24)).cell? ⟨w.heap.size,0,none⟩=some (.slice p.q p.L.length p.c):=aA n1 (i:=0) rfl
 have X1:Hid ((w.alloc (.cells #[.slice p.q p.L.length p.c,.int .i64 p.g,.int .i64 p.k,.bool p.f] 24)).heap[w.heap.size]?=some (.cells #[.slice p.q p.L.length p.c,.int .i64 p.g,.int .i64 p.k,.bool p.f] 24 (0,0))):=n1
 obtain⟨g1,o1,hq1,hl1,c0,c1,c2,c3,c4,c5,c6,c7,c8,c9⟩:=(h.li.kept B1.o).ten hi
 have hlt:=(g7.1 hi).1
 have i0:(k:Int)<(p.L.length:Int):=by omega
 have Q1:=aD hq1
 have HO:=aD ho
 clear hq1 n1 ho
 go_enter Tryz.func24,Tryz.ntmps24
 go_upto_region 1 with fail
 generalize (w.alloc (.cells #[.slice p.q p.L.length p.c,.int .i64 p.g,.int .i64 p.k,.bool p.f] 24))=w1 at B1 p0 X1 hl1 c0 c1 c2 c3 c4 c5 c6 c7 c8 c9 ⊢
 rw [Q1.o] at p0
 have hl2:=aC X1.o
 go_region
 clear p0 c0 c1 c2 c3 c4 c5 c6 c7 c8 c9 hl1
 have B2:Hid (wBl w (w1.alloc (.cells #[.int .i64 i.op,.int .i64 i.x,.int .i64 i.y,.int .i64 i.n,.int .i64 i.mn,.int .i64 i.mx,.int .u64 (aB i.s 0),.int .u64 (aB i.s 1),.int .u64 (aB i.s 2),.int .u64 (aB i.s 3)] 54)).drew):=(aF B1.o (bz9) lz9).drew
 have X2:Hid ((w1.alloc (.cells #[.int .i64 i.op,.int .i64 i.x,.int .i64 i.y,.int .i64 i.n,.int .i64 i.mn,.int .i64 i.mx,.int .u64 (aB i.s 0),.int .u64 (aB i.s 1),.int .u64 (aB i.s 2),.int .u64 (aB i.s 3)] 54)).drew.heap[w1.heap.size]?=some (.cells #[.int .i64 i.op,.int .i64 i.x,.int .i64 i.y,.int .i64 i.n,.int .i64 i.mn,.int .i64 i.mx,.int .u64 (aB i.s 0),.int .u64 (aB i.s 1),.int .u64 (aB i.s 2),.int .u64 (aB i.s 3)] 54 (0,0))):=aE w1 _
 have X3:Hid ((w1.alloc (.cells #[.int .i64 i.op,.int .i64 i.x,.int .i64 i.y,.int .i64 i.n,.int .i64 i.mn,.int .i64 i.mx,.int .u64 (aB i.s 0),.int .u64 (aB i.s 1),.int .u64 (aB i.s 2),.int .u64 (aB i.s 3)] 54)).drew.heap[w.heap.size]?=some (.cells #[.slice p.q p.L.length p.c,.int .i64 p.g,.int .i64 p.k,.bool p.f] 24 (0,0))):=(Below.heap_alloc _ _ _ hl2).trans X1.o
 generalize (w1.alloc (.cells #[.int .i64 i.op,.int .i64 i.x,.int .i64 i.y,.int .i64 i.n,.int .i64 i.mn,.int .i64 i.mx,.int .u64 (aB i.s 0),.int .u64 (aB i.s 1),.int .u64 (aB i.s 2),.int .u64 (aB i.s 3)] 54)).drew=w2 at B2 X2 X3 ⊢
 obtain⟨j,hj⟩:∃ j,j=usI 80 i:=⟨_,rfl⟩
 have hc:=fun x:Ext w2=>cS (t:=80) (by decide) hj x
 obtain⟨io,ix,iy,inn,imn,imx,iss⟩:=i
 simp only at HO X2 hc hj ⊢
 obtain rfl:=HO.o
 have d0:=aA X2.o (i:=0) rfl
 have d1:=aA X2.o (i:=1) rfl
 have d2:=aA X2.o (i:=2) rfl
 have d3:=aA X2.o (i:=3) rfl
 have d4:=aA X2.o (i:=4) rfl
 have d5:=aA X2.o (i:=5) rfl
 have d6:=aA X2.o (i:=6) rfl
 have d7:=aA X2.o (i:=7) rfl
 have d8:=aA X2.o (i:=8) rfl
 have d9:=aA X2.o (i:=9) rfl
 have e1:=aA X3.o (i:=1) rfl
 have e2:=aA X3.o (i:=2) rfl
 have l2:=aC X2.o
 have l3:=aC X3.o
 have hs:=fun (W:World)=>(show Calls Tryz.prog 33 #[.int .i64 9] W fun e w'=>e=.returned (.tuple #[.string ⟨#[122,101,114,111]⟩,.int .i64 80])/\w'=W from aO 9 W)
 have q2:hsT 80 2=false:=by decide
 have q4:hsT 80 4=false:=by decide
 have q8:hsT 80 8=false:=by decide
 have q16:hsT 80 16=true:=by decide
 have q32:hsT 80 32=false:=by decide
 have q64:hsT 80 64=true:=by decide
 have EI:=fun W=>cC ⟨9,ix,iy,inn,imn,imx,iss⟩ j W
 simp only at EI
 have hF:bE p k ⟨9,ix,iy,inn,imn,imx,iss⟩=(decide ((⟨9,ix,iy,inn,imn,imx,iss⟩:Ins)=j)&&blw inn p.k&&decide ((k:Int)+1<p.L.length)):=by
  rw [hj]
  show (!(shW 9==[])&&decide ((⟨9,ix,iy,inn,imn,imx,iss⟩:Ins)=usI 80 ⟨9,ix,iy,inn,imn,imx,iss⟩)&&(!hsT 80 2||blw ix p.L.length)&&(!hsT 80 4||blw iy p.L.length)&&(!hsT 80 8||blw inn p.g)&&(!hsT 80 16||blw inn p.k)&&(!hsT 80 32||rbd imn imx)&&(!hsT 80 64||decide ((k:Int)+1<p.L.length)))=_
  rw [show (!(shW 9==[]))=true from rfl,q2,q4,q8,q16,q32,q64]
  simp
 have HF:=aD hF
 clear hF
 clear hj
 go_wp2_with (go_at_call 33;(with_reducible refine(hs _).mono ?_);rintro e w5 ⟨rfl,rfl⟩)
 refine wx9 ?_
 repeat (go_big_quiet_step (first | exact rfl | exact EI _ |(go_at_call 46;exact cE (hc _))))
 refine wpQuiet_nil ?_
 intro w6 hw6
 have hb6:=cZ hw6
 have B6:=aD (aF B2.o hb6 lz9)
 have y1:=(hb6.cell (p:=⟨w1.heap.size,1,none⟩) l2).trans d1
 have y2:=(hb6.cell (p:=⟨w1.heap.size,2,none⟩) l2).trans d2
 have y3:=(hb6.cell (p:=⟨w1.heap.size,3,none⟩) l2).trans d3
 have y4:=(hb6.cell (p:=⟨w1.heap.size,4,none⟩) l2).trans d4
 have y5:=(hb6.cell (p:=⟨w1.heap.size,5,none⟩) l2).trans d5
 have z1:=(hb6.cell (p:=⟨w.heap.size,1,none⟩) l3).trans e1
 have z2:=(hb6.cell (p:=⟨w.heap.size,2,none⟩) l3).trans e2
 clear hw6 hb6 d0 d1 d2 d3 d4 d5 d6 d7 d8 d9 e1 e2 hc EI hs
 obtain⟨r,hr⟩:∃ r,decide ((⟨9,ix,iy,inn,imn,imx,iss⟩:Ins)=j)=r:=⟨_,rfl⟩
 rw [hr] at HF ⊢
 clear hr hi
 have hw1:IntKind.wrap .i64 ((k:Int)+1)=(k:Int)+1:=wrap_small _ (by omega) (by omega)
 go_wp2_with first
  |(go_at_call 34;(with_reducible refine(aU _ _ _).mono ?_);rintro e w7 ⟨rfl,rfl⟩)
  |(go_at_call 23;(with_reducible refine(bT _ _ _).mono ?_);rintro e w7 ⟨rfl,rfl⟩)
  |(go_at_call 47;(with_reducible refine(cT _ _ _).mono ?_);rintro e w7 ⟨rfl,rfl⟩)
 all_goals go_ret
 all_goals
  refine⟨?_,B6.o⟩
  rw [HF.o]
  first | rfl | simp_all
theorem aF5{w:World}{p:Pg}(h:PgI w p){k:Nat}{i:Ins}(hi:p.L[k]?=some i)(hk:p.L.length<=40000)(ho:i.op=10) :
  Calls Tryz.prog 24 #[.agg #[.slice p.q p.L.length p.c,.int .i64 p.g,.int .i64 p.k,.bool p.f],.int .i64 (k:Int)] w (RaP p k i w):=by
 have B1:Hid (wBl w (w.alloc (.cells #[.slice p.q p.L.length p.c,.int .i64 p.g,.int .i64 p.k,.bool p.f] 24))):=bz9
 have n1:=aE w (.cells #[.slice p.q p.L.length p.c,.int .i64 p.g,.int .i64 p.k,.bool p.f] 24)
 have p0:(w.alloc (.cells #[.slice p.q p.L.length p.c,.int .i64 p.g,.int .i64 p.k,.bool p.f] 24)).cell? ⟨w.heap.size,0,none⟩=some (.slice p.q p.L.length p.c):=aA n1 (i:=0) rfl
 have X1:Hid ((w.alloc (.cells #[.slice p.q p.L.length p.c,.int .i64 p.g,.int .i64 p.k,.bool p.f] 24)).heap[w.heap.size]?=some (.cells #[.slice p.q p.L.length p.c,.int .i64 p.g,.int .i64 p.k,.bool p.f] 24 (0,0))):=n1
 obtain⟨g1,o1,hq1,hl1,c0,c1,c2,c3,c4,c5,c6,c7,c8,c9⟩:=(h.li.kept B1.o).ten hi
 have hlt:=(g7.1 hi).1
 have i0:(k:Int)<(p.L.length:Int):=by omega
 have Q1:=aD hq1
 have HO:=aD ho
 clear hq1 n1 ho
 go_enter Tryz.func24,Tryz.ntmps24
 go_upto_region 1 with fail
 generalize (w.alloc (.cells #[.slice p.q p.L.length p.c,.int .i64 p.g,.int .i64 p.k,.bool p.f] 24))=w1 at B1 p0 X1 hl1 c0 c1 c2 c3 c4 c5 c6 c7 c8 c9 ⊢
 rw [Q1.o] at p0
 have hl2:=aC X1.o
 go_region
 clear p0 c0 c1 c2 c3 c4 c5 c6 c7 c8 c9 hl1
 have B2:Hid (wBl w (w1.alloc (.cells #[.int .i64 i.op,.int .i64 i.x,.int .i64 i.y,.int .i64 i.n,.int .i64 i.mn,.int .i64 i.mx,.int .u64 (aB i.s 0),.int .u64 (aB i.s 1),.int .u64 (aB i.s 2),.int .u64 (aB i.s 3)] 54)).drew):=(aF B1.o (bz9) lz9).drew
 have X2:Hid ((w1.alloc (.cells #[.int .i64 i.op,.int .i64 i.x,.int .i64 i.y,.int .i64 i.n,.int .i64 i.mn,.int .i64 i.mx,.int .u64 (aB i.s 0),.int .u64 (aB i.s 1),.int .u64 (aB i.s 2),.int .u64 (aB i.s 3)] 54)).drew.heap[w1.heap.size]?=some (.cells #[.int .i64 i.op,.int .i64 i.x,.int .i64 i.y,.int .i64 i.n,.int .i64 i.mn,.int .i64 i.mx,.int .u64 (aB i.s 0),.int .u64 (aB i.s 1),.int .u64 (aB i.s 2),.int .u64 (aB i.s 3)] 54 (0,0))):=aE w1 _
 have X3:Hid ((w1.alloc (.cells #[.int .i64 i.op,.int .i64 i.x,.int .i64 i.y,.int .i64 i.n,.int .i64 i.mn,.int .i64 i.mx,.int .u64 (aB i.s 0),.int .u64 (aB i.s 1),.int .u64 (aB i.s 2),.int .u64 (aB i.s 3)] 54)).drew.heap[w.heap.size]?=some (.cells #[.slice p.q p.L.length p.c,.int .i64 p.g,.int .i64 p.k,.bool p.f] 24 (0,0))):=(Below.heap_alloc _ _ _ hl2).trans X1.o
 generalize (w1.alloc (.cells #[.int .i64 i.op,.int .i64 i.x,.int .i64 i.y,.int .i64 i.n,.int .i64 i.mn,.int .i64 i.mx,.int .u64 (aB i.s 0),.int .u64 (aB i.s 1),.int .u64 (aB i.s 2),.int .u64 (aB i.s 3)] 54)).drew=w2 at B2 X2 X3 ⊢
 obtain⟨j,hj⟩:∃ j,j=usI 54 i:=⟨_,rfl⟩
 have hc:=fun x:Ext w2=>cS (t:=54) (by decide) hj x
 obtain⟨io,ix,iy,inn,imn,imx,iss⟩:=i
 simp only at HO X2 hc hj ⊢
 obtain rfl:=HO.o
 have d0:=aA X2.o (i:=0) rfl
 have d1:=aA X2.o (i:=1) rfl
 have d2:=aA X2.o (i:=2) rfl
 have d3:=aA X2.o (i:=3) rfl
 have d4:=aA X2.o (i:=4) rfl
 have d5:=aA X2.o (i:=5) rfl
 have d6:=aA X2.o (i:=6) rfl
 have d7:=aA X2.o (i:=7) rfl
 have d8:=aA X2.o (i:=8) rfl
 have d9:=aA X2.o (i:=9) rfl
 have e1:=aA X3.o (i:=1) rfl
 have e2:=aA X3.o (i:=2) rfl
 have l2:=aC X2.o
 have l3:=aC X3.o
 have hs:=fun (W:World)=>(show Calls Tryz.prog 33 #[.int .i64 10] W fun e w'=>e=.returned (.tuple #[.string ⟨#[116,117,114,110]⟩,.int .i64 54])/\w'=W from aO 10 W)
 have q2:hsT 54 2=true:=by decide
 have q4:hsT 54 4=true:=by decide
 have q8:hsT 54 8=false:=by decide
 have q16:hsT 54 16=true:=by decide
 have q32:hsT 54 32=true:=by decide
 have q64:hsT 54 64=false:=by decide
 have EI:=fun W=>cC ⟨10,ix,iy,inn,imn,imx,iss⟩ j W
 simp only at EI
 have hF:bE p k ⟨10,ix,iy,inn,imn,imx,iss⟩=(decide ((⟨10,ix,iy,inn,imn,imx,iss⟩:Ins)=j)&&blw ix p.L.length&&blw iy p.L.length&&blw inn p.k&&rbd imn imx):=by
  rw [hj]
  show (!(shW 10==[])&&decide ((⟨10,ix,iy,inn,imn,imx,iss⟩:Ins)=usI 54 ⟨10,ix,iy,inn,imn,imx,iss⟩)&&(!hsT 54 2||blw ix p.L.length)&&(!hsT 54 4||blw iy p.L.length)&&(!hsT 54 8||blw inn p.g)&&(!hsT 54 16||blw inn p.k)&&(!hsT 54 32||rbd imn imx)&&(!hsT 54 64||decide ((k:Int)+1<p.L.length)))=_
  rw [show (!(shW 10==[]))=true from rfl,q2,q4,q8,q16,q32,q64]
  simp
 have HF:=aD hF
 clear hF
 clear hj
 go_wp2_with (go_at_call 33;(with_reducible refine(hs _).mono ?_);rintro e w5 ⟨rfl,rfl⟩)
 refine wx9 ?_
 repeat (go_big_quiet_step (first | exact rfl | exact EI _ |(go_at_call 46;exact cE (hc _))))
 refine wpQuiet_nil ?_
 intro w6 hw6
 have hb6:=cZ hw6
 have B6:=aD (aF B2.o hb6 lz9)
 have y1:=(hb6.cell (p:=⟨w1.heap.size,1,none⟩) l2).trans d1
 have y2:=(hb6.cell (p:=⟨w1.heap.size,2,none⟩) l2).trans d2
 have y3:=(hb6.cell (p:=⟨w1.heap.size,3,none⟩) l2).trans d3
 have y4:=(hb6.cell (p:=⟨w1.heap.size,4,none⟩) l2).trans d4
 have y5:=(hb6.cell (p:=⟨w1.heap.size,5,none⟩) l2).trans d5
 have z1:=(hb6.cell (p:=⟨w.heap.size,1,none⟩) l3).trans e1
 have z2:=(hb6.cell (p:=⟨w.heap.size,2,none⟩) l3).trans e2
 clear hw6 hb6 d0 d1 d2 d3 d4 d5 d6 d7 d8 d9 e1 e2 hc EI hs
 obtain⟨r,hr⟩:∃ r,decide ((⟨10,ix,iy,inn,imn,imx,iss⟩:Ins)=j)=r:=⟨_,rfl⟩
 rw [hr] at HF ⊢
 clear hr hi
 have hw1:IntKind.wrap .i64 ((k:Int)+1)=(k:Int)+1:=wrap_small _ (by omega) (by omega)
 go_wp2_with first
  |(go_at_call 34;(with_reducible refine(aU _ _ _).mono ?_);rintro e w7 ⟨rfl,rfl⟩)
  |(go_at_call 23;(with_reducible refine(bT _ _ _).mono ?_);rintro e w7 ⟨rfl,rfl⟩)
  |(go_at_call 47;(with_reducible refine(cT _ _ _).mono ?_);rintro e w7 ⟨rfl,rfl⟩)
 all_goals go_ret
 all_goals
  refine⟨?_,B6.o⟩
  rw [HF.o]
  first | rfl | simp_all
theorem aF4{w:World}{p:Pg}(h:PgI w p){k:Nat}{i:Ins}(hi:p.L[k]?=some i)(hk:p.L.length<=40000)(ho:i.op=11) :
  Calls Tryz.prog 24 #[.agg #[.slice p.q p.L.length p.c,.int .i64 p.g,.int .i64 p.k,.bool p.f],.int .i64 (k:Int)] w (RaP p k i w):=by
 have B1:Hid (wBl w (w.alloc (.cells #[.slice p.q p.L.length p.c,.int .i64 p.g,.int .i64 p.k,.bool p.f] 24))):=bz9
 have n1:=aE w (.cells #[.slice p.q p.L.length p.c,.int .i64 p.g,.int .i64 p.k,.bool p.f] 24)
 have p0:(w.alloc (.cells #[.slice p.q p.L.length p.c,.int .i64 p.g,.int .i64 p.k,.bool p.f] 24)).cell? ⟨w.heap.size,0,none⟩=some (.slice p.q p.L.length p.c):=aA n1 (i:=0) rfl
 have X1:Hid ((w.alloc (.cells #[.slice p.q p.L.length p.c,.int .i64 p.g,.int .i64 p.k,.bool p.f] 24)).heap[w.heap.size]?=some (.cells #[.slice p.q p.L.length p.c,.int .i64 p.g,.int .i64 p.k,.bool p.f] 24 (0,0))):=n1
 obtain⟨g1,o1,hq1,hl1,c0,c1,c2,c3,c4,c5,c6,c7,c8,c9⟩:=(h.li.kept B1.o).ten hi
 have hlt:=(g7.1 hi).1
 have i0:(k:Int)<(p.L.length:Int):=by omega
 have Q1:=aD hq1
 have HO:=aD ho
 clear hq1 n1 ho
 go_enter Tryz.func24,Tryz.ntmps24
 go_upto_region 1 with fail
 generalize (w.alloc (.cells #[.slice p.q p.L.length p.c,.int .i64 p.g,.int .i64 p.k,.bool p.f] 24))=w1 at B1 p0 X1 hl1 c0 c1 c2 c3 c4 c5 c6 c7 c8 c9 ⊢
 rw [Q1.o] at p0
 have hl2:=aC X1.o
 go_region
 clear p0 c0 c1 c2 c3 c4 c5 c6 c7 c8 c9 hl1
 have B2:Hid (wBl w (w1.alloc (.cells #[.int .i64 i.op,.int .i64 i.x,.int .i64 i.y,.int .i64 i.n,.int .i64 i.mn,.int .i64 i.mx,.int .u64 (aB i.s 0),.int .u64 (aB i.s 1),.int .u64 (aB i.s 2),.int .u64 (aB i.s 3)] 54)).drew):=(aF B1.o (bz9) lz9).drew
 have X2:Hid ((w1.alloc (.cells #[.int .i64 i.op,.int .i64 i.x,.int .i64 i.y,.int .i64 i.n,.int .i64 i.mn,.int .i64 i.mx,.int .u64 (aB i.s 0),.int .u64 (aB i.s 1),.int .u64 (aB i.s 2),.int .u64 (aB i.s 3)] 54)).drew.heap[w1.heap.size]?=some (.cells #[.int .i64 i.op,.int .i64 i.x,.int .i64 i.y,.int .i64 i.n,.int .i64 i.mn,.int .i64 i.mx,.int .u64 (aB i.s 0),.int .u64 (aB i.s 1),.int .u64 (aB i.s 2),.int .u64 (aB i.s 3)] 54 (0,0))):=aE w1 _
 have X3:Hid ((w1.alloc (.cells #[.int .i64 i.op,.int .i64 i.x,.int .i64 i.y,.int .i64 i.n,.int .i64 i.mn,.int .i64 i.mx,.int .u64 (aB i.s 0),.int .u64 (aB i.s 1),.int .u64 (aB i.s 2),.int .u64 (aB i.s 3)] 54)).drew.heap[w.heap.size]?=some (.cells #[.slice p.q p.L.length p.c,.int .i64 p.g,.int .i64 p.k,.bool p.f] 24 (0,0))):=(Below.heap_alloc _ _ _ hl2).trans X1.o
 generalize (w1.alloc (.cells #[.int .i64 i.op,.int .i64 i.x,.int .i64 i.y,.int .i64 i.n,.int .i64 i.mn,.int .i64 i.mx,.int .u64 (aB i.s 0),.int .u64 (aB i.s 1),.int .u64 (aB i.s 2),.int .u64 (aB i.s 3)] 54)).drew=w2 at B2 X2 X3 ⊢
 obtain⟨j,hj⟩:∃ j,j=usI 0 i:=⟨_,rfl⟩
 have hc:=fun x:Ext w2=>cS (t:=0) (by decide) hj x
 obtain⟨io,ix,iy,inn,imn,imx,iss⟩:=i
 simp only at HO X2 hc hj ⊢
 obtain rfl:=HO.o
 have d0:=aA X2.o (i:=0) rfl
 have d1:=aA X2.o (i:=1) rfl
 have d2:=aA X2.o (i:=2) rfl
 have d3:=aA X2.o (i:=3) rfl
 have d4:=aA X2.o (i:=4) rfl
 have d5:=aA X2.o (i:=5) rfl
 have d6:=aA X2.o (i:=6) rfl
 have d7:=aA X2.o (i:=7) rfl
 have d8:=aA X2.o (i:=8) rfl
 have d9:=aA X2.o (i:=9) rfl
 have e1:=aA X3.o (i:=1) rfl
 have e2:=aA X3.o (i:=2) rfl
 have l2:=aC X2.o
 have l3:=aC X3.o
 have hs:=fun (W:World)=>(show Calls Tryz.prog 33 #[.int .i64 11] W fun e w'=>e=.returned (.tuple #[.string ⟨#[109,97,116,99,104]⟩,.int .i64 0])/\w'=W from aO 11 W)
 have q2:hsT 0 2=false:=by decide
 have q4:hsT 0 4=false:=by decide
 have q8:hsT 0 8=false:=by decide
 have q16:hsT 0 16=false:=by decide
 have q32:hsT 0 32=false:=by decide
 have q64:hsT 0 64=false:=by decide
 have EI:=fun W=>cC ⟨11,ix,iy,inn,imn,imx,iss⟩ j W
 simp only at EI
 have hF:bE p k ⟨11,ix,iy,inn,imn,imx,iss⟩=(decide ((⟨11,ix,iy,inn,imn,imx,iss⟩:Ins)=j)):=by
  rw [hj]
  show (!(shW 11==[])&&decide ((⟨11,ix,iy,inn,imn,imx,iss⟩:Ins)=usI 0 ⟨11,ix,iy,inn,imn,imx,iss⟩)&&(!hsT 0 2||blw ix p.L.length)&&(!hsT 0 4||blw iy p.L.length)&&(!hsT 0 8||blw inn p.g)&&(!hsT 0 16||blw inn p.k)&&(!hsT 0 32||rbd imn imx)&&(!hsT 0 64||decide ((k:Int)+1<p.L.length)))=_
  rw [show (!(shW 11==[]))=true from rfl,q2,q4,q8,q16,q32,q64]
  simp
 have HF:=aD hF
 clear hF
 clear hj
 go_wp2_with (go_at_call 33;(with_reducible refine(hs _).mono ?_);rintro e w5 ⟨rfl,rfl⟩)
 refine wx9 ?_
 repeat (go_big_quiet_step (first | exact rfl | exact EI _ |(go_at_call 46;exact cE (hc _))))
 refine wpQuiet_nil ?_
 intro w6 hw6
 have hb6:=cZ hw6
 have B6:=aD (aF B2.o hb6 lz9)
 have y1:=(hb6.cell (p:=⟨w1.heap.size,1,none⟩) l2).trans d1
 have y2:=(hb6.cell (p:=⟨w1.heap.size,2,none⟩) l2).trans d2
 have y3:=(hb6.cell (p:=⟨w1.heap.size,3,none⟩) l2).trans d3
 have y4:=(hb6.cell (p:=⟨w1.heap.size,4,none⟩) l2).trans d4
 have y5:=(hb6.cell (p:=⟨w1.heap.size,5,none⟩) l2).trans d5
 have z1:=(hb6.cell (p:=⟨w.heap.size,1,none⟩) l3).trans e1
 have z2:=(hb6.cell (p:=⟨w.heap.size,2,none⟩) l3).trans e2
 clear hw6 hb6 d0 d1 d2 d3 d4 d5 d6 d7 d8 d9 e1 e2 hc EI hs
 obtain⟨r,hr⟩:∃ r,decide ((⟨11,ix,iy,inn,imn,imx,iss⟩:Ins)=j)=r:=⟨_,rfl⟩
 rw [hr] at HF ⊢
 clear hr hi
 have hw1:IntKind.wrap .i64 ((k:Int)+1)=(k:Int)+1:=wrap_small _ (by omega) (by omega)
 go_wp2_with first
  |(go_at_call 34;(with_reducible refine(aU _ _ _).mono ?_);rintro e w7 ⟨rfl,rfl⟩)
  |(go_at_call 23;(with_reducible refine(bT _ _ _).mono ?_);rintro e w7 ⟨rfl,rfl⟩)
  |(go_at_call 47;(with_reducible refine(cT _ _ _).mono ?_);rintro e w7 ⟨rfl,rfl⟩)
 all_goals go_ret
 all_goals
  refine⟨?_,B6.o⟩
  rw [HF.o]
  first | rfl | simp_all
end
section
attribute [local go_sem] Oper.semAt_some cD
theorem aI4{w:World}{p:Pg}(h:PgI w p){k:Nat}{i:Ins}(hi:p.L[k]?=some i)(hn:shW i.op=[])(hm:shT i.op=0) :
  Calls Tryz.prog 24 #[.agg #[.slice p.q p.L.length p.c,.int .i64 p.g,.int .i64 p.k,.bool p.f],.int .i64 (k:Int)] w (RaP p k i w):=by
 have B1:Hid (wBl w (w.alloc (.cells #[.slice p.q p.L.length p.c,.int .i64 p.g,.int .i64 p.k,.bool p.f] 24))):=bz9
 have n1:=aE w (.cells #[.slice p.q p.L.length p.c,.int .i64 p.g,.int .i64 p.k,.bool p.f] 24)
 have p0:(w.alloc (.cells #[.slice p.q p.L.length p.c,.int .i64 p.g,.int .i64 p.k,.bool p.f] 24)).cell? ⟨w.heap.size,0,none⟩=some (.slice p.q p.L.length p.c):=aA n1 (i:=0) rfl
 have X1:Hid ((w.alloc (.cells #[.slice p.q p.L.length p.c,.int .i64 p.g,.int .i64 p.k,.bool p.f] 24)).heap[w.heap.size]?=some (.cells #[.slice p.q p.L.length p.c,.int .i64 p.g,.int .i64 p.k,.bool p.f] 24 (0,0))):=n1
 obtain⟨g1,o1,hq1,hl1,c0,c1,c2,c3,c4,c5,c6,c7,c8,c9⟩:=(h.li.kept B1.o).ten hi
 have hlt:=(g7.1 hi).1
 have i0:(k:Int)<(p.L.length:Int):=by omega
 have Q1:=aD hq1
 have HF:Hid (bE p k i=false):=aD (by unfold bE;rw [hn];rfl)
 have hs:∀ W,Calls Tryz.prog 33 #[.int .i64 i.op] W fun e w'=>e=.returned (.tuple #[.string ⟨#[]⟩,.int .i64 0])/\w'=W:=fun W=>by
  have:=aO i.op W
  rw [hn,hm] at this
  exact this
 clear hq1 n1 hn hm
 go_enter Tryz.func24,Tryz.ntmps24
 go_upto_region 1 with fail
 generalize (w.alloc (.cells #[.slice p.q p.L.length p.c,.int .i64 p.g,.int .i64 p.k,.bool p.f] 24))=w1 at B1 p0 X1 hl1 c0 c1 c2 c3 c4 c5 c6 c7 c8 c9 ⊢
 rw [Q1.o] at p0
 have hl2:=aC X1.o
 go_region
 clear p0 c0 c1 c2 c3 c4 c5 c6 c7 c8 c9 hl1
 have B2:Hid (wBl w (w1.alloc (.cells #[.int .i64 i.op,.int .i64 i.x,.int .i64 i.y,.int .i64 i.n,.int .i64 i.mn,.int .i64 i.mx,.int .u64 (aB i.s 0),.int .u64 (aB i.s 1),.int .u64 (aB i.s 2),.int .u64 (aB i.s 3)] 54)).drew):=(aF B1.o (bz9) lz9).drew
 have X2:Hid ((w1.alloc (.cells #[.int .i64 i.op,.int .i64 i.x,.int .i64 i.y,.int .i64 i.n,.int .i64 i.mn,.int .i64 i.mx,.int .u64 (aB i.s 0),.int .u64 (aB i.s 1),.int .u64 (aB i.s 2),.int .u64 (aB i.s 3)] 54)).drew.heap[w1.heap.size]?=some (.cells #[.int .i64 i.op,.int .i64 i.x,.int .i64 i.y,.int .i64 i.n,.int .i64 i.mn,.int .i64 i.mx,.int .u64 (aB i.s 0),.int .u64 (aB i.s 1),.int .u64 (aB i.s 2),.int .u64 (aB i.s 3)] 54 (0,0))):=aE w1 _
 generalize (w1.alloc (.cells #[.int .i64 i.op,.int .i64 i.x,.int .i64 i.y,.int .i64 i.n,.int .i64 i.mn,.int .i64 i.mx,.int .u64 (aB i.s 0),.int .u64 (aB i.s 1),.int .u64 (aB i.s 2),.int .u64 (aB i.s 3)] 54)).drew=w2 at B2 X2 ⊢
 have d0:w2.cell? ⟨w1.heap.size,0,none⟩=some (.int .i64 i.op):=aA X2.o (i:=0) rfl
 go_wp2_with (go_at_call 33;(with_reducible refine(hs _).mono ?_);rintro e w5 ⟨rfl,rfl⟩)
 refine wx9 ?_
 repeat (go_big_quiet_step (first | exact rfl))
 refine wpQuiet_nil ?_
 intro w6 hw6
 have hb6:=cZ hw6
 have B6:=aD (aF B2.o hb6 lz9)
 clear hw6 hb6
 go_wp2
 go_ret
 exact⟨by rw [HF.o];rfl,B6.o⟩
theorem rQ{w:World}{p:Pg}(h:PgI w p){k:Nat}{i:Ins}(hi:p.L[k]?=some i)(hk:p.L.length<=40000) :
  Calls Tryz.prog 24 #[.agg #[.slice p.q p.L.length p.c,.int .i64 p.g,.int .i64 p.k,.bool p.f],.int .i64 (k:Int)] w (RaP p k i w):=by
 by_cases h1:i.op=1
 ·exact aJ3 h hi hk h1
 by_cases h2:i.op=2
 ·exact aJ2 h hi hk h2
 by_cases h3:i.op=3
 ·exact aJ1 h hi hk h3
 by_cases h4:i.op=4
 ·exact aJ0 h hi hk h4
 by_cases h5:i.op=5
 ·exact aI9 h hi hk h5
 by_cases h6:i.op=6
 ·exact aI8 h hi hk h6
 by_cases h7:i.op=7
 ·exact aI7 h hi hk h7
 by_cases h8:i.op=8
 ·exact aI6 h hi hk h8
 by_cases h9:i.op=9
 ·exact aI5 h hi hk h9
 by_cases h10:i.op=10
 ·exact aF5 h hi hk h10
 by_cases h11:i.op=11
 ·exact aF4 h hi hk h11
 refine aI4 h hi ?_ ?_
 ·unfold shW;simp [h1,h2,h3,h4,h5,h6,h7,h8,h9,h10,h11]
 ·unfold shT;simp [h1,h2,h3,h4,h5,h6,h7,h8,h9,h10]
def fbI(p:Pg):Nat->List Ins->Option Nat
 | _,[]=>none
 | k,i :: r=>if bE p k i then fbI p (k+1) r else some k
def rtE(p:Pg):Int×Int:=
 if 40000<p.L.length then (42,0) else if !blw p.g 31 || !blw p.k 41 then (1,0) else if p.L.length=0 then (60,0) else match fbI p 0 p.L with
 | some k=>(60,k)
 | none=>(0,0)
theorem mL(p:Pg){j:Nat}{i:Ins}(hj:p.L[j]?=some i):fbI p j (p.L.drop j)=if bE p j i then fbI p (j+1) (p.L.drop (j+1)) else some j:=by
 have hlt:=(g7.1 hj).1
 rw [List.drop_eq_getElem_cons hlt,(g7.1 hj).2]
 rfl
def RtP(p:Pg)(w:World)(e:Ending)(w':World):Prop:=e=.returned (.tuple #[.int .i64 (rtE p).1,.int .i64 (rtE p).2])/\wBl w w'
theorem eI{w:World}{p:Pg}(h:PgI w p):Calls Tryz.prog 9 #[.agg #[.slice p.q p.L.length p.c,.int .i64 p.g,.int .i64 p.k,.bool p.f]] w (RtP p w):=by
 have B1:Hid (wBl w (w.alloc (.cells #[.slice p.q p.L.length p.c,.int .i64 p.g,.int .i64 p.k,.bool p.f] 24))):=bz9
 have n1:=aE w (.cells #[.slice p.q p.L.length p.c,.int .i64 p.g,.int .i64 p.k,.bool p.f] 24)
 have X1:Hid ((w.alloc (.cells #[.slice p.q p.L.length p.c,.int .i64 p.g,.int .i64 p.k,.bool p.f] 24)).heap[w.heap.size]?=some (.cells #[.slice p.q p.L.length p.c,.int .i64 p.g,.int .i64 p.k,.bool p.f] 24 (0,0))):=n1
 have H:=aD h
 have hlen:=h.len
 obtain⟨r1,hr1⟩:∃ r,rtE p=r:=⟨_,rfl⟩
 have R:=aD hr1
 unfold RtP
 rw [hr1]
 clear hr1 h n1
 go_enter Tryz.func9,Tryz.ntmps9
 go_upto_region 1 with fail
 generalize (w.alloc (.cells #[.slice p.q p.L.length p.c,.int .i64 p.g,.int .i64 p.k,.bool p.f] 24))=w1 at B1 X1 ⊢
 have p0:w1.cell? ⟨w.heap.size,0,none⟩=some (.slice p.q p.L.length p.c):=aA X1.o (i:=0) rfl
 have p1:w1.cell? ⟨w.heap.size,1,none⟩=some (.int .i64 p.g):=aA X1.o (i:=1) rfl
 have p2:w1.cell? ⟨w.heap.size,2,none⟩=some (.int .i64 p.k):=aA X1.o (i:=2) rfl
 have l1:=aC X1.o
 by_cases hm:40000<p.L.length
 ·have i0:(40000:Int)<(p.L.length:Int):=by omega
  go_wp2
  go_ret2
  exact⟨by rw [<- R.o,rtE,if_pos hm];rfl,B1.o⟩
 have i0:¬ (40000:Int)<(p.L.length:Int):=by omega
 by_cases hb:(!blw p.g 31 || !blw p.k 41)=true
 ·have hR:rtE p=(1,0):=by rw [rtE,if_neg hm,if_pos hb]
  have R2:=aD (R.o.symm.trans hR)
  clear hR
  cases hg:blw p.g 31 with
  | false=>
   go_wp2_with (go_at_call 23;(with_reducible refine(bT _ _ _).mono ?_);rw [hg];rintro e w7 ⟨rfl,rfl⟩)
   go_ret2
   exact⟨by rw [R2.o];rfl,B1.o⟩
  | true=>
   rw [hg] at hb
   have hg2:blw p.k 41=false:=by simpa using hb
   go_wp2_with first
    |(go_at_call 23;(with_reducible refine(bT p.g _ _).mono ?_);rw [hg];rintro e w7 ⟨rfl,rfl⟩)
    |(go_at_call 23;(with_reducible refine(bT p.k _ _).mono ?_);rw [hg2];rintro e w7 ⟨rfl,rfl⟩)
   go_ret2
   exact⟨by rw [R2.o];rfl,B1.o⟩
 have hg:blw p.g 31=true:=by cases h:blw p.g 31 <;> simp_all
 have hg2:blw p.k 41=true:=by cases h:blw p.k 41 <;> simp_all
 by_cases hz:p.L.length=0
 ·have hR:rtE p=(60,0):=by rw [rtE,if_neg hm,if_neg hb,if_pos hz]
  have R2:=aD (R.o.symm.trans hR)
  clear hR hb
  rw [hz] at p0
  go_wp2_with first
   |(go_at_call 23;(with_reducible refine(bT p.g _ _).mono ?_);rw [hg];rintro e w7 ⟨rfl,rfl⟩)
   |(go_at_call 23;(with_reducible refine(bT p.k _ _).mono ?_);rw [hg2];rintro e w7 ⟨rfl,rfl⟩)
  go_ret2
  exact⟨by rw [R2.o];rfl,B1.o⟩
 have hR:rtE p=match fbI p 0 p.L with | some k=>(60,(k:Int)) | none=>(0,0):=by rw [rtE,if_neg hm,if_neg hb,if_neg hz]
 have R2:=aD (R.o.symm.trans hR)
 have z0:(((p.L.length:Nat):Int)==0)=false:=by rw [i7];omega
 clear hR hb
 go_wp2_with first
  |(go_at_call 23;(with_reducible refine(bT p.g _ _).mono ?_);rw [hg];rintro e w7 ⟨rfl,rfl⟩)
  |(go_at_call 23;(with_reducible refine(bT p.k _ _).mono ?_);rw [hg2];rintro e w7 ⟨rfl,rfl⟩)
 have H7:=aD (H.o.kept B1.o)
 clear p0 p1 p2
 go_loopw [29] (fun i wr=>∃ j:Nat,j<=p.L.length/\i=.int .i64 (j:Int)/\fbI p 0 p.L=fbI p j (p.L.drop j)/\wBl w7 wr) (fun i _=>p.L.length-(intOf i).toNat)
 case atStart=>exact⟨0,Nat.zero_le _,rfl,by rw [List.drop_zero],Below.refl _ _⟩
 case round=>
  obtain⟨j,hj,rfl,hpre,hbel⟩:=hrel
  have HP:=aD hpre
  have HB:=aD hbel
  have y0:=aA ((HB.o.block _ l1).trans X1.o) (i:=0) rfl
  have y1:=aA ((HB.o.block _ l1).trans X1.o) (i:=1) rfl
  have y2:=aA ((HB.o.block _ l1).trans X1.o) (i:=2) rfl
  have y3:=aA ((HB.o.block _ l1).trans X1.o) (i:=3) rfl
  clear hpre hbel
  by_cases hjl:j<p.L.length
  ·have j0:(j:Int)<(p.L.length:Int):=by omega
   obtain⟨a9,hga⟩:∃ a,p.L[j]?=some a:=⟨_,i8 hjl⟩
   have HC:=aD (rQ (H7.o.kept HB.o) hga (by omega))
   have GA:=aD (mL p hga)
   unfold RaP at HC
   obtain⟨sb,hsb⟩:∃ sb,bE p j a9=sb:=⟨_,rfl⟩
   rw [hsb] at HC GA
   clear hga hsb
   cases sb with
   | false=>
    have HN:Hid (r1=(60,(j:Int))):=by have:=R2.o;rw [HP.o,GA.o] at this;exact this
    go_wp2_with (go_at_call 24;(with_reducible refine(HC.o).mono ?_);rintro e w5 ⟨rfl,h5⟩;have B5:=aD (aF (aF B1.o HB.o lz9) h5 lz9);clear h5)
    go_ret2
    exact⟨by rw [HN.o];rfl,B5.o⟩
   | true=>
    have HN:Hid (fbI p 0 p.L=fbI p (j+1) (p.L.drop (j+1))):=by have:=HP.o;rw [GA.o] at this;exact this
    go_wp2_with (go_at_call 24;(with_reducible refine(HC.o).mono ?_);rintro e w5 ⟨rfl,h5⟩;have B5:=aD (aF HB.o h5 lz9);clear h5)
    go_roundw
    case rel=>exact⟨j+1,by omega,by go_num,HN.o,B5.o⟩
    case measure=>simp only [intOf];omega
  ·have j0:¬ (j:Int)<(p.L.length:Int):=by omega
   have HN:Hid (r1=(0,0)):=by have:=R2.o;rw [HP.o,List.drop_eq_nil_of_le (by omega)] at this;exact this
   go_wp2
   go_ret2
   exact⟨by rw [HN.o];rfl,aF B1.o HB.o lz9⟩
end
structure MAt(w:World)(b o p room:Nat)(L:List Int):Prop where
 hb:w.heap[b]?=some (.cells #[.slice (some ⟨o,0,none⟩) L.length room,.slice (some ⟨p,0,none⟩) room room] 103 (0,0))
 ho:∃ cur,w.heap[o]?=some (.cells cur 3 (0,0))/\cur.size=room/\cur.toList.take L.length=cJ L
 hp:∃ pl:List Int,w.heap[p]?=some (.cells (cJ pl).toArray 3 (0,0))/\pl.length=room/\∀ (i:Nat) (x:Int),L[i]?=some x->0<=x/\pl[x.toNat]?=some (i:Int)
 hne:o≠p
 hr:room<=100000
theorem MAt.ltb{w:World}{b o p room:Nat}{L:List Int}(h:MAt w b o p room L):b<w.heap.size:=aC h.hb
theorem MAt.lto{w:World}{b o p room:Nat}{L:List Int}(h:MAt w b o p room L):o<w.heap.size:=by obtain⟨_,h,_⟩:=h.ho;exact aC h
theorem MAt.ltp{w:World}{b o p room:Nat}{L:List Int}(h:MAt w b o p room L):p<w.heap.size:=by obtain⟨_,h,_⟩:=h.hp;exact aC h
theorem MAt.bo{w:World}{b o p room:Nat}{L:List Int}(h:MAt w b o p room L):b≠o:=fun e=>by
 obtain⟨_,h2,_⟩:=h.ho
 rw [<- e,h.hb] at h2
 injection h2 with h2
 injection h2 with _ h2 _
 exact absurd h2 (by decide)
theorem MAt.bp{w:World}{b o p room:Nat}{L:List Int}(h:MAt w b o p room L):b≠p:=fun e=>by
 obtain⟨_,h2,_⟩:=h.hp
 rw [<- e,h.hb] at h2
 injection h2 with h2
 injection h2 with _ h2 _
 exact absurd h2 (by decide)
theorem MAt.same{w w':World}{b o p room:Nat}{L:List Int}(h:MAt w b o p room L)(e1:w'.heap[b]?=w.heap[b]?)(e2:w'.heap[o]?=w.heap[o]?)(e3:w'.heap[p]?=w.heap[p]?):MAt w' b o p room L:=
 ⟨e1.trans h.hb,by rw [e2];exact h.ho,by rw [e3];exact h.hp,h.hne,h.hr⟩
theorem MAt.below{w w':World}{b o p room n:Nat}{L:List Int}(h:MAt w b o p room L)(hb:Below n w w')(h1:b<n)(h2:o<n)(h3:p<n):MAt w' b o p room L:=
 h.same (hb.block _ h1) (hb.block _ h2) (hb.block _ h3)
theorem MAt.kept{w w':World}{b o p room:Nat}{L:List Int}(h:MAt w b o p room L)(hb:wBl w w'):MAt w' b o p room L:=h.below hb h.ltb h.lto h.ltp
theorem MAt.len{w:World}{b o p room:Nat}{L:List Int}(h:MAt w b o p room L):L.length<=room:=by
 obtain⟨cur,_,h2,h3⟩:=h.ho
 have:=congrArg List.length h3
 simp [cF,h2] at this
 omega
theorem MAt.inr{w:World}{b o p room:Nat}{L:List Int}(h:MAt w b o p room L){x:Int}(hx:x∈L):0<=x/\x<room:=by
 obtain⟨pl,_,h2,h3⟩:=h.hp
 obtain⟨i,hi⟩:=s6 hx
 obtain⟨h0,h4⟩:=h3 i x hi
 have:=(g7.1 h4).1
 omega
theorem MAt.nodup{w:World}{b o p room:Nat}{L:List Int}(h:MAt w b o p room L):L.Nodup:=by
 obtain⟨pl,_,_,h3⟩:=h.hp
 rw [List.nodup_iff_pairwise_ne,List.pairwise_iff_getElem]
 intro i j hi hj hij e
 have q1:=(h3 i _ (i8 hi)).2
 have q2:=(h3 j _ (i8 hj)).2
 rw [e,q2] at q1
 have:=j3 q1
 omega
theorem MAt.cellb0{w:World}{b o p room:Nat}{L:List Int}(h:MAt w b o p room L):w.cell? ⟨b,0,none⟩=some (.slice (some ⟨o,0,none⟩) L.length room):=by simp [World.cell?,h.hb]
theorem MAt.cellb1{w:World}{b o p room:Nat}{L:List Int}(h:MAt w b o p room L):w.cell? ⟨b,1,none⟩=some (.slice (some ⟨p,0,none⟩) room room):=by simp [World.cell?,h.hb]
theorem MAt.frb{w:World}{b o p room:Nat}{L:List Int}(h:MAt w b o p room L)(j:Nat):w.frozen? ⟨b,j,none⟩=false:=by simp [World.frozen?,h.hb]
theorem MAt.cello{w:World}{b o p room:Nat}{L:List Int}(h:MAt w b o p room L){i:Nat}{x:Int}(hx:L[i]?=some x):w.cell? ⟨o,i,none⟩=some (.int .i64 x):=by
 obtain⟨cur,h1,h2,h3⟩:=h.ho
 have hi:i<L.length:=(g7.1 hx).1
 have e:=dS hx
 rw [<- h3,s5 hi] at e
 have:cur[i]?=some (.int .i64 x):=by simpa using e
 simp [World.cell?,h1,this]
theorem pig:∀ (r:Nat) (l:List Nat),l.Nodup->(∀ x∈l,x<r)->l.length<=r
 | 0,l,_,h=>by
  cases l with
  | nil=>simp
  | cons x l=>exact absurd (h x (by simp)) (by omega)
 | r+1,l,hn,h=>by
  by_cases hr:r∈l
  ·have h1:=pig r (l.erase r) (hn.erase r) (fun x hx=>by
    have h2:=(hn.mem_erase_iff).1 hx
    have:=h x h2.2
    omega)
   rw [List.length_erase_of_mem hr] at h1
   omega
  ·have:=pig r l hn (fun x hx=>by
    have h1:=h x hx
    have:x≠r:=fun e=>hr (e ▸ hx)
    omega)
   omega
theorem MAt.room{w:World}{b o p room:Nat}{L:List Int}(h:MAt w b o p room L){n:Int}(h0:0<=n)(h1:n<room)(hn:n ∉ L):L.length<room:=by
 have hnd:(n :: L).Nodup:=List.nodup_cons.2 ⟨hn,h.nodup⟩
 have:=pig room ((n :: L).map Int.toNat) ?_ ?_
 ·simp at this;omega
 ·rw [List.nodup_iff_pairwise_ne,List.pairwise_map]
  refine List.Pairwise.imp_of_mem ?_ (List.nodup_iff_pairwise_ne.1 hnd)
  intro a c ha hc hac e
  have q:∀ y∈n :: L,0<=y:=fun y hy=>by
   rcases k9.1 hy with rfl | hy
   ·exact h0
   ·exact(h.inr hy).1
  have:=q a ha
  have:=q c hc
  omega
 ·intro x hx
  obtain⟨y,hy,rfl⟩:=List.mem_map.1 hx
  rcases k9.1 hy with rfl | hy
  ·omega
  ·have:=h.inr hy
   omega
def uY(b o p:Nat)(k:Nat):Prop:=k=b\/k=o\/k=p
def xK(room:Nat)(L:List Int)(n:Int):Bool:=decide (0<=n/\n<room/\n ∉ L)
def eG(room:Nat)(L:List Int)(n:Int):List Int:=if 0<=n/\n<room/\n ∉ L then L++[n] else L
def atV(L:List Int)(k:Int):Int:=if 0<=k/\k<L.length then L[k.toNat]?.getD 0 else 0
def atB(L:List Int)(k:Int):Bool:=decide (0<=k/\k<L.length)
theorem iH{w:World}{b o p room:Nat}{L:List Int}(h:MAt w b o p room L) :
  Calls Tryz.prog 54 #[.pointer (some ⟨b,0,none⟩)] w fun e w'=>e=.returned (.int .i64 room)/\w'=w:=by
 have c1:=h.cellb1
 clear h
 go_enter Tryz.func54,Tryz.ntmps54
 go_wp2
 go_ret
 exact⟨rfl,rfl⟩
theorem qK{w:World}{b o p room:Nat}{L:List Int}(h:MAt w b o p room L) :
  Calls Tryz.prog 31 #[.pointer (some ⟨b,0,none⟩)] w fun e w'=>e=.returned (.int .i64 L.length)/\w'=w:=by
 have c1:=h.cellb0
 clear h
 go_enter Tryz.func31,Tryz.ntmps31
 go_wp2
 go_ret
 exact⟨rfl,rfl⟩
theorem aK4{w:World}{b o p room:Nat}{L:List Int}(h:MAt w b o p room L)(k:Int) :
  Calls Tryz.prog 32 #[.pointer (some ⟨b,0,none⟩),.int .i64 k] w fun e w'=>e=.returned (.tuple #[.int .i64 (atV L k),.bool (atB L k)])/\w'=w:=by
 have H:Hid (MAt w b o p room L):=h
 have c0:=h.cellb0
 clear h
 by_cases h0:k<0
 ·go_enter Tryz.func32,Tryz.ntmps32
  go_wp2
  go_ret2
  exact⟨by rw [show atV L k=0 from if_neg (by omega),show atB L k=false from j6 (by omega)];rfl,rfl⟩
 ·by_cases h1:(L.length:Int)<=k
  ·go_enter Tryz.func32,Tryz.ntmps32
   go_wp2_with (go_at_call 31;refine(qK H.o).mono ?_;rintro e w1 ⟨rfl,rfl⟩)
   go_ret2
   exact⟨by rw [show atV L k=0 from if_neg (by omega),show atB L k=false from j6 (by omega)];rfl,rfl⟩
  ·obtain⟨n,rfl⟩:∃ n:Nat,k=n:=⟨k.toNat,by omega⟩
   have hn:n<L.length:=by omega
   have i0:(0:Int)<=(n:Int):=by omega
   have i1:(n:Int)<(L.length:Int):=by omega
   have c1:=H.o.cello (i8 hn)
   have HV:Hid (atV L n=L[n]):=(show atV L n=L[n] by unfold atV;rw [if_pos ⟨i0,i1⟩];simp [hn])
   have HB:Hid (atB L n=true):=p9 ⟨i0,i1⟩
   have hl:=H.o.len
   have hr:=H.o.hr
   go_enter Tryz.func32,Tryz.ntmps32
   go_wp2_with (go_at_call 31;refine(qK H.o).mono ?_;rintro e w1 ⟨rfl,rfl⟩)
   go_ret2
   exact⟨by rw [HV.o,HB.o];rfl,rfl⟩
theorem MAt.place{w:World}{b o p room:Nat}{L:List Int}(h:MAt w b o p room L){n:Nat}(hn:n<room) :
  ∃ q:Int,w.cell? ⟨p,n,none⟩=some (.int .i64 q)/\(atB L q&&(atV L q==(n:Int)))=decide ((n:Int)∈L):=by
 obtain⟨pl,h1,h2,h3⟩:=h.hp
 have hl:n<pl.length:=by omega
 refine⟨pl[n],?_,?_⟩
 ·have e:=dS (i8 hl)
  simp [World.cell?,h1,e]
 ·by_cases hm:(n:Int)∈L
  ·obtain⟨i,hi⟩:=s6 hm
   have hil:i<L.length:=(g7.1 hi).1
   have h4:=(h3 i _ hi).2
   rw [o6,i8 hl] at h4
   rw [j3 h4,p9 hm]
   have hb:atB L i=true:=p9 ⟨by omega,by omega⟩
   have hv:atV L i=n:=by unfold atV;rw [if_pos ⟨by omega,by omega⟩];simp [hi]
   rw [hb,hv];simp
  ·rw [j6 hm]
   by_cases hq:0<=pl[n]/\pl[n]<L.length
   ·have hb:atB L pl[n]=true:=p9 hq
    rw [hb]
    have hv:atV L pl[n]≠n:=fun e=>by
     unfold atV at e
     rw [if_pos hq] at e
     have hlt:pl[n].toNat<L.length:=by omega
     rw [i8 hlt] at e
     simp at e
     exact hm (e ▸ List.getElem_mem hlt)
    simp [hv]
   ·have hb:atB L pl[n]=false:=j6 hq
    rw [hb];rfl
theorem aD2{w:World}{b o p room:Nat}{L:List Int}(h:MAt w b o p room L)(n:Int) :
  Calls Tryz.prog 55 #[.pointer (some ⟨b,0,none⟩),.int .i64 n] w fun e w'=>e=.returned (.bool (decide (n∈L)))/\w'=w:=by
 have H:Hid (MAt w b o p room L):=h
 have c1:=h.cellb1
 clear h
 by_cases h0:n<0
 ·have HN:Hid (decide (n∈L)=false):=j6 (fun q=>by have:=H.o.inr q;omega)
  go_enter Tryz.func55,Tryz.ntmps55
  go_wp2
  go_ret
  exact⟨by rw [HN.o];rfl,rfl⟩
 ·by_cases h1:(room:Int)<=n
  ·have HN:Hid (decide (n∈L)=false):=j6 (fun q=>by have:=H.o.inr q;omega)
   go_enter Tryz.func55,Tryz.ntmps55
   go_wp2_with (go_at_call 54;refine(iH H.o).mono ?_;rintro e w1 ⟨rfl,rfl⟩)
   go_ret
   exact⟨by rw [HN.o];rfl,rfl⟩
  ·obtain⟨m,rfl⟩:∃ m:Nat,n=m:=⟨n.toNat,by omega⟩
   have hm:m<room:=by omega
   have i0:(0:Int)<=(m:Int):=by omega
   have i1:(m:Int)<(room:Int):=by omega
   obtain⟨q,cq,hq⟩:=H.o.place hm
   have HQ:Hid _:=hq
   clear hq
   have hr:=H.o.hr
   go_enter Tryz.func55,Tryz.ntmps55
   go_wp2_with first |(go_at_call 54;refine(iH H.o).mono ?_;rintro e w1 ⟨rfl,rfl⟩) |(go_at_call 32;refine(aK4 H.o q).mono ?_;rintro e w1 ⟨rfl,rfl⟩)
   all_goals go_ret
   all_goals
    refine⟨?_,rfl⟩
    first
    |(have hh:atB L q=true:=(by assumption);rw [<- HQ.o,hh,Bool.true_and];rfl)
    |(have hh:atB L q=false:=Bool.eq_false_iff.2 (by assumption);rw [<- HQ.o,hh,Bool.false_and];rfl)
section
attribute [local go_sem] cD
theorem MAt.put{w:World}{b o p room:Nat}{L:List Int}(h:MAt w b o p room L){n:Nat}(hn:n<room)(hm:(n:Int) ∉ L)(ob:Obj) :
  MAt ((((w.setCell ⟨p,n,none⟩ (.int .i64 L.length)).alloc ob).setCell ⟨o,L.length,none⟩ (.int .i64 n)).setCell ⟨b,0,none⟩ (.slice (some ⟨o,0,none⟩) (L.length+1) room)) b o p room (L++[(n:Int)]):=by
 obtain⟨cur,hc,h2,h3⟩:=h.ho
 obtain⟨pl,q1,q2,q3⟩:=h.hp
 have hroom:=h.room (n:=n) (by omega) (by omega) hm
 have hbo:=h.bo
 have hbp:=h.bp
 have hop:=h.hne
 have lb:=h.ltb
 have lo:=h.lto
 have lp:=h.ltp
 refine⟨?_,⟨cur.setIfInBounds L.length (.int .i64 n),?_,by simp [h2],?_⟩,⟨pl.set n L.length,?_,by simp [q2],?_⟩,hop,h.hr⟩
 ·have e1:(((w.setCell ⟨p,n,none⟩ (.int .i64 L.length)).alloc ob).setCell ⟨o,L.length,none⟩ (.int .i64 n)).heap[b]?=w.heap[b]?:=by
   rw [Below.heap_setCell _ _ _ _ hbo,Below.heap_alloc _ _ _ (by simpa [World.setCell] using lb),Below.heap_setCell _ _ _ _ hbp]
  have:=aI (e1.trans h.hb) 0 (.slice (some ⟨o,0,none⟩) (L.length+1) room)
  rw [this]
  simp
 ·rw [Below.heap_setCell _ _ _ _ (Ne.symm hbo)]
  refine aI ?_ _ _
  rw [Below.heap_alloc _ _ _ (by simpa [World.setCell] using lo),Below.heap_setCell _ _ _ _ hop]
  exact hc
 ·have hl:L.length<cur.toList.length:=by simp;omega
  rw [Array.toList_setIfInBounds,j2,List.length_singleton,List.take_set,n5,h3,dT]
  rw [i8 hl,Option.toList_some,List.set_append_right _ _ (by rw [cF];omega),cF]
  simp [cJ]
 ·rw [Below.heap_setCell _ _ _ _ (Ne.symm hbp),Below.heap_setCell _ _ _ _ (Ne.symm hop),Below.heap_alloc _ _ _ (by simpa [World.setCell] using lp)]
  rw [aI q1]
  simp [cJ]
 ·intro i x hx
  by_cases hi:i<L.length
  ·rw [j7 hi] at hx
   obtain⟨g1,g2⟩:=q3 i x hx
   refine⟨g1,?_⟩
   have hne:n≠x.toNat:=fun e=>hm (by
    have:(n:Int)=x:=by omega
    rw [this]
    exact n6 hx)
   rw [n7 hne]
   exact g2
  ·have hl:=(g7.1 hx).1
   simp at hl
   obtain rfl:i=L.length:=by omega
   simp at hx
   subst hx
   refine⟨by omega,?_⟩
   rw [o6,l8 (by omega)]
theorem MAt.spare{w:World}{b o p room:Nat}{L:List Int}(h:MAt w b o p room L)(hl:L.length<room):(∃ u,w.cell? ⟨o,L.length,none⟩=some u)/\w.frozen? ⟨o,L.length,none⟩=false:=by
 obtain⟨cur,hc,h2,h3⟩:=h.ho
 exact⟨⟨cur[L.length]'(by omega),by simp [World.cell?,hc,h2,hl]⟩,by simp [World.frozen?,hc]⟩
theorem qF{w:World}{b o p room:Nat}{L:List Int}(h:MAt w b o p room L)(n:Int) :
  Calls Tryz.prog 30 #[.pointer (some ⟨b,0,none⟩),.int .i64 n] w fun e w'=>e=.returned (.bool (xK room L n))/\MAt w' b o p room (eG room L n)/\Fr (uY b o p) w w':=by
 have H:Hid (MAt w b o p room L):=h
 have c0:=h.cellb0
 have c1:=h.cellb1
 clear h
 by_cases h0:n<0
 ·have HN:Hid (xK room L n=false/\eG room L n=L):=⟨j6 (by omega),if_neg (by omega)⟩
  go_enter Tryz.func30,Tryz.ntmps30
  go_wp2
  go_ret
  exact⟨by rw [HN.o.1];rfl,by rw [HN.o.2];exact H.o,Fr.refl _ _⟩
 ·by_cases h1:(room:Int)<=n
  ·have HN:Hid (xK room L n=false/\eG room L n=L):=⟨j6 (by omega),if_neg (by omega)⟩
   go_enter Tryz.func30,Tryz.ntmps30
   go_wp2_with (go_at_call 54;refine(iH H.o).mono ?_;rintro e w1 ⟨rfl,rfl⟩)
   go_ret
   exact⟨by rw [HN.o.1];rfl,by rw [HN.o.2];exact H.o,Fr.refl _ _⟩
  ·obtain⟨m,rfl⟩:∃ m:Nat,n=m:=⟨n.toNat,by omega⟩
   have hm:m<room:=by omega
   by_cases hin:(m:Int)∈L
   ·have HN:Hid (xK room L m=false/\eG room L m=L):=⟨j6 (fun q=>q.2.2 hin),if_neg (fun q=>q.2.2 hin)⟩
    have hd:decide ((m:Int)∈L)=true:=p9 hin
    clear hin
    go_enter Tryz.func30,Tryz.ntmps30
    go_wp2_with first |(go_at_call 54;refine(iH H.o).mono ?_;rintro e w1 ⟨rfl,rfl⟩) |(go_at_call 55;refine(aD2 H.o m).mono ?_;rw [hd];rintro e w1 ⟨rfl,rfl⟩)
    go_ret
    exact⟨by rw [HN.o.1];rfl,by rw [HN.o.2];exact H.o,Fr.refl _ _⟩
   ·have HN:Hid (xK room L m=true/\eG room L m=L++[(m:Int)]):=⟨p9 ⟨by omega,by omega,hin⟩,if_pos ⟨by omega,by omega,hin⟩⟩
    have HI:Hid ((m:Int) ∉ L):=hin
    have hd:decide ((m:Int)∈L)=false:=j6 hin
    clear hin
    have i0:(0:Int)<=(m:Int):=by omega
    have i1:(m:Int)<(room:Int):=by omega
    have hrm:=H.o.room (n:=m) (by omega) (by omega) HI.o
    have hr:=H.o.hr
    obtain⟨q,cq,_⟩:=H.o.place hm
    have fq:w.frozen? ⟨p,m,none⟩=false:=by obtain⟨pl,e,_⟩:=H.o.hp;simp [World.frozen?,e]
    go_enter Tryz.func30,Tryz.ntmps30
    go_wp2_with first |(go_at_call 54;refine(iH H.o).mono ?_;rintro e w1 ⟨rfl,rfl⟩) |(go_at_call 55;refine(aD2 H.o m).mono ?_;rw [hd];rintro e w1 ⟨rfl,rfl⟩)
    have lb:=H.o.ltb
    refine fN (List.cons_ne_nil _ _) (by kernel_rfl) (by kernel_rfl) (by kernel_rfl) ?_
    dsimp only [List.dropLast,List.getLast]
    repeat (go_big_quiet_step (first | exact rfl))
    refine wpQuiet_nil ?_
    intro w2 hw
    have hb2:=cZ hw
    clear hw
    have H2:Hid (MAt w2 b o p room L):=H.o.kept hb2
    have F2:Hid (Fr (uY b o p) w1 w2):=Fr.of_below hb2
    have d0:=H2.o.cellb0
    have fb:=H2.o.frb 0
    have cq2:=(hb2.cell (p:=⟨p,m,none⟩) H.o.ltp).trans cq
    have fq2:=(hb2.frozen (p:=⟨p,m,none⟩) H.o.ltp).trans fq
    have hbp:=H2.o.bp
    have hbo:=H2.o.bo
    have hop:=H2.o.hne
    clear hb2 c0 c1 cq fq
    obtain⟨⟨u,cu⟩,fu⟩:=H2.o.spare hrm
    have hx:((w2.setCell ⟨p,m,none⟩ (.int .i64 L.length)).alloc (.cells #[.int .i64 m] 3)).heap[o]?=w2.heap[o]?:=by
     rw [Below.heap_alloc _ _ _ (by simpa [World.setCell] using H2.o.lto),Below.heap_setCell _ _ _ _ hop]
    have cx:=(World.cell?_of_block (a:=⟨o,L.length,none⟩) hx).trans cu
    have fx:=(World.frozen?_of_block (a:=⟨o,L.length,none⟩) hx).trans fu
    have hy:((w2.setCell ⟨p,m,none⟩ (.int .i64 L.length)).alloc (.cells #[.int .i64 m] 3)).heap[b]?=w2.heap[b]?:=by
     rw [Below.heap_alloc _ _ _ (by simpa [World.setCell] using H2.o.ltb),Below.heap_setCell _ _ _ _ hbp]
    have cy:=(World.cell?_of_block (a:=⟨b,0,none⟩) hy).trans d0
    have fy:=(World.frozen?_of_block (a:=⟨b,0,none⟩) hy).trans fb
    clear hx hy
    go_wp2
    go_ret
    refine⟨by rw [HN.o.1];rfl,by rw [HN.o.2];exact H2.o.put hm HI.o _,?_⟩
    exact(((F2.o.setCell (.inr (.inr rfl)) _).alloc _).setCell (.inr (.inl rfl)) _).setCell (.inl rfl) _
theorem MAt.made{w:World}{b o p room:Nat}(hr:room<=100000)(hb:w.heap[b]?=some (.cells #[.slice (some ⟨o,0,none⟩) 0 room,.slice (some ⟨p,0,none⟩) room room] 103 (0,0)))
  (ho:w.heap[o]?=some (.cells (madeCells #[.int .i64 0] room) 3 (0,0))) (hp:w.heap[p]?=some (.cells (madeCells #[.int .i64 0] room) 3 (0,0))) (hne:o≠p):MAt w b o p room []:=by
 refine⟨hb,⟨_,ho,size_madeCells _ _,by simp [cJ]⟩,⟨List.replicate room 0,?_,by simp,fun i x hx=>by simp at hx⟩,hne,hr⟩
 rw [hp]
 congr 2
 apply Array.ext (by simp [size_madeCells,cJ])
 intro i h1 h2
 simp [madeCells,cJ,Nat.mod_one]
theorem jS(c:Nat)(n:Nat)(hn:n<=c)(h:c<=1000000)(w:World) :
  (Instr.makeSlice 31 (.int .i64 (n:Int)) (.int .i64 (c:Int))).run Tryz.prog w=.ok (.slice (some ⟨w.heap.size,0,none⟩) n c) (w.alloc (.cells (madeCells #[.int .i64 0] c) 3)):=by
 obtain⟨i0,hi,hz0,hz1,hz2⟩:=info_parts fT
 have:=run_make (P:=Tryz.prog) w 31 3 i0 (.int .i64 0) dQ hi hz0 .i64 .i64 (n:Int) (c:Int) (by omega) (by omega) (by rw [hz2];omega) (by omega)
 rw [hz1] at this
 simpa [Value.cells] using this
theorem jR(c:Nat)(h:c<=1000000)(w:World) :
  (Instr.makeSlice 31 (.int .i64 0) (.int .i64 (c:Int))).run Tryz.prog w=.ok (.slice (some ⟨w.heap.size,0,none⟩) 0 c) (w.alloc (.cells (madeCells #[.int .i64 0] c) 3)):=by
 simpa using jS c 0 (Nat.zero_le _) h w
theorem iP(w:World)(x y z:Obj):(((w.alloc x).alloc y).alloc z).drew.heap[w.heap.size]?=some x/\(((w.alloc x).alloc y).alloc z).drew.heap[w.heap.size+1]?=some y/\(((w.alloc x).alloc y).alloc z).drew.heap[w.heap.size+1+1]?=some z:=by
 have e1:(w.alloc x).heap.size=w.heap.size+1:=by simp
 have e2:((w.alloc x).alloc y).heap.size=w.heap.size+1+1:=by simp
 refine⟨?_,?_,?_⟩
 ·show (((w.alloc x).alloc y).alloc z).heap[w.heap.size]?=some x
  rw [Below.heap_alloc _ _ _ (by omega),Below.heap_alloc _ _ _ (by omega)]
  exact World.alloc_heap_new w x
 ·show (((w.alloc x).alloc y).alloc z).heap[w.heap.size+1]?=some y
  rw [Below.heap_alloc _ _ _ (by omega),<- e1]
  exact World.alloc_heap_new _ y
 ·show (((w.alloc x).alloc y).alloc z).heap[w.heap.size+1+1]?=some z
  rw [<- e2]
  exact World.alloc_heap_new _ z
theorem gR(w:World)(x y z:Obj):wBl w (((w.alloc x).alloc y).alloc z).drew:=
 (((bz9).alloc (by simp) _).alloc (by simp;omega) _).drew
structure New3(n b o p:Nat):Prop where
 b:n<=b
 o:n<=o
 p:n<=p
theorem aK0(room:Nat)(hr:room<=100000)(w:World) :
  Calls Tryz.prog 29 #[.int .i64 room] w fun e w'=>∃ b o p,e=.returned (.tuple #[.pointer (some ⟨b,0,none⟩),.int .i64 0])/\MAt w' b o p room []/\New3 w.heap.size b o p/\wBl w w':=by
 have m0:=jR room (by omega)
 have m1:=jS room room lz9 (by omega)
 have h0:(0:Int)<=(room:Int):=by omega
 have h1:(room:Int)<=100000:=by omega
 go_enter Tryz.func29,Tryz.ntmps29
 go_wp2
 go_region
 all_goals go_wp2
 all_goals go_ret2
 ·obtain⟨e1,e2,e3⟩:=iP w (.cells (madeCells #[.int .i64 0] room) 3) (.cells (madeCells #[.int .i64 0] room) 3) (.cells #[.slice (some ⟨w.heap.size,0,none⟩) 0 room,.slice (some ⟨w.heap.size+1,0,none⟩) room room] 103)
  exact⟨_,_,_,rfl,MAt.made hr e3 e1 e2 (by omega),⟨by omega,by omega,by omega⟩,gR _ _ _ _⟩
 ·obtain⟨e1,e2,e3⟩:=iP w (.cells (madeCells #[.int .i64 0] room) 3) (.cells (madeCells #[.int .i64 0] room) 3) (.cells #[.slice (some ⟨w.heap.size+1,0,none⟩) 0 room,.slice (some ⟨w.heap.size,0,none⟩) room room] 103)
  exact⟨_,_,_,rfl,MAt.made hr e3 e2 e1 (by omega),⟨by omega,by omega,by omega⟩,gR _ _ _ _⟩
end
end Go.Proofs.YtliflleaeimngaaGreatDoor
