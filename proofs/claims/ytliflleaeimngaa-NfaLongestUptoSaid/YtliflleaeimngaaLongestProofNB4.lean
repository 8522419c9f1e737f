/-
  Parts of the proof.
-/
import Derived.Test.YtliflleaeimngaaLongestProofNA0
import Derived.Test.YtliflleaeimngaaLongestProofNB3
import Derived.Test.YtliflleaeimngaaLongestProofNB2
import Derived.Lib.ItoaLen
import Derived.Deep.RegionHeld3
import Derived.Laws.MakeOwn
import Derived.Laws.CopyOwn
set_option linter.unusedSimpArgs false
set_option maxRecDepth 100000
set_option maxHeartbeats 8000000
namespace Go.Proofs.Ytliflleaeimngaa
open Go Go.RowKit
section
attribute [local go_sem] Oper.semAt_some bI
def bL(p:Pg)(k:Nat)(i:Ins):Bool:=
 !(shW i.op==[])&&decide (i=usI (shT i.op) i)&&(!hsT (shT i.op) 2||blw i.x p.L.length)&&(!hsT (shT i.op) 4||blw i.y p.L.length)&&(!hsT (shT i.op) 8||blw i.n p.g)&&(!hsT (shT i.op) 16||blw i.n p.k)&&(!hsT (shT i.op) 32||rbd i.mn i.mx)&&(!hsT (shT i.op) 64||decide ((k:Int)+1<p.L.length))
def RaP(p:Pg)(k:Nat)(i:Ins)(w:World)(e:Ending)(w':World):Prop:=e=.returned (.bool (bL p k i))/\wBl w w'
theorem bR{t:Int}{i j:Ins}(h:t∈trs)(hj:j=usI t i){w:World}(x:Ext w):Calls Try.prog 44 #[.int .i64 t,.agg #[.int .i64 i.op,.int .i64 i.x,.int .i64 i.y,.int .i64 i.n,.int .i64 i.mn,.int .i64 i.mx,.int .u64 (aB i.s 0),.int .u64 (aB i.s 1),.int .u64 (aB i.s 2),.int .u64 (aB i.s 3)]] x.val fun e w'=>e=.returned (.agg #[.int .i64 j.op,.int .i64 j.x,.int .i64 j.y,.int .i64 j.n,.int .i64 j.mn,.int .i64 j.mx,.int .u64 (aB j.s 0),.int .u64 (aB j.s 1),.int .u64 (aB j.s 2),.int .u64 (aB j.s 3)])/\Below x.val.heap.size x.val w':=(sP h i x.val).mono fun e w' ⟨j',h1,h2,h3⟩=>by
 subst hj h1
 exact⟨h2,h3⟩
theorem uH{w:World}{p:Pg}(h:PgI w p){k:Nat}{i:Ins}(hi:p.L[k]?=some i)(hk:p.L.length<=40000)(ho:i.op=1) :
  Calls Try.prog 35 #[.agg #[.slice p.q p.L.length p.c,.int .i64 p.g,.int .i64 p.k,.bool p.f],.int .i64 (k:Int)] w (RaP p k i w):=by
 have B1:Hid (wBl w (w.alloc (.cells #[.slice p.q p.L.length p.c,.int .i64 p.g,.int .i64 p.k,.bool p.f] 24))):=bz9
 have n1:=aE w (.cells #[.slice p.q p.L.length p.c,.int .i64 p.g,.int .i64 p.k,.bool p.f] 24)
 have p0:(w.alloc (.cells #[.slice p.q p.L.length p.c,.int .i64 p.g,.int .i64 p.k,.bool p.f] 24)).cell? ⟨w.heap.size,0,none⟩=some (.slice p.q p.L.length p.c):=aA n1 (i:=0) rfl
 have X1:Hid ((w.alloc (.cells #[.slice p.q p.L.length p.c,.int .i64 p.g,.int .i64 p.k,.bool p.f] 24)).heap[w.heap.size]?=some (.cells #[.slice p.q p.L.length p.c,.int .i64 p.g,.int .i64 p.k,.bool p.f] 24 (0,0))):=n1
 obtain⟨g1,o1,hq1,hl1,c0,c1,c2,c3,c4,c5,c6,c7,c8,c9⟩:=(h.li.kept B1.o).ten hi
 have hlt:=(f7.1 hi).1
 have i0:(k:Int)<(p.L.length:Int):=by omega
 have Q1:=aD hq1
 have HO:=aD ho
 clear hq1 n1 ho
 go_enter Try.func35,Try.ntmps35
 go_upto_region 1 with fail
 generalize (w.alloc (.cells #[.slice p.q p.L.length p.c,.int .i64 p.g,.int .i64 p.k,.bool p.f] 24))=w1 at B1 p0 X1 hl1 c0 c1 c2 c3 c4 c5 c6 c7 c8 c9 ⊢
 rw [Q1.o] at p0
 have hl2:=aC X1.o
 go_region
 clear p0 c0 c1 c2 c3 c4 c5 c6 c7 c8 c9 hl1
 have B2:Hid (wBl w (w1.alloc (.cells #[.int .i64 i.op,.int .i64 i.x,.int .i64 i.y,.int .i64 i.n,.int .i64 i.mn,.int .i64 i.mx,.int .u64 (aB i.s 0),.int .u64 (aB i.s 1),.int .u64 (aB i.s 2),.int .u64 (aB i.s 3)] 47)).drew):=(aF B1.o (bz9) lz9).drew
 have X2:Hid ((w1.alloc (.cells #[.int .i64 i.op,.int .i64 i.x,.int .i64 i.y,.int .i64 i.n,.int .i64 i.mn,.int .i64 i.mx,.int .u64 (aB i.s 0),.int .u64 (aB i.s 1),.int .u64 (aB i.s 2),.int .u64 (aB i.s 3)] 47)).drew.heap[w1.heap.size]?=some (.cells #[.int .i64 i.op,.int .i64 i.x,.int .i64 i.y,.int .i64 i.n,.int .i64 i.mn,.int .i64 i.mx,.int .u64 (aB i.s 0),.int .u64 (aB i.s 1),.int .u64 (aB i.s 2),.int .u64 (aB i.s 3)] 47 (0,0))):=aE w1 _
 have X3:Hid ((w1.alloc (.cells #[.int .i64 i.op,.int .i64 i.x,.int .i64 i.y,.int .i64 i.n,.int .i64 i.mn,.int .i64 i.mx,.int .u64 (aB i.s 0),.int .u64 (aB i.s 1),.int .u64 (aB i.s 2),.int .u64 (aB i.s 3)] 47)).drew.heap[w.heap.size]?=some (.cells #[.slice p.q p.L.length p.c,.int .i64 p.g,.int .i64 p.k,.bool p.f] 24 (0,0))):=(Below.heap_alloc _ _ _ hl2).trans X1.o
 generalize (w1.alloc (.cells #[.int .i64 i.op,.int .i64 i.x,.int .i64 i.y,.int .i64 i.n,.int .i64 i.mn,.int .i64 i.mx,.int .u64 (aB i.s 0),.int .u64 (aB i.s 1),.int .u64 (aB i.s 2),.int .u64 (aB i.s 3)] 47)).drew=w2 at B2 X2 X3 ⊢
 obtain⟨j,hj⟩:∃ j,j=usI 65 i:=⟨_,rfl⟩
 have hc:=fun x:Ext w2=>bR (t:=65) (by decide) hj x
 obtain⟨io,ix,iy,inn,imn,imx,iss⟩:=i
 simp only at HO X2 hc hj ⊢
 obtain rfl:=HO.o
 have d0:=aA X2.o (i:=0) rfl
 have d1:=aA X2.o (i:=1) rfl
 have d2:=aA X2.o (i:=2) rfl
 have d3:=aA X2.o (i:=3) rfl
 have d4:=aA X2.o (i:=4) rfl
 have d5:=aA X2.o (i:=5) rfl
 have d6:=aA X2.o (i:=6) rfl
 have d7:=aA X2.o (i:=7) rfl
 have d8:=aA X2.o (i:=8) rfl
 have d9:=aA X2.o (i:=9) rfl
 have e1:=aA X3.o (i:=1) rfl
 have e2:=aA X3.o (i:=2) rfl
 have l2:=aC X2.o
 have l3:=aC X3.o
 have hs:=fun (W:World)=>(show Calls Try.prog 43 #[.int .i64 1] W fun e w'=>e=.returned (.tuple #[.string ⟨#[98,121,116,101]⟩,.int .i64 65])/\w'=W from bW 1 W)
 have q2:hsT 65 2=false:=by decide
 have q4:hsT 65 4=false:=by decide
 have q8:hsT 65 8=false:=by decide
 have q16:hsT 65 16=false:=by decide
 have q32:hsT 65 32=false:=by decide
 have q64:hsT 65 64=true:=by decide
 have EI:=fun W=>bN ⟨1,ix,iy,inn,imn,imx,iss⟩ j W
 simp only at EI
 have hF:bL p k ⟨1,ix,iy,inn,imn,imx,iss⟩=(decide ((⟨1,ix,iy,inn,imn,imx,iss⟩:Ins)=j)&&decide ((k:Int)+1<p.L.length)):=by
  rw [hj]
  show (!(shW 1==[])&&decide ((⟨1,ix,iy,inn,imn,imx,iss⟩:Ins)=usI 65 ⟨1,ix,iy,inn,imn,imx,iss⟩)&&(!hsT 65 2||blw ix p.L.length)&&(!hsT 65 4||blw iy p.L.length)&&(!hsT 65 8||blw inn p.g)&&(!hsT 65 16||blw inn p.k)&&(!hsT 65 32||rbd imn imx)&&(!hsT 65 64||decide ((k:Int)+1<p.L.length)))=_
  rw [show (!(shW 1==[]))=true from rfl,q2,q4,q8,q16,q32,q64]
  simp
 have HF:=aD hF
 clear hF
 clear hj
 go_wp2_with (go_at_call 43;(with_reducible refine(hs _).mono ?_);rintro e w5 ⟨rfl,rfl⟩)
 refine wx9 ?_
 repeat (go_big_quiet_step (first | exact rfl | exact EI _ |(go_at_call 44;exact bJ (hc _))))
 refine wpQuiet_nil ?_
 intro w6 hw6
 have hb6:=bS hw6
 have B6:=aD (aF B2.o hb6 lz9)
 have y1:=(hb6.cell (p:=⟨w1.heap.size,1,none⟩) l2).trans d1
 have y2:=(hb6.cell (p:=⟨w1.heap.size,2,none⟩) l2).trans d2
 have y3:=(hb6.cell (p:=⟨w1.heap.size,3,none⟩) l2).trans d3
 have y4:=(hb6.cell (p:=⟨w1.heap.size,4,none⟩) l2).trans d4
 have y5:=(hb6.cell (p:=⟨w1.heap.size,5,none⟩) l2).trans d5
 have z1:=(hb6.cell (p:=⟨w.heap.size,1,none⟩) l3).trans e1
 have z2:=(hb6.cell (p:=⟨w.heap.size,2,none⟩) l3).trans e2
 clear hw6 hb6 d0 d1 d2 d3 d4 d5 d6 d7 d8 d9 e1 e2 hc EI hs
 obtain⟨r,hr⟩:∃ r,decide ((⟨1,ix,iy,inn,imn,imx,iss⟩:Ins)=j)=r:=⟨_,rfl⟩
 rw [hr] at HF ⊢
 clear hr hi
 have hw1:IntKind.wrap .i64 ((k:Int)+1)=(k:Int)+1:=wrap_small _ (by omega) (by omega)
 go_wp2_with first
  |(go_at_call 45;(with_reducible refine(cA _ _ _).mono ?_);rintro e w7 ⟨rfl,rfl⟩)
  |(go_at_call 34;(with_reducible refine(aX _ _ _).mono ?_);rintro e w7 ⟨rfl,rfl⟩)
  |(go_at_call 46;(with_reducible refine(bT _ _ _).mono ?_);rintro e w7 ⟨rfl,rfl⟩)
 all_goals go_ret
 all_goals
  refine⟨?_,B6.o⟩
  rw [HF.o]
  first | rfl | simp_all
theorem uG{w:World}{p:Pg}(h:PgI w p){k:Nat}{i:Ins}(hi:p.L[k]?=some i)(hk:p.L.length<=40000)(ho:i.op=2) :
  Calls Try.prog 35 #[.agg #[.slice p.q p.L.length p.c,.int .i64 p.g,.int .i64 p.k,.bool p.f],.int .i64 (k:Int)] w (RaP p k i w):=by
 have B1:Hid (wBl w (w.alloc (.cells #[.slice p.q p.L.length p.c,.int .i64 p.g,.int .i64 p.k,.bool p.f] 24))):=bz9
 have n1:=aE w (.cells #[.slice p.q p.L.length p.c,.int .i64 p.g,.int .i64 p.k,.bool p.f] 24)
 have p0:(w.alloc (.cells #[.slice p.q p.L.length p.c,.int .i64 p.g,.int .i64 p.k,.bool p.f] 24)).cell? ⟨w.heap.size,0,none⟩=some (.slice p.q p.L.length p.c):=aA n1 (i:=0) rfl
 have X1:Hid ((w.alloc (.cells #[.slice p.q p.L.length p.c,.int .i64 p.g,.int .i64 p.k,.bool p.f] 24)).heap[w.heap.size]?=some (.cells #[.slice p.q p.L.length p.c,.int .i64 p.g,.int .i64 p.k,.bool p.f] 24 (0,0))):=n1
 obtain⟨g1,o1,hq1,hl1,c0,c1,c2,c3,c4,c5,c6,c7,c8,c9⟩:=(h.li.kept B1.o).ten hi
 have hlt:=(f7.1 hi).1
 have i0:(k:Int)<(p.L.length:Int):=by omega
 have Q1:=aD hq1
 have HO:=aD ho
 clear hq1 n1 ho
 go_enter Try.func35,Try.ntmps35
 go_upto_region 1 with fail
 generalize (w.alloc (.cells #[.slice p.q p.L.length p.c,.int .i64 p.g,.int .i64 p.k,.bool p.f] 24))=w1 at B1 p0 X1 hl1 c0 c1 c2 c3 c4 c5 c6 c7 c8 c9 ⊢
 rw [Q1.o] at p0
 have hl2:=aC X1.o
 go_region
 clear p0 c0 c1 c2 c3 c4 c5 c6 c7 c8 c9 hl1
 have B2:Hid (wBl w (w1.alloc (.cells #[.int .i64 i.op,.int .i64 i.x,.int .i64 i.y,.int .i64 i.n,.int .i64 i.mn,.int .i64 i.mx,.int .u64 (aB i.s 0),.int .u64 (aB i.s 1),.int .u64 (aB i.s 2),.int .u64 (aB i.s 3)] 47)).drew):=(aF B1.o (bz9) lz9).drew
 have X2:Hid ((w1.alloc (.cells #[.int .i64 i.op,.int .i64 i.x,.int .i64 i.y,.int .i64 i.n,.int .i64 i.mn,.int .i64 i.mx,.int .u64 (aB i.s 0),.int .u64 (aB i.s 1),.int .u64 (aB i.s 2),.int .u64 (aB i.s 3)] 47)).drew.heap[w1.heap.size]?=some (.cells #[.int .i64 i.op,.int .i64 i.x,.int .i64 i.y,.int .i64 i.n,.int .i64 i.mn,.int .i64 i.mx,.int .u64 (aB i.s 0),.int .u64 (aB i.s 1),.int .u64 (aB i.s 2),.int .u64 (aB i.s 3)] 47 (0,0))):=aE w1 _
 have X3:Hid ((w1.alloc (.cells #[.int .i64 i.op,.int .i64 i.x,.int .i64 i.y,.int .i64 i.n,.int .i64 i.mn,.int .i64 i.mx,.int .u64 (aB i.s 0),.int .u64 (aB i.s 1),.int .u64 (aB i.s 2),.int .u64 (aB i.s 3)] 47)).drew.heap[w.heap.size]?=some (.cells #[.slice p.q p.L.length p.c,.int .i64 p.g,.int .i64 p.k,.bool p.f] 24 (0,0))):=(Below.heap_alloc _ _ _ hl2).trans X1.o
 generalize (w1.alloc (.cells #[.int .i64 i.op,.int .i64 i.x,.int .i64 i.y,.int .i64 i.n,.int .i64 i.mn,.int .i64 i.mx,.int .u64 (aB i.s 0),.int .u64 (aB i.s 1),.int .u64 (aB i.s 2),.int .u64 (aB i.s 3)] 47)).drew=w2 at B2 X2 X3 ⊢
 obtain⟨j,hj⟩:∃ j,j=usI 6 i:=⟨_,rfl⟩
 have hc:=fun x:Ext w2=>bR (t:=6) (by decide) hj x
 obtain⟨io,ix,iy,inn,imn,imx,iss⟩:=i
 simp only at HO X2 hc hj ⊢
 obtain rfl:=HO.o
 have d0:=aA X2.o (i:=0) rfl
 have d1:=aA X2.o (i:=1) rfl
 have d2:=aA X2.o (i:=2) rfl
 have d3:=aA X2.o (i:=3) rfl
 have d4:=aA X2.o (i:=4) rfl
 have d5:=aA X2.o (i:=5) rfl
 have d6:=aA X2.o (i:=6) rfl
 have d7:=aA X2.o (i:=7) rfl
 have d8:=aA X2.o (i:=8) rfl
 have d9:=aA X2.o (i:=9) rfl
 have e1:=aA X3.o (i:=1) rfl
 have e2:=aA X3.o (i:=2) rfl
 have l2:=aC X2.o
 have l3:=aC X3.o
 have hs:=fun (W:World)=>(show Calls Try.prog 43 #[.int .i64 2] W fun e w'=>e=.returned (.tuple #[.string ⟨#[115,112,108,105,116]⟩,.int .i64 6])/\w'=W from bW 2 W)
 have q2:hsT 6 2=true:=by decide
 have q4:hsT 6 4=true:=by decide
 have q8:hsT 6 8=false:=by decide
 have q16:hsT 6 16=false:=by decide
 have q32:hsT 6 32=false:=by decide
 have q64:hsT 6 64=false:=by decide
 have EI:=fun W=>bN ⟨2,ix,iy,inn,imn,imx,iss⟩ j W
 simp only at EI
 have hF:bL p k ⟨2,ix,iy,inn,imn,imx,iss⟩=(decide ((⟨2,ix,iy,inn,imn,imx,iss⟩:Ins)=j)&&blw ix p.L.length&&blw iy p.L.length):=by
  rw [hj]
  show (!(shW 2==[])&&decide ((⟨2,ix,iy,inn,imn,imx,iss⟩:Ins)=usI 6 ⟨2,ix,iy,inn,imn,imx,iss⟩)&&(!hsT 6 2||blw ix p.L.length)&&(!hsT 6 4||blw iy p.L.length)&&(!hsT 6 8||blw inn p.g)&&(!hsT 6 16||blw inn p.k)&&(!hsT 6 32||rbd imn imx)&&(!hsT 6 64||decide ((k:Int)+1<p.L.length)))=_
  rw [show (!(shW 2==[]))=true from rfl,q2,q4,q8,q16,q32,q64]
  simp
 have HF:=aD hF
 clear hF
 clear hj
 go_wp2_with (go_at_call 43;(with_reducible refine(hs _).mono ?_);rintro e w5 ⟨rfl,rfl⟩)
 refine wx9 ?_
 repeat (go_big_quiet_step (first | exact rfl | exact EI _ |(go_at_call 44;exact bJ (hc _))))
 refine wpQuiet_nil ?_
 intro w6 hw6
 have hb6:=bS hw6
 have B6:=aD (aF B2.o hb6 lz9)
 have y1:=(hb6.cell (p:=⟨w1.heap.size,1,none⟩) l2).trans d1
 have y2:=(hb6.cell (p:=⟨w1.heap.size,2,none⟩) l2).trans d2
 have y3:=(hb6.cell (p:=⟨w1.heap.size,3,none⟩) l2).trans d3
 have y4:=(hb6.cell (p:=⟨w1.heap.size,4,none⟩) l2).trans d4
 have y5:=(hb6.cell (p:=⟨w1.heap.size,5,none⟩) l2).trans d5
 have z1:=(hb6.cell (p:=⟨w.heap.size,1,none⟩) l3).trans e1
 have z2:=(hb6.cell (p:=⟨w.heap.size,2,none⟩) l3).trans e2
 clear hw6 hb6 d0 d1 d2 d3 d4 d5 d6 d7 d8 d9 e1 e2 hc EI hs
 obtain⟨r,hr⟩:∃ r,decide ((⟨2,ix,iy,inn,imn,imx,iss⟩:Ins)=j)=r:=⟨_,rfl⟩
 rw [hr] at HF ⊢
 clear hr hi
 have hw1:IntKind.wrap .i64 ((k:Int)+1)=(k:Int)+1:=wrap_small _ (by omega) (by omega)
 go_wp2_with first
  |(go_at_call 45;(with_reducible refine(cA _ _ _).mono ?_);rintro e w7 ⟨rfl,rfl⟩)
  |(go_at_call 34;(with_reducible refine(aX _ _ _).mono ?_);rintro e w7 ⟨rfl,rfl⟩)
  |(go_at_call 46;(with_reducible refine(bT _ _ _).mono ?_);rintro e w7 ⟨rfl,rfl⟩)
 all_goals go_ret
 all_goals
  refine⟨?_,B6.o⟩
  rw [HF.o]
  first | rfl | simp_all
theorem uF{w:World}{p:Pg}(h:PgI w p){k:Nat}{i:Ins}(hi:p.L[k]?=some i)(hk:p.L.length<=40000)(ho:i.op=3) :
  Calls Try.prog 35 #[.agg #[.slice p.q p.L.length p.c,.int .i64 p.g,.int .i64 p.k,.bool p.f],.int .i64 (k:Int)] w (RaP p k i w):=by
 have B1:Hid (wBl w (w.alloc (.cells #[.slice p.q p.L.length p.c,.int .i64 p.g,.int .i64 p.k,.bool p.f] 24))):=bz9
 have n1:=aE w (.cells #[.slice p.q p.L.length p.c,.int .i64 p.g,.int .i64 p.k,.bool p.f] 24)
 have p0:(w.alloc (.cells #[.slice p.q p.L.length p.c,.int .i64 p.g,.int .i64 p.k,.bool p.f] 24)).cell? ⟨w.heap.size,0,none⟩=some (.slice p.q p.L.length p.c):=aA n1 (i:=0) rfl
 have X1:Hid ((w.alloc (.cells #[.slice p.q p.L.length p.c,.int .i64 p.g,.int .i64 p.k,.bool p.f] 24)).heap[w.heap.size]?=some (.cells #[.slice p.q p.L.length p.c,.int .i64 p.g,.int .i64 p.k,.bool p.f] 24 (0,0))):=n1
 obtain⟨g1,o1,hq1,hl1,c0,c1,c2,c3,c4,c5,c6,c7,c8,c9⟩:=(h.li.kept B1.o).ten hi
 have hlt:=(f7.1 hi).1
 have i0:(k:Int)<(p.L.length:Int):=by omega
 have Q1:=aD hq1
 have HO:=aD ho
 clear hq1 n1 ho
 go_enter Try.func35,Try.ntmps35
 go_upto_region 1 with fail
 generalize (w.alloc (.cells #[.slice p.q p.L.length p.c,.int .i64 p.g,.int .i64 p.k,.bool p.f] 24))=w1 at B1 p0 X1 hl1 c0 c1 c2 c3 c4 c5 c6 c7 c8 c9 ⊢
 rw [Q1.o] at p0
 have hl2:=aC X1.o
 go_region
 clear p0 c0 c1 c2 c3 c4 c5 c6 c7 c8 c9 hl1
 have B2:Hid (wBl w (w1.alloc (.cells #[.int .i64 i.op,.int .i64 i.x,.int .i64 i.y,.int .i64 i.n,.int .i64 i.mn,.int .i64 i.mx,.int .u64 (aB i.s 0),.int .u64 (aB i.s 1),.int .u64 (aB i.s 2),.int .u64 (aB i.s 3)] 47)).drew):=(aF B1.o (bz9) lz9).drew
 have X2:Hid ((w1.alloc (.cells #[.int .i64 i.op,.int .i64 i.x,.int .i64 i.y,.int .i64 i.n,.int .i64 i.mn,.int .i64 i.mx,.int .u64 (aB i.s 0),.int .u64 (aB i.s 1),.int .u64 (aB i.s 2),.int .u64 (aB i.s 3)] 47)).drew.heap[w1.heap.size]?=some (.cells #[.int .i64 i.op,.int .i64 i.x,.int .i64 i.y,.int .i64 i.n,.int .i64 i.mn,.int .i64 i.mx,.int .u64 (aB i.s 0),.int .u64 (aB i.s 1),.int .u64 (aB i.s 2),.int .u64 (aB i.s 3)] 47 (0,0))):=aE w1 _
 have X3:Hid ((w1.alloc (.cells #[.int .i64 i.op,.int .i64 i.x,.int .i64 i.y,.int .i64 i.n,.int .i64 i.mn,.int .i64 i.mx,.int .u64 (aB i.s 0),.int .u64 (aB i.s 1),.int .u64 (aB i.s 2),.int .u64 (aB i.s 3)] 47)).drew.heap[w.heap.size]?=some (.cells #[.slice p.q p.L.length p.c,.int .i64 p.g,.int .i64 p.k,.bool p.f] 24 (0,0))):=(Below.heap_alloc _ _ _ hl2).trans X1.o
 generalize (w1.alloc (.cells #[.int .i64 i.op,.int .i64 i.x,.int .i64 i.y,.int .i64 i.n,.int .i64 i.mn,.int .i64 i.mx,.int .u64 (aB i.s 0),.int .u64 (aB i.s 1),.int .u64 (aB i.s 2),.int .u64 (aB i.s 3)] 47)).drew=w2 at B2 X2 X3 ⊢
 obtain⟨j,hj⟩:∃ j,j=usI 2 i:=⟨_,rfl⟩
 have hc:=fun x:Ext w2=>bR (t:=2) (by decide) hj x
 obtain⟨io,ix,iy,inn,imn,imx,iss⟩:=i
 simp only at HO X2 hc hj ⊢
 obtain rfl:=HO.o
 have d0:=aA X2.o (i:=0) rfl
 have d1:=aA X2.o (i:=1) rfl
 have d2:=aA X2.o (i:=2) rfl
 have d3:=aA X2.o (i:=3) rfl
 have d4:=aA X2.o (i:=4) rfl
 have d5:=aA X2.o (i:=5) rfl
 have d6:=aA X2.o (i:=6) rfl
 have d7:=aA X2.o (i:=7) rfl
 have d8:=aA X2.o (i:=8) rfl
 have d9:=aA X2.o (i:=9) rfl
 have e1:=aA X3.o (i:=1) rfl
 have e2:=aA X3.o (i:=2) rfl
 have l2:=aC X2.o
 have l3:=aC X3.o
 have hs:=fun (W:World)=>(show Calls Try.prog 43 #[.int .i64 3] W fun e w'=>e=.returned (.tuple #[.string ⟨#[106,117,109,112]⟩,.int .i64 2])/\w'=W from bW 3 W)
 have q2:hsT 2 2=true:=by decide
 have q4:hsT 2 4=false:=by decide
 have q8:hsT 2 8=false:=by decide
 have q16:hsT 2 16=false:=by decide
 have q32:hsT 2 32=false:=by decide
 have q64:hsT 2 64=false:=by decide
 have EI:=fun W=>bN ⟨3,ix,iy,inn,imn,imx,iss⟩ j W
 simp only at EI
 have hF:bL p k ⟨3,ix,iy,inn,imn,imx,iss⟩=(decide ((⟨3,ix,iy,inn,imn,imx,iss⟩:Ins)=j)&&blw ix p.L.length):=by
  rw [hj]
  show (!(shW 3==[])&&decide ((⟨3,ix,iy,inn,imn,imx,iss⟩:Ins)=usI 2 ⟨3,ix,iy,inn,imn,imx,iss⟩)&&(!hsT 2 2||blw ix p.L.length)&&(!hsT 2 4||blw iy p.L.length)&&(!hsT 2 8||blw inn p.g)&&(!hsT 2 16||blw inn p.k)&&(!hsT 2 32||rbd imn imx)&&(!hsT 2 64||decide ((k:Int)+1<p.L.length)))=_
  rw [show (!(shW 3==[]))=true from rfl,q2,q4,q8,q16,q32,q64]
  simp
 have HF:=aD hF
 clear hF
 clear hj
 go_wp2_with (go_at_call 43;(with_reducible refine(hs _).mono ?_);rintro e w5 ⟨rfl,rfl⟩)
 refine wx9 ?_
 repeat (go_big_quiet_step (first | exact rfl | exact EI _ |(go_at_call 44;exact bJ (hc _))))
 refine wpQuiet_nil ?_
 intro w6 hw6
 have hb6:=bS hw6
 have B6:=aD (aF B2.o hb6 lz9)
 have y1:=(hb6.cell (p:=⟨w1.heap.size,1,none⟩) l2).trans d1
 have y2:=(hb6.cell (p:=⟨w1.heap.size,2,none⟩) l2).trans d2
 have y3:=(hb6.cell (p:=⟨w1.heap.size,3,none⟩) l2).trans d3
 have y4:=(hb6.cell (p:=⟨w1.heap.size,4,none⟩) l2).trans d4
 have y5:=(hb6.cell (p:=⟨w1.heap.size,5,none⟩) l2).trans d5
 have z1:=(hb6.cell (p:=⟨w.heap.size,1,none⟩) l3).trans e1
 have z2:=(hb6.cell (p:=⟨w.heap.size,2,none⟩) l3).trans e2
 clear hw6 hb6 d0 d1 d2 d3 d4 d5 d6 d7 d8 d9 e1 e2 hc EI hs
 obtain⟨r,hr⟩:∃ r,decide ((⟨3,ix,iy,inn,imn,imx,iss⟩:Ins)=j)=r:=⟨_,rfl⟩
 rw [hr] at HF ⊢
 clear hr hi
 have hw1:IntKind.wrap .i64 ((k:Int)+1)=(k:Int)+1:=wrap_small _ (by omega) (by omega)
 go_wp2_with first
  |(go_at_call 45;(with_reducible refine(cA _ _ _).mono ?_);rintro e w7 ⟨rfl,rfl⟩)
  |(go_at_call 34;(with_reducible refine(aX _ _ _).mono ?_);rintro e w7 ⟨rfl,rfl⟩)
  |(go_at_call 46;(with_reducible refine(bT _ _ _).mono ?_);rintro e w7 ⟨rfl,rfl⟩)
 all_goals go_ret
 all_goals
  refine⟨?_,B6.o⟩
  rw [HF.o]
  first | rfl | simp_all
theorem uE{w:World}{p:Pg}(h:PgI w p){k:Nat}{i:Ins}(hi:p.L[k]?=some i)(hk:p.L.length<=40000)(ho:i.op=4) :
  Calls Try.prog 35 #[.agg #[.slice p.q p.L.length p.c,.int .i64 p.g,.int .i64 p.k,.bool p.f],.int .i64 (k:Int)] w (RaP p k i w):=by
 have B1:Hid (wBl w (w.alloc (.cells #[.slice p.q p.L.length p.c,.int .i64 p.g,.int .i64 p.k,.bool p.f] 24))):=bz9
 have n1:=aE w (.cells #[.slice p.q p.L.length p.c,.int .i64 p.g,.int .i64 p.k,.bool p.f] 24)
 have p0:(w.alloc (.cells #[.slice p.q p.L.length p.c,.int .i64 p.g,.int .i64 p.k,.bool p.f] 24)).cell? ⟨w.heap.size,0,none⟩=some (.slice p.q p.L.length p.c):=aA n1 (i:=0) rfl
 have X1:Hid ((w.alloc (.cells #[.slice p.q p.L.length p.c,.int .i64 p.g,.int .i64 p.k,.bool p.f] 24)).heap[w.heap.size]?=some (.cells #[.slice p.q p.L.length p.c,.int .i64 p.g,.int .i64 p.k,.bool p.f] 24 (0,0))):=n1
 obtain⟨g1,o1,hq1,hl1,c0,c1,c2,c3,c4,c5,c6,c7,c8,c9⟩:=(h.li.kept B1.o).ten hi
 have hlt:=(f7.1 hi).1
 have i0:(k:Int)<(p.L.length:Int):=by omega
 have Q1:=aD hq1
 have HO:=aD ho
 clear hq1 n1 ho
 go_enter Try.func35,Try.ntmps35
 go_upto_region 1 with fail
 generalize (w.alloc (.cells #[.slice p.q p.L.length p.c,.int .i64 p.g,.int .i64 p.k,.bool p.f] 24))=w1 at B1 p0 X1 hl1 c0 c1 c2 c3 c4 c5 c6 c7 c8 c9 ⊢
 rw [Q1.o] at p0
 have hl2:=aC X1.o
 go_region
 clear p0 c0 c1 c2 c3 c4 c5 c6 c7 c8 c9 hl1
 have B2:Hid (wBl w (w1.alloc (.cells #[.int .i64 i.op,.int .i64 i.x,.int .i64 i.y,.int .i64 i.n,.int .i64 i.mn,.int .i64 i.mx,.int .u64 (aB i.s 0),.int .u64 (aB i.s 1),.int .u64 (aB i.s 2),.int .u64 (aB i.s 3)] 47)).drew):=(aF B1.o (bz9) lz9).drew
 have X2:Hid ((w1.alloc (.cells #[.int .i64 i.op,.int .i64 i.x,.int .i64 i.y,.int .i64 i.n,.int .i64 i.mn,.int .i64 i.mx,.int .u64 (aB i.s 0),.int .u64 (aB i.s 1),.int .u64 (aB i.s 2),.int .u64 (aB i.s 3)] 47)).drew.heap[w1.heap.size]?=some (.cells #[.int .i64 i.op,.int .i64 i.x,.int .i64 i.y,.int .i64 i.n,.int .i64 i.mn,.int .i64 i.mx,.int .u64 (aB i.s 0),.int .u64 (aB i.s 1),.int .u64 (aB i.s 2),.int .u64 (aB i.s 3)] 47 (0,0))):=aE w1 _
 have X3:Hid ((w1.alloc (.cells #[.int .i64 i.op,.int .i64 i.x,.int .i64 i.y,.int .i64 i.n,.int .i64 i.mn,.int .i64 i.mx,.int .u64 (aB i.s 0),.int .u64 (aB i.s 1),.int .u64 (aB i.s 2),.int .u64 (aB i.s 3)] 47)).drew.heap[w.heap.size]?=some (.cells #[.slice p.q p.L.length p.c,.int .i64 p.g,.int .i64 p.k,.bool p.f] 24 (0,0))):=(Below.heap_alloc _ _ _ hl2).trans X1.o
 generalize (w1.alloc (.cells #[.int .i64 i.op,.int .i64 i.x,.int .i64 i.y,.int .i64 i.n,.int .i64 i.mn,.int .i64 i.mx,.int .u64 (aB i.s 0),.int .u64 (aB i.s 1),.int .u64 (aB i.s 2),.int .u64 (aB i.s 3)] 47)).drew=w2 at B2 X2 X3 ⊢
 obtain⟨j,hj⟩:∃ j,j=usI 64 i:=⟨_,rfl⟩
 have hc:=fun x:Ext w2=>bR (t:=64) (by decide) hj x
 obtain⟨io,ix,iy,inn,imn,imx,iss⟩:=i
 simp only at HO X2 hc hj ⊢
 obtain rfl:=HO.o
 have d0:=aA X2.o (i:=0) rfl
 have d1:=aA X2.o (i:=1) rfl
 have d2:=aA X2.o (i:=2) rfl
 have d3:=aA X2.o (i:=3) rfl
 have d4:=aA X2.o (i:=4) rfl
 have d5:=aA X2.o (i:=5) rfl
 have d6:=aA X2.o (i:=6) rfl
 have d7:=aA X2.o (i:=7) rfl
 have d8:=aA X2.o (i:=8) rfl
 have d9:=aA X2.o (i:=9) rfl
 have e1:=aA X3.o (i:=1) rfl
 have e2:=aA X3.o (i:=2) rfl
 have l2:=aC X2.o
 have l3:=aC X3.o
 have hs:=fun (W:World)=>(show Calls Try.prog 43 #[.int .i64 4] W fun e w'=>e=.returned (.tuple #[.string ⟨#[98,101,103,105,110]⟩,.int .i64 64])/\w'=W from bW 4 W)
 have q2:hsT 64 2=false:=by decide
 have q4:hsT 64 4=false:=by decide
 have q8:hsT 64 8=false:=by decide
 have q16:hsT 64 16=false:=by decide
 have q32:hsT 64 32=false:=by decide
 have q64:hsT 64 64=true:=by decide
 have EI:=fun W=>bN ⟨4,ix,iy,inn,imn,imx,iss⟩ j W
 simp only at EI
 have hF:bL p k ⟨4,ix,iy,inn,imn,imx,iss⟩=(decide ((⟨4,ix,iy,inn,imn,imx,iss⟩:Ins)=j)&&decide ((k:Int)+1<p.L.length)):=by
  rw [hj]
  show (!(shW 4==[])&&decide ((⟨4,ix,iy,inn,imn,imx,iss⟩:Ins)=usI 64 ⟨4,ix,iy,inn,imn,imx,iss⟩)&&(!hsT 64 2||blw ix p.L.length)&&(!hsT 64 4||blw iy p.L.length)&&(!hsT 64 8||blw inn p.g)&&(!hsT 64 16||blw inn p.k)&&(!hsT 64 32||rbd imn imx)&&(!hsT 64 64||decide ((k:Int)+1<p.L.length)))=_
  rw [show (!(shW 4==[]))=true from rfl,q2,q4,q8,q16,q32,q64]
  simp
 have HF:=aD hF
 clear hF
 clear hj
 go_wp2_with (go_at_call 43;(with_reducible refine(hs _).mono ?_);rintro e w5 ⟨rfl,rfl⟩)
 refine wx9 ?_
 repeat (go_big_quiet_step (first | exact rfl | exact EI _ |(go_at_call 44;exact bJ (hc _))))
 refine wpQuiet_nil ?_
 intro w6 hw6
 have hb6:=bS hw6
 have B6:=aD (aF B2.o hb6 lz9)
 have y1:=(hb6.cell (p:=⟨w1.heap.size,1,none⟩) l2).trans d1
 have y2:=(hb6.cell (p:=⟨w1.heap.size,2,none⟩) l2).trans d2
 have y3:=(hb6.cell (p:=⟨w1.heap.size,3,none⟩) l2).trans d3
 have y4:=(hb6.cell (p:=⟨w1.heap.size,4,none⟩) l2).trans d4
 have y5:=(hb6.cell (p:=⟨w1.heap.size,5,none⟩) l2).trans d5
 have z1:=(hb6.cell (p:=⟨w.heap.size,1,none⟩) l3).trans e1
 have z2:=(hb6.cell (p:=⟨w.heap.size,2,none⟩) l3).trans e2
 clear hw6 hb6 d0 d1 d2 d3 d4 d5 d6 d7 d8 d9 e1 e2 hc EI hs
 obtain⟨r,hr⟩:∃ r,decide ((⟨4,ix,iy,inn,imn,imx,iss⟩:Ins)=j)=r:=⟨_,rfl⟩
 rw [hr] at HF ⊢
 clear hr hi
 have hw1:IntKind.wrap .i64 ((k:Int)+1)=(k:Int)+1:=wrap_small _ (by omega) (by omega)
 go_wp2_with first
  |(go_at_call 45;(with_reducible refine(cA _ _ _).mono ?_);rintro e w7 ⟨rfl,rfl⟩)
  |(go_at_call 34;(with_reducible refine(aX _ _ _).mono ?_);rintro e w7 ⟨rfl,rfl⟩)
  |(go_at_call 46;(with_reducible refine(bT _ _ _).mono ?_);rintro e w7 ⟨rfl,rfl⟩)
 all_goals go_ret
 all_goals
  refine⟨?_,B6.o⟩
  rw [HF.o]
  first | rfl | simp_all
theorem uD{w:World}{p:Pg}(h:PgI w p){k:Nat}{i:Ins}(hi:p.L[k]?=some i)(hk:p.L.length<=40000)(ho:i.op=5) :
  Calls Try.prog 35 #[.agg #[.slice p.q p.L.length p.c,.int .i64 p.g,.int .i64 p.k,.bool p.f],.int .i64 (k:Int)] w (RaP p k i w):=by
 have B1:Hid (wBl w (w.alloc (.cells #[.slice p.q p.L.length p.c,.int .i64 p.g,.int .i64 p.k,.bool p.f] 24))):=bz9
 have n1:=aE w (.cells #[.slice p.q p.L.length p.c,.int .i64 p.g,.int .i64 p.k,.bool p.f] 24)
 have p0:(w.alloc (.cells #[.slice p.q p.L.length p.c,.int .i64 p.g,.int .i64 p.k,.bool p.f] 24)).cell? ⟨w.heap.size,0,none⟩=some (.slice p.q p.L.length p.c):=aA n1 (i:=0) rfl
 have X1:Hid ((w.alloc (.cells #[.slice p.q p.L.length p.c,.int .i64 p.g,.int .i64 p.k,.bool p.f] 24)).heap[w.heap.size]?=some (.cells #[.slice p.q p.L.length p.c,.int .i64 p.g,.int .i64 p.k,.bool p.f] 24 (0,0))):=n1
 obtain⟨g1,o1,hq1,hl1,c0,c1,c2,c3,c4,c5,c6,c7,c8,c9⟩:=(h.li.kept B1.o).ten hi
 have hlt:=(f7.1 hi).1
 have i0:(k:Int)<(p.L.length:Int):=by omega
 have Q1:=aD hq1
 have HO:=aD ho
 clear hq1 n1 ho
 go_enter Try.func35,Try.ntmps35
 go_upto_region 1 with fail
 generalize (w.alloc (.cells #[.slice p.q p.L.length p.c,.int .i64 p.g,.int .i64 p.k,.bool p.f] 24))=w1 at B1 p0 X1 hl1 c0 c1 c2 c3 c4 c5 c6 c7 c8 c9 ⊢
 rw [Q1.o] at p0
 have hl2:=aC X1.o
 go_region
 clear p0 c0 c1 c2 c3 c4 c5 c6 c7 c8 c9 hl1
 have B2:Hid (wBl w (w1.alloc (.cells #[.int .i64 i.op,.int .i64 i.x,.int .i64 i.y,.int .i64 i.n,.int .i64 i.mn,.int .i64 i.mx,.int .u64 (aB i.s 0),.int .u64 (aB i.s 1),.int .u64 (aB i.s 2),.int .u64 (aB i.s 3)] 47)).drew):=(aF B1.o (bz9) lz9).drew
 have X2:Hid ((w1.alloc (.cells #[.int .i64 i.op,.int .i64 i.x,.int .i64 i.y,.int .i64 i.n,.int .i64 i.mn,.int .i64 i.mx,.int .u64 (aB i.s 0),.int .u64 (aB i.s 1),.int .u64 (aB i.s 2),.int .u64 (aB i.s 3)] 47)).drew.heap[w1.heap.size]?=some (.cells #[.int .i64 i.op,.int .i64 i.x,.int .i64 i.y,.int .i64 i.n,.int .i64 i.mn,.int .i64 i.mx,.int .u64 (aB i.s 0),.int .u64 (aB i.s 1),.int .u64 (aB i.s 2),.int .u64 (aB i.s 3)] 47 (0,0))):=aE w1 _
 have X3:Hid ((w1.alloc (.cells #[.int .i64 i.op,.int .i64 i.x,.int .i64 i.y,.int .i64 i.n,.int .i64 i.mn,.int .i64 i.mx,.int .u64 (aB i.s 0),.int .u64 (aB i.s 1),.int .u64 (aB i.s 2),.int .u64 (aB i.s 3)] 47)).drew.heap[w.heap.size]?=some (.cells #[.slice p.q p.L.length p.c,.int .i64 p.g,.int .i64 p.k,.bool p.f] 24 (0,0))):=(Below.heap_alloc _ _ _ hl2).trans X1.o
 generalize (w1.alloc (.cells #[.int .i64 i.op,.int .i64 i.x,.int .i64 i.y,.int .i64 i.n,.int .i64 i.mn,.int .i64 i.mx,.int .u64 (aB i.s 0),.int .u64 (aB i.s 1),.int .u64 (aB i.s 2),.int .u64 (aB i.s 3)] 47)).drew=w2 at B2 X2 X3 ⊢
 obtain⟨j,hj⟩:∃ j,j=usI 64 i:=⟨_,rfl⟩
 have hc:=fun x:Ext w2=>bR (t:=64) (by decide) hj x
 obtain⟨io,ix,iy,inn,imn,imx,iss⟩:=i
 simp only at HO X2 hc hj ⊢
 obtain rfl:=HO.o
 have d0:=aA X2.o (i:=0) rfl
 have d1:=aA X2.o (i:=1) rfl
 have d2:=aA X2.o (i:=2) rfl
 have d3:=aA X2.o (i:=3) rfl
 have d4:=aA X2.o (i:=4) rfl
 have d5:=aA X2.o (i:=5) rfl
 have d6:=aA X2.o (i:=6) rfl
 have d7:=aA X2.o (i:=7) rfl
 have d8:=aA X2.o (i:=8) rfl
 have d9:=aA X2.o (i:=9) rfl
 have e1:=aA X3.o (i:=1) rfl
 have e2:=aA X3.o (i:=2) rfl
 have l2:=aC X2.o
 have l3:=aC X3.o
 have hs:=fun (W:World)=>(show Calls Try.prog 43 #[.int .i64 5] W fun e w'=>e=.returned (.tuple #[.string ⟨#[101,110,100]⟩,.int .i64 64])/\w'=W from bW 5 W)
 have q2:hsT 64 2=false:=by decide
 have q4:hsT 64 4=false:=by decide
 have q8:hsT 64 8=false:=by decide
 have q16:hsT 64 16=false:=by decide
 have q32:hsT 64 32=false:=by decide
 have q64:hsT 64 64=true:=by decide
 have EI:=fun W=>bN ⟨5,ix,iy,inn,imn,imx,iss⟩ j W
 simp only at EI
 have hF:bL p k ⟨5,ix,iy,inn,imn,imx,iss⟩=(decide ((⟨5,ix,iy,inn,imn,imx,iss⟩:Ins)=j)&&decide ((k:Int)+1<p.L.length)):=by
  rw [hj]
  show (!(shW 5==[])&&decide ((⟨5,ix,iy,inn,imn,imx,iss⟩:Ins)=usI 64 ⟨5,ix,iy,inn,imn,imx,iss⟩)&&(!hsT 64 2||blw ix p.L.length)&&(!hsT 64 4||blw iy p.L.length)&&(!hsT 64 8||blw inn p.g)&&(!hsT 64 16||blw inn p.k)&&(!hsT 64 32||rbd imn imx)&&(!hsT 64 64||decide ((k:Int)+1<p.L.length)))=_
  rw [show (!(shW 5==[]))=true from rfl,q2,q4,q8,q16,q32,q64]
  simp
 have HF:=aD hF
 clear hF
 clear hj
 go_wp2_with (go_at_call 43;(with_reducible refine(hs _).mono ?_);rintro e w5 ⟨rfl,rfl⟩)
 refine wx9 ?_
 repeat (go_big_quiet_step (first | exact rfl | exact EI _ |(go_at_call 44;exact bJ (hc _))))
 refine wpQuiet_nil ?_
 intro w6 hw6
 have hb6:=bS hw6
 have B6:=aD (aF B2.o hb6 lz9)
 have y1:=(hb6.cell (p:=⟨w1.heap.size,1,none⟩) l2).trans d1
 have y2:=(hb6.cell (p:=⟨w1.heap.size,2,none⟩) l2).trans d2
 have y3:=(hb6.cell (p:=⟨w1.heap.size,3,none⟩) l2).trans d3
 have y4:=(hb6.cell (p:=⟨w1.heap.size,4,none⟩) l2).trans d4
 have y5:=(hb6.cell (p:=⟨w1.heap.size,5,none⟩) l2).trans d5
 have z1:=(hb6.cell (p:=⟨w.heap.size,1,none⟩) l3).trans e1
 have z2:=(hb6.cell (p:=⟨w.heap.size,2,none⟩) l3).trans e2
 clear hw6 hb6 d0 d1 d2 d3 d4 d5 d6 d7 d8 d9 e1 e2 hc EI hs
 obtain⟨r,hr⟩:∃ r,decide ((⟨5,ix,iy,inn,imn,imx,iss⟩:Ins)=j)=r:=⟨_,rfl⟩
 rw [hr] at HF ⊢
 clear hr hi
 have hw1:IntKind.wrap .i64 ((k:Int)+1)=(k:Int)+1:=wrap_small _ (by omega) (by omega)
 go_wp2_with first
  |(go_at_call 45;(with_reducible refine(cA _ _ _).mono ?_);rintro e w7 ⟨rfl,rfl⟩)
  |(go_at_call 34;(with_reducible refine(aX _ _ _).mono ?_);rintro e w7 ⟨rfl,rfl⟩)
  |(go_at_call 46;(with_reducible refine(bT _ _ _).mono ?_);rintro e w7 ⟨rfl,rfl⟩)
 all_goals go_ret
 all_goals
  refine⟨?_,B6.o⟩
  rw [HF.o]
  first | rfl | simp_all
theorem uC{w:World}{p:Pg}(h:PgI w p){k:Nat}{i:Ins}(hi:p.L[k]?=some i)(hk:p.L.length<=40000)(ho:i.op=6) :
  Calls Try.prog 35 #[.agg #[.slice p.q p.L.length p.c,.int .i64 p.g,.int .i64 p.k,.bool p.f],.int .i64 (k:Int)] w (RaP p k i w):=by
 have B1:Hid (wBl w (w.alloc (.cells #[.slice p.q p.L.length p.c,.int .i64 p.g,.int .i64 p.k,.bool p.f] 24))):=bz9
 have n1:=aE w (.cells #[.slice p.q p.L.length p.c,.int .i64 p.g,.int .i64 p.k,.bool p.f] 24)
 have p0:(w.alloc (.cells #[.slice p.q p.L.length p.c,.int .i64 p.g,.int .i64 p.k,.bool p.f] 24)).cell? ⟨w.heap.size,0,none⟩=some (.slice p.q p.L.length p.c):=aA n1 (i:=0) rfl
 have X1:Hid ((w.alloc (.cells #[.slice p.q p.L.length p.c,.int .i64 p.g,.int .i64 p.k,.bool p.f] 24)).heap[w.heap.size]?=some (.cells #[.slice p.q p.L.length p.c,.int .i64 p.g,.int .i64 p.k,.bool p.f] 24 (0,0))):=n1
 obtain⟨g1,o1,hq1,hl1,c0,c1,c2,c3,c4,c5,c6,c7,c8,c9⟩:=(h.li.kept B1.o).ten hi
 have hlt:=(f7.1 hi).1
 have i0:(k:Int)<(p.L.length:Int):=by omega
 have Q1:=aD hq1
 have HO:=aD ho
 clear hq1 n1 ho
 go_enter Try.func35,Try.ntmps35
 go_upto_region 1 with fail
 generalize (w.alloc (.cells #[.slice p.q p.L.length p.c,.int .i64 p.g,.int .i64 p.k,.bool p.f] 24))=w1 at B1 p0 X1 hl1 c0 c1 c2 c3 c4 c5 c6 c7 c8 c9 ⊢
 rw [Q1.o] at p0
 have hl2:=aC X1.o
 go_region
 clear p0 c0 c1 c2 c3 c4 c5 c6 c7 c8 c9 hl1
 have B2:Hid (wBl w (w1.alloc (.cells #[.int .i64 i.op,.int .i64 i.x,.int .i64 i.y,.int .i64 i.n,.int .i64 i.mn,.int .i64 i.mx,.int .u64 (aB i.s 0),.int .u64 (aB i.s 1),.int .u64 (aB i.s 2),.int .u64 (aB i.s 3)] 47)).drew):=(aF B1.o (bz9) lz9).drew
 have X2:Hid ((w1.alloc (.cells #[.int .i64 i.op,.int .i64 i.x,.int .i64 i.y,.int .i64 i.n,.int .i64 i.mn,.int .i64 i.mx,.int .u64 (aB i.s 0),.int .u64 (aB i.s 1),.int .u64 (aB i.s 2),.int .u64 (aB i.s 3)] 47)).drew.heap[w1.heap.size]?=some (.cells #[.int .i64 i.op,.int .i64 i.x,.int .i64 i.y,.int .i64 i.n,.int .i64 i.mn,.int .i64 i.mx,.int .u64 (aB i.s 0),.int .u64 (aB i.s 1),.int .u64 (aB i.s 2),.int .u64 (aB i.s 3)] 47 (0,0))):=aE w1 _
 have X3:Hid ((w1.alloc (.cells #[.int .i64 i.op,.int .i64 i.x,.int .i64 i.y,.int .i64 i.n,.int .i64 i.mn,.int .i64 i.mx,.int .u64 (aB i.s 0),.int .u64 (aB i.s 1),.int .u64 (aB i.s 2),.int .u64 (aB i.s 3)] 47)).drew.heap[w.heap.size]?=some (.cells #[.slice p.q p.L.length p.c,.int .i64 p.g,.int .i64 p.k,.bool p.f] 24 (0,0))):=(Below.heap_alloc _ _ _ hl2).trans X1.o
 generalize (w1.alloc (.cells #[.int .i64 i.op,.int .i64 i.x,.int .i64 i.y,.int .i64 i.n,.int .i64 i.mn,.int .i64 i.mx,.int .u64 (aB i.s 0),.int .u64 (aB i.s 1),.int .u64 (aB i.s 2),.int .u64 (aB i.s 3)] 47)).drew=w2 at B2 X2 X3 ⊢
 obtain⟨j,hj⟩:∃ j,j=usI 72 i:=⟨_,rfl⟩
 have hc:=fun x:Ext w2=>bR (t:=72) (by decide) hj x
 obtain⟨io,ix,iy,inn,imn,imx,iss⟩:=i
 simp only at HO X2 hc hj ⊢
 obtain rfl:=HO.o
 have d0:=aA X2.o (i:=0) rfl
 have d1:=aA X2.o (i:=1) rfl
 have d2:=aA X2.o (i:=2) rfl
 have d3:=aA X2.o (i:=3) rfl
 have d4:=aA X2.o (i:=4) rfl
 have d5:=aA X2.o (i:=5) rfl
 have d6:=aA X2.o (i:=6) rfl
 have d7:=aA X2.o (i:=7) rfl
 have d8:=aA X2.o (i:=8) rfl
 have d9:=aA X2.o (i:=9) rfl
 have e1:=aA X3.o (i:=1) rfl
 have e2:=aA X3.o (i:=2) rfl
 have l2:=aC X2.o
 have l3:=aC X3.o
 have hs:=fun (W:World)=>(show Calls Try.prog 43 #[.int .i64 6] W fun e w'=>e=.returned (.tuple #[.string ⟨#[111,112,101,110]⟩,.int .i64 72])/\w'=W from bW 6 W)
 have q2:hsT 72 2=false:=by decide
 have q4:hsT 72 4=false:=by decide
 have q8:hsT 72 8=true:=by decide
 have q16:hsT 72 16=false:=by decide
 have q32:hsT 72 32=false:=by decide
 have q64:hsT 72 64=true:=by decide
 have EI:=fun W=>bN ⟨6,ix,iy,inn,imn,imx,iss⟩ j W
 simp only at EI
 have hF:bL p k ⟨6,ix,iy,inn,imn,imx,iss⟩=(decide ((⟨6,ix,iy,inn,imn,imx,iss⟩:Ins)=j)&&blw inn p.g&&decide ((k:Int)+1<p.L.length)):=by
  rw [hj]
  show (!(shW 6==[])&&decide ((⟨6,ix,iy,inn,imn,imx,iss⟩:Ins)=usI 72 ⟨6,ix,iy,inn,imn,imx,iss⟩)&&(!hsT 72 2||blw ix p.L.length)&&(!hsT 72 4||blw iy p.L.length)&&(!hsT 72 8||blw inn p.g)&&(!hsT 72 16||blw inn p.k)&&(!hsT 72 32||rbd imn imx)&&(!hsT 72 64||decide ((k:Int)+1<p.L.length)))=_
  rw [show (!(shW 6==[]))=true from rfl,q2,q4,q8,q16,q32,q64]
  simp
 have HF:=aD hF
 clear hF
 clear hj
 go_wp2_with (go_at_call 43;(with_reducible refine(hs _).mono ?_);rintro e w5 ⟨rfl,rfl⟩)
 refine wx9 ?_
 repeat (go_big_quiet_step (first | exact rfl | exact EI _ |(go_at_call 44;exact bJ (hc _))))
 refine wpQuiet_nil ?_
 intro w6 hw6
 have hb6:=bS hw6
 have B6:=aD (aF B2.o hb6 lz9)
 have y1:=(hb6.cell (p:=⟨w1.heap.size,1,none⟩) l2).trans d1
 have y2:=(hb6.cell (p:=⟨w1.heap.size,2,none⟩) l2).trans d2
 have y3:=(hb6.cell (p:=⟨w1.heap.size,3,none⟩) l2).trans d3
 have y4:=(hb6.cell (p:=⟨w1.heap.size,4,none⟩) l2).trans d4
 have y5:=(hb6.cell (p:=⟨w1.heap.size,5,none⟩) l2).trans d5
 have z1:=(hb6.cell (p:=⟨w.heap.size,1,none⟩) l3).trans e1
 have z2:=(hb6.cell (p:=⟨w.heap.size,2,none⟩) l3).trans e2
 clear hw6 hb6 d0 d1 d2 d3 d4 d5 d6 d7 d8 d9 e1 e2 hc EI hs
 obtain⟨r,hr⟩:∃ r,decide ((⟨6,ix,iy,inn,imn,imx,iss⟩:Ins)=j)=r:=⟨_,rfl⟩
 rw [hr] at HF ⊢
 clear hr hi
 have hw1:IntKind.wrap .i64 ((k:Int)+1)=(k:Int)+1:=wrap_small _ (by omega) (by omega)
 go_wp2_with first
  |(go_at_call 45;(with_reducible refine(cA _ _ _).mono ?_);rintro e w7 ⟨rfl,rfl⟩)
  |(go_at_call 34;(with_reducible refine(aX _ _ _).mono ?_);rintro e w7 ⟨rfl,rfl⟩)
  |(go_at_call 46;(with_reducible refine(bT _ _ _).mono ?_);rintro e w7 ⟨rfl,rfl⟩)
 all_goals go_ret
 all_goals
  refine⟨?_,B6.o⟩
  rw [HF.o]
  first | rfl | simp_all
theorem uB{w:World}{p:Pg}(h:PgI w p){k:Nat}{i:Ins}(hi:p.L[k]?=some i)(hk:p.L.length<=40000)(ho:i.op=7) :
  Calls Try.prog 35 #[.agg #[.slice p.q p.L.length p.c,.int .i64 p.g,.int .i64 p.k,.bool p.f],.int .i64 (k:Int)] w (RaP p k i w):=by
 have B1:Hid (wBl w (w.alloc (.cells #[.slice p.q p.L.length p.c,.int .i64 p.g,.int .i64 p.k,.bool p.f] 24))):=bz9
 have n1:=aE w (.cells #[.slice p.q p.L.length p.c,.int .i64 p.g,.int .i64 p.k,.bool p.f] 24)
 have p0:(w.alloc (.cells #[.slice p.q p.L.length p.c,.int .i64 p.g,.int .i64 p.k,.bool p.f] 24)).cell? ⟨w.heap.size,0,none⟩=some (.slice p.q p.L.length p.c):=aA n1 (i:=0) rfl
 have X1:Hid ((w.alloc (.cells #[.slice p.q p.L.length p.c,.int .i64 p.g,.int .i64 p.k,.bool p.f] 24)).heap[w.heap.size]?=some (.cells #[.slice p.q p.L.length p.c,.int .i64 p.g,.int .i64 p.k,.bool p.f] 24 (0,0))):=n1
 obtain⟨g1,o1,hq1,hl1,c0,c1,c2,c3,c4,c5,c6,c7,c8,c9⟩:=(h.li.kept B1.o).ten hi
 have hlt:=(f7.1 hi).1
 have i0:(k:Int)<(p.L.length:Int):=by omega
 have Q1:=aD hq1
 have HO:=aD ho
 clear hq1 n1 ho
 go_enter Try.func35,Try.ntmps35
 go_upto_region 1 with fail
 generalize (w.alloc (.cells #[.slice p.q p.L.length p.c,.int .i64 p.g,.int .i64 p.k,.bool p.f] 24))=w1 at B1 p0 X1 hl1 c0 c1 c2 c3 c4 c5 c6 c7 c8 c9 ⊢
 rw [Q1.o] at p0
 have hl2:=aC X1.o
 go_region
 clear p0 c0 c1 c2 c3 c4 c5 c6 c7 c8 c9 hl1
 have B2:Hid (wBl w (w1.alloc (.cells #[.int .i64 i.op,.int .i64 i.x,.int .i64 i.y,.int .i64 i.n,.int .i64 i.mn,.int .i64 i.mx,.int .u64 (aB i.s 0),.int .u64 (aB i.s 1),.int .u64 (aB i.s 2),.int .u64 (aB i.s 3)] 47)).drew):=(aF B1.o (bz9) lz9).drew
 have X2:Hid ((w1.alloc (.cells #[.int .i64 i.op,.int .i64 i.x,.int .i64 i.y,.int .i64 i.n,.int .i64 i.mn,.int .i64 i.mx,.int .u64 (aB i.s 0),.int .u64 (aB i.s 1),.int .u64 (aB i.s 2),.int .u64 (aB i.s 3)] 47)).drew.heap[w1.heap.size]?=some (.cells #[.int .i64 i.op,.int .i64 i.x,.int .i64 i.y,.int .i64 i.n,.int .i64 i.mn,.int .i64 i.mx,.int .u64 (aB i.s 0),.int .u64 (aB i.s 1),.int .u64 (aB i.s 2),.int .u64 (aB i.s 3)] 47 (0,0))):=aE w1 _
 have X3:Hid ((w1.alloc (.cells #[.int .i64 i.op,.int .i64 i.x,.int .i64 i.y,.int .i64 i.n,.int .i64 i.mn,.int .i64 i.mx,.int .u64 (aB i.s 0),.int .u64 (aB i.s 1),.int .u64 (aB i.s 2),.int .u64 (aB i.s 3)] 47)).drew.heap[w.heap.size]?=some (.cells #[.slice p.q p.L.length p.c,.int .i64 p.g,.int .i64 p.k,.bool p.f] 24 (0,0))):=(Below.heap_alloc _ _ _ hl2).trans X1.o
 generalize (w1.alloc (.cells #[.int .i64 i.op,.int .i64 i.x,.int .i64 i.y,.int .i64 i.n,.int .i64 i.mn,.int .i64 i.mx,.int .u64 (aB i.s 0),.int .u64 (aB i.s 1),.int .u64 (aB i.s 2),.int .u64 (aB i.s 3)] 47)).drew=w2 at B2 X2 X3 ⊢
 obtain⟨j,hj⟩:∃ j,j=usI 72 i:=⟨_,rfl⟩
 have hc:=fun x:Ext w2=>bR (t:=72) (by decide) hj x
 obtain⟨io,ix,iy,inn,imn,imx,iss⟩:=i
 simp only at HO X2 hc hj ⊢
 obtain rfl:=HO.o
 have d0:=aA X2.o (i:=0) rfl
 have d1:=aA X2.o (i:=1) rfl
 have d2:=aA X2.o (i:=2) rfl
 have d3:=aA X2.o (i:=3) rfl
 have d4:=aA X2.o (i:=4) rfl
 have d5:=aA X2.o (i:=5) rfl
 have d6:=aA X2.o (i:=6) rfl
 have d7:=aA X2.o (i:=7) rfl
 have d8:=aA X2.o (i:=8) rfl
 have d9:=aA X2.o (i:=9) rfl
 have e1:=aA X3.o (i:=1) rfl
 have e2:=aA X3.o (i:=2) rfl
 have l2:=aC X2.o
 have l3:=aC X3.o
 have hs:=fun (W:World)=>(show Calls Try.prog 43 #[.int .i64 7] W fun e w'=>e=.returned (.tuple #[.string ⟨#[99,108,111,115,101]⟩,.int .i64 72])/\w'=W from bW 7 W)
 have q2:hsT 72 2=false:=by decide
 have q4:hsT 72 4=false:=by decide
 have q8:hsT 72 8=true:=by decide
 have q16:hsT 72 16=false:=by decide
 have q32:hsT 72 32=false:=by decide
 have q64:hsT 72 64=true:=by decide
 have EI:=fun W=>bN ⟨7,ix,iy,inn,imn,imx,iss⟩ j W
 simp only at EI
 have hF:bL p k ⟨7,ix,iy,inn,imn,imx,iss⟩=(decide ((⟨7,ix,iy,inn,imn,imx,iss⟩:Ins)=j)&&blw inn p.g&&decide ((k:Int)+1<p.L.length)):=by
  rw [hj]
  show (!(shW 7==[])&&decide ((⟨7,ix,iy,inn,imn,imx,iss⟩:Ins)=usI 72 ⟨7,ix,iy,inn,imn,imx,iss⟩)&&(!hsT 72 2||blw ix p.L.length)&&(!hsT 72 4||blw iy p.L.length)&&(!hsT 72 8||blw inn p.g)&&(!hsT 72 16||blw inn p.k)&&(!hsT 72 32||rbd imn imx)&&(!hsT 72 64||decide ((k:Int)+1<p.L.length)))=_
  rw [show (!(shW 7==[]))=true from rfl,q2,q4,q8,q16,q32,q64]
  simp
 have HF:=aD hF
 clear hF
 clear hj
 go_wp2_with (go_at_call 43;(with_reducible refine(hs _).mono ?_);rintro e w5 ⟨rfl,rfl⟩)
 refine wx9 ?_
 repeat (go_big_quiet_step (first | exact rfl | exact EI _ |(go_at_call 44;exact bJ (hc _))))
 refine wpQuiet_nil ?_
 intro w6 hw6
 have hb6:=bS hw6
 have B6:=aD (aF B2.o hb6 lz9)
 have y1:=(hb6.cell (p:=⟨w1.heap.size,1,none⟩) l2).trans d1
 have y2:=(hb6.cell (p:=⟨w1.heap.size,2,none⟩) l2).trans d2
 have y3:=(hb6.cell (p:=⟨w1.heap.size,3,none⟩) l2).trans d3
 have y4:=(hb6.cell (p:=⟨w1.heap.size,4,none⟩) l2).trans d4
 have y5:=(hb6.cell (p:=⟨w1.heap.size,5,none⟩) l2).trans d5
 have z1:=(hb6.cell (p:=⟨w.heap.size,1,none⟩) l3).trans e1
 have z2:=(hb6.cell (p:=⟨w.heap.size,2,none⟩) l3).trans e2
 clear hw6 hb6 d0 d1 d2 d3 d4 d5 d6 d7 d8 d9 e1 e2 hc EI hs
 obtain⟨r,hr⟩:∃ r,decide ((⟨7,ix,iy,inn,imn,imx,iss⟩:Ins)=j)=r:=⟨_,rfl⟩
 rw [hr] at HF ⊢
 clear hr hi
 have hw1:IntKind.wrap .i64 ((k:Int)+1)=(k:Int)+1:=wrap_small _ (by omega) (by omega)
 go_wp2_with first
  |(go_at_call 45;(with_reducible refine(cA _ _ _).mono ?_);rintro e w7 ⟨rfl,rfl⟩)
  |(go_at_call 34;(with_reducible refine(aX _ _ _).mono ?_);rintro e w7 ⟨rfl,rfl⟩)
  |(go_at_call 46;(with_reducible refine(bT _ _ _).mono ?_);rintro e w7 ⟨rfl,rfl⟩)
 all_goals go_ret
 all_goals
  refine⟨?_,B6.o⟩
  rw [HF.o]
  first | rfl | simp_all
theorem uA{w:World}{p:Pg}(h:PgI w p){k:Nat}{i:Ins}(hi:p.L[k]?=some i)(hk:p.L.length<=40000)(ho:i.op=8) :
  Calls Try.prog 35 #[.agg #[.slice p.q p.L.length p.c,.int .i64 p.g,.int .i64 p.k,.bool p.f],.int .i64 (k:Int)] w (RaP p k i w):=by
 have B1:Hid (wBl w (w.alloc (.cells #[.slice p.q p.L.length p.c,.int .i64 p.g,.int .i64 p.k,.bool p.f] 24))):=bz9
 have n1:=aE w (.cells #[.slice p.q p.L.length p.c,.int .i64 p.g,.int .i64 p.k,.bool p.f] 24)
 have p0:(w.alloc (.cells #[.slice p.q p.L.length p.c,.int .i64 p.g,.int .i64 p.k,.bool p.f] 24)).cell? ⟨w.heap.size,0,none⟩=some (.slice p.q p.L.length p.c):=aA n1 (i:=0) rfl
 have X1:Hid ((w.alloc (.cells #[.slice p.q p.L.length p.c,.int .i64 p.g,.int .i64 p.k,.bool p.f] 24)).heap[w.heap.size]?=some (.cells #[.slice p.q p.L.length p.c,.int .i64 p.g,.int .i64 p.k,.bool p.f] 24 (0,0))):=n1
 obtain⟨g1,o1,hq1,hl1,c0,c1,c2,c3,c4,c5,c6,c7,c8,c9⟩:=(h.li.kept B1.o).ten hi
 have hlt:=(f7.1 hi).1
 have i0:(k:Int)<(p.L.length:Int):=by omega
 have Q1:=aD hq1
 have HO:=aD ho
 clear hq1 n1 ho
 go_enter Try.func35,Try.ntmps35
 go_upto_region 1 with fail
 generalize (w.alloc (.cells #[.slice p.q p.L.length p.c,.int .i64 p.g,.int .i64 p.k,.bool p.f] 24))=w1 at B1 p0 X1 hl1 c0 c1 c2 c3 c4 c5 c6 c7 c8 c9 ⊢
 rw [Q1.o] at p0
 have hl2:=aC X1.o
 go_region
 clear p0 c0 c1 c2 c3 c4 c5 c6 c7 c8 c9 hl1
 have B2:Hid (wBl w (w1.alloc (.cells #[.int .i64 i.op,.int .i64 i.x,.int .i64 i.y,.int .i64 i.n,.int .i64 i.mn,.int .i64 i.mx,.int .u64 (aB i.s 0),.int .u64 (aB i.s 1),.int .u64 (aB i.s 2),.int .u64 (aB i.s 3)] 47)).drew):=(aF B1.o (bz9) lz9).drew
 have X2:Hid ((w1.alloc (.cells #[.int .i64 i.op,.int .i64 i.x,.int .i64 i.y,.int .i64 i.n,.int .i64 i.mn,.int .i64 i.mx,.int .u64 (aB i.s 0),.int .u64 (aB i.s 1),.int .u64 (aB i.s 2),.int .u64 (aB i.s 3)] 47)).drew.heap[w1.heap.size]?=some (.cells #[.int .i64 i.op,.int .i64 i.x,.int .i64 i.y,.int .i64 i.n,.int .i64 i.mn,.int .i64 i.mx,.int .u64 (aB i.s 0),.int .u64 (aB i.s 1),.int .u64 (aB i.s 2),.int .u64 (aB i.s 3)] 47 (0,0))):=aE w1 _
 have X3:Hid ((w1.alloc (.cells #[.int .i64 i.op,.int .i64 i.x,.int .i64 i.y,.int .i64 i.n,.int .i64 i.mn,.int .i64 i.mx,.int .u64 (aB i.s 0),.int .u64 (aB i.s 1),.int .u64 (aB i.s 2),.int .u64 (aB i.s 3)] 47)).drew.heap[w.heap.size]?=some (.cells #[.slice p.q p.L.length p.c,.int .i64 p.g,.int .i64 p.k,.bool p.f] 24 (0,0))):=(Below.heap_alloc _ _ _ hl2).trans X1.o
 generalize (w1.alloc (.cells #[.int .i64 i.op,.int .i64 i.x,.int .i64 i.y,.int .i64 i.n,.int .i64 i.mn,.int .i64 i.mx,.int .u64 (aB i.s 0),.int .u64 (aB i.s 1),.int .u64 (aB i.s 2),.int .u64 (aB i.s 3)] 47)).drew=w2 at B2 X2 X3 ⊢
 obtain⟨j,hj⟩:∃ j,j=usI 72 i:=⟨_,rfl⟩
 have hc:=fun x:Ext w2=>bR (t:=72) (by decide) hj x
 obtain⟨io,ix,iy,inn,imn,imx,iss⟩:=i
 simp only at HO X2 hc hj ⊢
 obtain rfl:=HO.o
 have d0:=aA X2.o (i:=0) rfl
 have d1:=aA X2.o (i:=1) rfl
 have d2:=aA X2.o (i:=2) rfl
 have d3:=aA X2.o (i:=3) rfl
 have d4:=aA X2.o (i:=4) rfl
 have d5:=aA X2.o (i:=5) rfl
 have d6:=aA X2.o (i:=6) rfl
 have d7:=aA X2.o (i:=7) rfl
 have d8:=aA X2.o (i:=8) rfl
 have d9:=aA X2.o (i:=9) rfl
 have e1:=aA X3.o (i:=1) rfl
 have e2:=aA X3.o (i:=2) rfl
 have l2:=aC X2.o
 have l3:=aC X3.o
 have hs:=fun (W:World)=>(show Calls Try.prog 43 #[.int .i64 8] W fun e w'=>e=.returned (.tuple #[.string ⟨#[98,97,99,107]⟩,.int .i64 72])/\w'=W from bW 8 W)
 have q2:hsT 72 2=false:=by decide
 have q4:hsT 72 4=false:=by decide
 have q8:hsT 72 8=true:=by decide
 have q16:hsT 72 16=false:=by decide
 have q32:hsT 72 32=false:=by decide
 have q64:hsT 72 64=true:=by decide
 have EI:=fun W=>bN ⟨8,ix,iy,inn,imn,imx,iss⟩ j W
 simp only at EI
 have hF:bL p k ⟨8,ix,iy,inn,imn,imx,iss⟩=(decide ((⟨8,ix,iy,inn,imn,imx,iss⟩:Ins)=j)&&blw inn p.g&&decide ((k:Int)+1<p.L.length)):=by
  rw [hj]
  show (!(shW 8==[])&&decide ((⟨8,ix,iy,inn,imn,imx,iss⟩:Ins)=usI 72 ⟨8,ix,iy,inn,imn,imx,iss⟩)&&(!hsT 72 2||blw ix p.L.length)&&(!hsT 72 4||blw iy p.L.length)&&(!hsT 72 8||blw inn p.g)&&(!hsT 72 16||blw inn p.k)&&(!hsT 72 32||rbd imn imx)&&(!hsT 72 64||decide ((k:Int)+1<p.L.length)))=_
  rw [show (!(shW 8==[]))=true from rfl,q2,q4,q8,q16,q32,q64]
  simp
 have HF:=aD hF
 clear hF
 clear hj
 go_wp2_with (go_at_call 43;(with_reducible refine(hs _).mono ?_);rintro e w5 ⟨rfl,rfl⟩)
 refine wx9 ?_
 repeat (go_big_quiet_step (first | exact rfl | exact EI _ |(go_at_call 44;exact bJ (hc _))))
 refine wpQuiet_nil ?_
 intro w6 hw6
 have hb6:=bS hw6
 have B6:=aD (aF B2.o hb6 lz9)
 have y1:=(hb6.cell (p:=⟨w1.heap.size,1,none⟩) l2).trans d1
 have y2:=(hb6.cell (p:=⟨w1.heap.size,2,none⟩) l2).trans d2
 have y3:=(hb6.cell (p:=⟨w1.heap.size,3,none⟩) l2).trans d3
 have y4:=(hb6.cell (p:=⟨w1.heap.size,4,none⟩) l2).trans d4
 have y5:=(hb6.cell (p:=⟨w1.heap.size,5,none⟩) l2).trans d5
 have z1:=(hb6.cell (p:=⟨w.heap.size,1,none⟩) l3).trans e1
 have z2:=(hb6.cell (p:=⟨w.heap.size,2,none⟩) l3).trans e2
 clear hw6 hb6 d0 d1 d2 d3 d4 d5 d6 d7 d8 d9 e1 e2 hc EI hs
 obtain⟨r,hr⟩:∃ r,decide ((⟨8,ix,iy,inn,imn,imx,iss⟩:Ins)=j)=r:=⟨_,rfl⟩
 rw [hr] at HF ⊢
 clear hr hi
 have hw1:IntKind.wrap .i64 ((k:Int)+1)=(k:Int)+1:=wrap_small _ (by omega) (by omega)
 go_wp2_with first
  |(go_at_call 45;(with_reducible refine(cA _ _ _).mono ?_);rintro e w7 ⟨rfl,rfl⟩)
  |(go_at_call 34;(with_reducible refine(aX _ _ _).mono ?_);rintro e w7 ⟨rfl,rfl⟩)
  |(go_at_call 46;(with_reducible refine(bT _ _ _).mono ?_);rintro e w7 ⟨rfl,rfl⟩)
 all_goals go_ret
 all_goals
  refine⟨?_,B6.o⟩
  rw [HF.o]
  first | rfl | simp_all
theorem tZ{w:World}{p:Pg}(h:PgI w p){k:Nat}{i:Ins}(hi:p.L[k]?=some i)(hk:p.L.length<=40000)(ho:i.op=9) :
  Calls Try.prog 35 #[.agg #[.slice p.q p.L.length p.c,.int .i64 p.g,.int .i64 p.k,.bool p.f],.int .i64 (k:Int)] w (RaP p k i w):=by
 have B1:Hid (wBl w (w.alloc (.cells #[.slice p.q p.L.length p.c,.int .i64 p.g,.int .i64 p.k,.bool p.f] 24))):=bz9
 have n1:=aE w (.cells #[.slice p.q p.L.length p.c,.int .i64 p.g,.int .i64 p.k,.bool p.f] 24)
 have p0:(w.alloc (.cells #[.slice p.q p.L.length p.c,.int .i64 p.g,.int .i64 p.k,.bool p.f] 24)).cell? ⟨w.heap.size,0,none⟩=some (.slice p.q p.L.length p.c):=aA n1 (i:=0) rfl
 have X1:Hid ((w.alloc (.cells #[.slice p.q p.L.length p.c,.int .i64 p.g,.int .i64 p.k,.bool p.f] 24)).heap[w.heap.size]?=some (.cells #[.slice p.q p.L.length p.c,.int .i64 p.g,.int .i64 p.k,.bool p.f] 24 (0,0))):=n1
 obtain⟨g1,o1,hq1,hl1,c0,c1,c2,c3,c4,c5,c6,c7,c8,c9⟩:=(h.li.kept B1.o).ten hi
 have hlt:=(f7.1 hi).1
 have i0:(k:Int)<(p.L.length:Int):=by omega
 have Q1:=aD hq1
 have HO:=aD ho
 clear hq1 n1 ho
 go_enter Try.func35,Try.ntmps35
 go_upto_region 1 with fail
 generalize (w.alloc (.cells #[.slice p.q p.L.length p.c,.int .i64 p.g,.int .i64 p.k,.bool p.f] 24))=w1 at B1 p0 X1 hl1 c0 c1 c2 c3 c4 c5 c6 c7 c8 c9 ⊢
 rw [Q1.o] at p0
 have hl2:=aC X1.o
 go_region
 clear p0 c0 c1 c2 c3 c4 c5 c6 c7 c8 c9 hl1
 have B2:Hid (wBl w (w1.alloc (.cells #[.int .i64 i.op,.int .i64 i.x,.int .i64 i.y,.int .i64 i.n,.int .i64 i.mn,.int .i64 i.mx,.int .u64 (aB i.s 0),.int .u64 (aB i.s 1),.int .u64 (aB i.s 2),.int .u64 (aB i.s 3)] 47)).drew):=(aF B1.o (bz9) lz9).drew
 have X2:Hid ((w1.alloc (.cells #[.int .i64 i.op,.int .i64 i.x,.int .i64 i.y,.int .i64 i.n,.int .i64 i.mn,.int .i64 i.mx,.int .u64 (aB i.s 0),.int .u64 (aB i.s 1),.int .u64 (aB i.s 2),.int .u64 (aB i.s 3)] 47)).drew.heap[w1.heap.size]?=some (.cells #[.int .i64 i.op,.int .i64 i.x,.int .i64 i.y,.int .i64 i.n,.int .i64 i.mn,.int .i64 i.mx,.int .u64 (aB i.s 0),.int .u64 (aB i.s 1),.int .u64 (aB i.s 2),.int .u64 (aB i.s 3)] 47 (0,0))):=aE w1 _
 have X3:Hid ((w1.alloc (.cells #[.int .i64 i.op,.int .i64 i.x,.int .i64 i.y,.int .i64 i.n,.int .i64 i.mn,.int .i64 i.mx,.int .u64 (aB i.s 0),.int .u64 (aB i.s 1),.int .u64 (aB i.s 2),.int .u64 (aB i.s 3)] 47)).drew.heap[w.heap.size]?=some (.cells #[.slice p.q p.L.length p.c,.int .i64 p.g,.int .i64 p.k,.bool p.f] 24 (0,0))):=(Below.heap_alloc _ _ _ hl2).trans X1.o
 generalize (w1.alloc (.cells #[.int .i64 i.op,.int .i64 i.x,.int .i64 i.y,.int .i64 i.n,.int .i64 i.mn,.int .i64 i.mx,.int .u64 (aB i.s 0),.int .u64 (aB i.s 1),.int .u64 (aB i.s 2),.int .u64 (aB i.s 3)] 47)).drew=w2 at B2 X2 X3 ⊢
 obtain⟨j,hj⟩:∃ j,j=usI 80 i:=⟨_,rfl⟩
 have hc:=fun x:Ext w2=>bR (t:=80) (by decide) hj x
 obtain⟨io,ix,iy,inn,imn,imx,iss⟩:=i
 simp only at HO X2 hc hj ⊢
 obtain rfl:=HO.o
 have d0:=aA X2.o (i:=0) rfl
 have d1:=aA X2.o (i:=1) rfl
 have d2:=aA X2.o (i:=2) rfl
 have d3:=aA X2.o (i:=3) rfl
 have d4:=aA X2.o (i:=4) rfl
 have d5:=aA X2.o (i:=5) rfl
 have d6:=aA X2.o (i:=6) rfl
 have d7:=aA X2.o (i:=7) rfl
 have d8:=aA X2.o (i:=8) rfl
 have d9:=aA X2.o (i:=9) rfl
 have e1:=aA X3.o (i:=1) rfl
 have e2:=aA X3.o (i:=2) rfl
 have l2:=aC X2.o
 have l3:=aC X3.o
 have hs:=fun (W:World)=>(show Calls Try.prog 43 #[.int .i64 9] W fun e w'=>e=.returned (.tuple #[.string ⟨#[122,101,114,111]⟩,.int .i64 80])/\w'=W from bW 9 W)
 have q2:hsT 80 2=false:=by decide
 have q4:hsT 80 4=false:=by decide
 have q8:hsT 80 8=false:=by decide
 have q16:hsT 80 16=true:=by decide
 have q32:hsT 80 32=false:=by decide
 have q64:hsT 80 64=true:=by decide
 have EI:=fun W=>bN ⟨9,ix,iy,inn,imn,imx,iss⟩ j W
 simp only at EI
 have hF:bL p k ⟨9,ix,iy,inn,imn,imx,iss⟩=(decide ((⟨9,ix,iy,inn,imn,imx,iss⟩:Ins)=j)&&blw inn p.k&&decide ((k:Int)+1<p.L.length)):=by
  rw [hj]
  show (!(shW 9==[])&&decide ((⟨9,ix,iy,inn,imn,imx,iss⟩:Ins)=usI 80 ⟨9,ix,iy,inn,imn,imx,iss⟩)&&(!hsT 80 2||blw ix p.L.length)&&(!hsT 80 4||blw iy p.L.length)&&(!hsT 80 8||blw inn p.g)&&(!hsT 80 16||blw inn p.k)&&(!hsT 80 32||rbd imn imx)&&(!hsT 80 64||decide ((k:Int)+1<p.L.length)))=_
  rw [show (!(shW 9==[]))=true from rfl,q2,q4,q8,q16,q32,q64]
  simp
 have HF:=aD hF
 clear hF
 clear hj
 go_wp2_with (go_at_call 43;(with_reducible refine(hs _).mono ?_);rintro e w5 ⟨rfl,rfl⟩)
 refine wx9 ?_
 repeat (go_big_quiet_step (first | exact rfl | exact EI _ |(go_at_call 44;exact bJ (hc _))))
 refine wpQuiet_nil ?_
 intro w6 hw6
 have hb6:=bS hw6
 have B6:=aD (aF B2.o hb6 lz9)
 have y1:=(hb6.cell (p:=⟨w1.heap.size,1,none⟩) l2).trans d1
 have y2:=(hb6.cell (p:=⟨w1.heap.size,2,none⟩) l2).trans d2
 have y3:=(hb6.cell (p:=⟨w1.heap.size,3,none⟩) l2).trans d3
 have y4:=(hb6.cell (p:=⟨w1.heap.size,4,none⟩) l2).trans d4
 have y5:=(hb6.cell (p:=⟨w1.heap.size,5,none⟩) l2).trans d5
 have z1:=(hb6.cell (p:=⟨w.heap.size,1,none⟩) l3).trans e1
 have z2:=(hb6.cell (p:=⟨w.heap.size,2,none⟩) l3).trans e2
 clear hw6 hb6 d0 d1 d2 d3 d4 d5 d6 d7 d8 d9 e1 e2 hc EI hs
 obtain⟨r,hr⟩:∃ r,decide ((⟨9,ix,iy,inn,imn,imx,iss⟩:Ins)=j)=r:=⟨_,rfl⟩
 rw [hr] at HF ⊢
 clear hr hi
 have hw1:IntKind.wrap .i64 ((k:Int)+1)=(k:Int)+1:=wrap_small _ (by omega) (by omega)
 go_wp2_with first
  |(go_at_call 45;(with_reducible refine(cA _ _ _).mono ?_);rintro e w7 ⟨rfl,rfl⟩)
  |(go_at_call 34;(with_reducible refine(aX _ _ _).mono ?_);rintro e w7 ⟨rfl,rfl⟩)
  |(go_at_call 46;(with_reducible refine(bT _ _ _).mono ?_);rintro e w7 ⟨rfl,rfl⟩)
 all_goals go_ret
 all_goals
  refine⟨?_,B6.o⟩
  rw [HF.o]
  first | rfl | simp_all
theorem sY{w:World}{p:Pg}(h:PgI w p){k:Nat}{i:Ins}(hi:p.L[k]?=some i)(hk:p.L.length<=40000)(ho:i.op=10) :
  Calls Try.prog 35 #[.agg #[.slice p.q p.L.length p.c,.int .i64 p.g,.int .i64 p.k,.bool p.f],.int .i64 (k:Int)] w (RaP p k i w):=by
 have B1:Hid (wBl w (w.alloc (.cells #[.slice p.q p.L.length p.c,.int .i64 p.g,.int .i64 p.k,.bool p.f] 24))):=bz9
 have n1:=aE w (.cells #[.slice p.q p.L.length p.c,.int .i64 p.g,.int .i64 p.k,.bool p.f] 24)
 have p0:(w.alloc (.cells #[.slice p.q p.L.length p.c,.int .i64 p.g,.int .i64 p.k,.bool p.f] 24)).cell? ⟨w.heap.size,0,none⟩=some (.slice p.q p.L.length p.c):=aA n1 (i:=0) rfl
 have X1:Hid ((w.alloc (.cells #[.slice p.q p.L.length p.c,.int .i64 p.g,.int .i64 p.k,.bool p.f] 24)).heap[w.heap.size]?=some (.cells #[.slice p.q p.L.length p.c,.int .i64 p.g,.int .i64 p.k,.bool p.f] 24 (0,0))):=n1
 obtain⟨g1,o1,hq1,hl1,c0,c1,c2,c3,c4,c5,c6,c7,c8,c9⟩:=(h.li.kept B1.o).ten hi
 have hlt:=(f7.1 hi).1
 have i0:(k:Int)<(p.L.length:Int):=by omega
 have Q1:=aD hq1
 have HO:=aD ho
 clear hq1 n1 ho
 go_enter Try.func35,Try.ntmps35
 go_upto_region 1 with fail
 generalize (w.alloc (.cells #[.slice p.q p.L.length p.c,.int .i64 p.g,.int .i64 p.k,.bool p.f] 24))=w1 at B1 p0 X1 hl1 c0 c1 c2 c3 c4 c5 c6 c7 c8 c9 ⊢
 rw [Q1.o] at p0
 have hl2:=aC X1.o
 go_region
 clear p0 c0 c1 c2 c3 c4 c5 c6 c7 c8 c9 hl1
 have B2:Hid (wBl w (w1.alloc (.cells #[.int .i64 i.op,.int .i64 i.x,.int .i64 i.y,.int .i64 i.n,.int .i64 i.mn,.int .i64 i.mx,.int .u64 (aB i.s 0),.int .u64 (aB i.s 1),.int .u64 (aB i.s 2),.int .u64 (aB i.s 3)] 47)).drew):=(aF B1.o (bz9) lz9).drew
 have X2:Hid ((w1.alloc (.cells #[.int .i64 i.op,.int .i64 i.x,.int .i64 i.y,.int .i64 i.n,.int .i64 i.mn,.int .i64 i.mx,.int .u64 (aB i.s 0),.int .u64 (aB i.s 1),.int .u64 (aB i.s 2),.int .u64 (aB i.s 3)] 47)).drew.heap[w1.heap.size]?=some (.cells #[.int .i64 i.op,.int .i64 i.x,.int .i64 i.y,.int .i64 i.n,.int .i64 i.mn,.int .i64 i.mx,.int .u64 (aB i.s 0),.int .u64 (aB i.s 1),.int .u64 (aB i.s 2),.int .u64 (aB i.s 3)] 47 (0,0))):=aE w1 _
 have X3:Hid ((w1.alloc (.cells #[.int .i64 i.op,.int .i64 i.x,.int .i64 i.y,.int .i64 i.n,.int .i64 i.mn,.int .i64 i.mx,.int .u64 (aB i.s 0),.int .u64 (aB i.s 1),.int .u64 (aB i.s 2),.int .u64 (aB i.s 3)] 47)).drew.heap[w.heap.size]?=some (.cells #[.slice p.q p.L.length p.c,.int .i64 p.g,.int .i64 p.k,.bool p.f] 24 (0,0))):=(Below.heap_alloc _ _ _ hl2).trans X1.o
 generalize (w1.alloc (.cells #[.int .i64 i.op,.int .i64 i.x,.int .i64 i.y,.int .i64 i.n,.int .i64 i.mn,.int .i64 i.mx,.int .u64 (aB i.s 0),.int .u64 (aB i.s 1),.int .u64 (aB i.s 2),.int .u64 (aB i.s 3)] 47)).drew=w2 at B2 X2 X3 ⊢
 obtain⟨j,hj⟩:∃ j,j=usI 54 i:=⟨_,rfl⟩
 have hc:=fun x:Ext w2=>bR (t:=54) (by decide) hj x
 obtain⟨io,ix,iy,inn,imn,imx,iss⟩:=i
 simp only at HO X2 hc hj ⊢
 obtain rfl:=HO.o
 have d0:=aA X2.o (i:=0) rfl
 have d1:=aA X2.o (i:=1) rfl
 have d2:=aA X2.o (i:=2) rfl
 have d3:=aA X2.o (i:=3) rfl
 have d4:=aA X2.o (i:=4) rfl
 have d5:=aA X2.o (i:=5) rfl
 have d6:=aA X2.o (i:=6) rfl
 have d7:=aA X2.o (i:=7) rfl
 have d8:=aA X2.o (i:=8) rfl
 have d9:=aA X2.o (i:=9) rfl
 have e1:=aA X3.o (i:=1) rfl
 have e2:=aA X3.o (i:=2) rfl
 have l2:=aC X2.o
 have l3:=aC X3.o
 have hs:=fun (W:World)=>(show Calls Try.prog 43 #[.int .i64 10] W fun e w'=>e=.returned (.tuple #[.string ⟨#[116,117,114,110]⟩,.int .i64 54])/\w'=W from bW 10 W)
 have q2:hsT 54 2=true:=by decide
 have q4:hsT 54 4=true:=by decide
 have q8:hsT 54 8=false:=by decide
 have q16:hsT 54 16=true:=by decide
 have q32:hsT 54 32=true:=by decide
 have q64:hsT 54 64=false:=by decide
 have EI:=fun W=>bN ⟨10,ix,iy,inn,imn,imx,iss⟩ j W
 simp only at EI
 have hF:bL p k ⟨10,ix,iy,inn,imn,imx,iss⟩=(decide ((⟨10,ix,iy,inn,imn,imx,iss⟩:Ins)=j)&&blw ix p.L.length&&blw iy p.L.length&&blw inn p.k&&rbd imn imx):=by
  rw [hj]
  show (!(shW 10==[])&&decide ((⟨10,ix,iy,inn,imn,imx,iss⟩:Ins)=usI 54 ⟨10,ix,iy,inn,imn,imx,iss⟩)&&(!hsT 54 2||blw ix p.L.length)&&(!hsT 54 4||blw iy p.L.length)&&(!hsT 54 8||blw inn p.g)&&(!hsT 54 16||blw inn p.k)&&(!hsT 54 32||rbd imn imx)&&(!hsT 54 64||decide ((k:Int)+1<p.L.length)))=_
  rw [show (!(shW 10==[]))=true from rfl,q2,q4,q8,q16,q32,q64]
  simp
 have HF:=aD hF
 clear hF
 clear hj
 go_wp2_with (go_at_call 43;(with_reducible refine(hs _).mono ?_);rintro e w5 ⟨rfl,rfl⟩)
 refine wx9 ?_
 repeat (go_big_quiet_step (first | exact rfl | exact EI _ |(go_at_call 44;exact bJ (hc _))))
 refine wpQuiet_nil ?_
 intro w6 hw6
 have hb6:=bS hw6
 have B6:=aD (aF B2.o hb6 lz9)
 have y1:=(hb6.cell (p:=⟨w1.heap.size,1,none⟩) l2).trans d1
 have y2:=(hb6.cell (p:=⟨w1.heap.size,2,none⟩) l2).trans d2
 have y3:=(hb6.cell (p:=⟨w1.heap.size,3,none⟩) l2).trans d3
 have y4:=(hb6.cell (p:=⟨w1.heap.size,4,none⟩) l2).trans d4
 have y5:=(hb6.cell (p:=⟨w1.heap.size,5,none⟩) l2).trans d5
 have z1:=(hb6.cell (p:=⟨w.heap.size,1,none⟩) l3).trans e1
 have z2:=(hb6.cell (p:=⟨w.heap.size,2,none⟩) l3).trans e2
 clear hw6 hb6 d0 d1 d2 d3 d4 d5 d6 d7 d8 d9 e1 e2 hc EI hs
 obtain⟨r,hr⟩:∃ r,decide ((⟨10,ix,iy,inn,imn,imx,iss⟩:Ins)=j)=r:=⟨_,rfl⟩
 rw [hr] at HF ⊢
 clear hr hi
 have hw1:IntKind.wrap .i64 ((k:Int)+1)=(k:Int)+1:=wrap_small _ (by omega) (by omega)
 go_wp2_with first
  |(go_at_call 45;(with_reducible refine(cA _ _ _).mono ?_);rintro e w7 ⟨rfl,rfl⟩)
  |(go_at_call 34;(with_reducible refine(aX _ _ _).mono ?_);rintro e w7 ⟨rfl,rfl⟩)
  |(go_at_call 46;(with_reducible refine(bT _ _ _).mono ?_);rintro e w7 ⟨rfl,rfl⟩)
 all_goals go_ret
 all_goals
  refine⟨?_,B6.o⟩
  rw [HF.o]
  first | rfl | simp_all
theorem sX{w:World}{p:Pg}(h:PgI w p){k:Nat}{i:Ins}(hi:p.L[k]?=some i)(hk:p.L.length<=40000)(ho:i.op=11) :
  Calls Try.prog 35 #[.agg #[.slice p.q p.L.length p.c,.int .i64 p.g,.int .i64 p.k,.bool p.f],.int .i64 (k:Int)] w (RaP p k i w):=by
 have B1:Hid (wBl w (w.alloc (.cells #[.slice p.q p.L.length p.c,.int .i64 p.g,.int .i64 p.k,.bool p.f] 24))):=bz9
 have n1:=aE w (.cells #[.slice p.q p.L.length p.c,.int .i64 p.g,.int .i64 p.k,.bool p.f] 24)
 have p0:(w.alloc (.cells #[.slice p.q p.L.length p.c,.int .i64 p.g,.int .i64 p.k,.bool p.f] 24)).cell? ⟨w.heap.size,0,none⟩=some (.slice p.q p.L.length p.c):=aA n1 (i:=0) rfl
 have X1:Hid ((w.alloc (.cells #[.slice p.q p.L.length p.c,.int .i64 p.g,.int .i64 p.k,.bool p.f] 24)).heap[w.heap.size]?=some (.cells #[.slice p.q p.L.length p.c,.int .i64 p.g,.int .i64 p.k,.bool p.f] 24 (0,0))):=n1
 obtain⟨g1,o1,hq1,hl1,c0,c1,c2,c3,c4,c5,c6,c7,c8,c9⟩:=(h.li.kept B1.o).ten hi
 have hlt:=(f7.1 hi).1
 have i0:(k:Int)<(p.L.length:Int):=by omega
 have Q1:=aD hq1
 have HO:=aD ho
 clear hq1 n1 ho
 go_enter Try.func35,Try.ntmps35
 go_upto_region 1 with fail
 generalize (w.alloc (.cells #[.slice p.q p.L.length p.c,.int .i64 p.g,.int .i64 p.k,.bool p.f] 24))=w1 at B1 p0 X1 hl1 c0 c1 c2 c3 c4 c5 c6 c7 c8 c9 ⊢
 rw [Q1.o] at p0
 have hl2:=aC X1.o
 go_region
 clear p0 c0 c1 c2 c3 c4 c5 c6 c7 c8 c9 hl1
 have B2:Hid (wBl w (w1.alloc (.cells #[.int .i64 i.op,.int .i64 i.x,.int .i64 i.y,.int .i64 i.n,.int .i64 i.mn,.int .i64 i.mx,.int .u64 (aB i.s 0),.int .u64 (aB i.s 1),.int .u64 (aB i.s 2),.int .u64 (aB i.s 3)] 47)).drew):=(aF B1.o (bz9) lz9).drew
 have X2:Hid ((w1.alloc (.cells #[.int .i64 i.op,.int .i64 i.x,.int .i64 i.y,.int .i64 i.n,.int .i64 i.mn,.int .i64 i.mx,.int .u64 (aB i.s 0),.int .u64 (aB i.s 1),.int .u64 (aB i.s 2),.int .u64 (aB i.s 3)] 47)).drew.heap[w1.heap.size]?=some (.cells #[.int .i64 i.op,.int .i64 i.x,.int .i64 i.y,.int .i64 i.n,.int .i64 i.mn,.int .i64 i.mx,.int .u64 (aB i.s 0),.int .u64 (aB i.s 1),.int .u64 (aB i.s 2),.int .u64 (aB i.s 3)] 47 (0,0))):=aE w1 _
 have X3:Hid ((w1.alloc (.cells #[.int .i64 i.op,.int .i64 i.x,.int .i64 i.y,.int .i64 i.n,.int .i64 i.mn,.int .i64 i.mx,.int .u64 (aB i.s 0),.int .u64 (aB i.s 1),.int .u64 (aB i.s 2),.int .u64 (aB i.s 3)] 47)).drew.heap[w.heap.size]?=some (.cells #[.slice p.q p.L.length p.c,.int .i64 p.g,.int .i64 p.k,.bool p.f] 24 (0,0))):=(Below.heap_alloc _ _ _ hl2).trans X1.o
 generalize (w1.alloc (.cells #[.int .i64 i.op,.int .i64 i.x,.int .i64 i.y,.int .i64 i.n,.int .i64 i.mn,.int .i64 i.mx,.int .u64 (aB i.s 0),.int .u64 (aB i.s 1),.int .u64 (aB i.s 2),.int .u64 (aB i.s 3)] 47)).drew=w2 at B2 X2 X3 ⊢
 obtain⟨j,hj⟩:∃ j,j=usI 0 i:=⟨_,rfl⟩
 have hc:=fun x:Ext w2=>bR (t:=0) (by decide) hj x
 obtain⟨io,ix,iy,inn,imn,imx,iss⟩:=i
 simp only at HO X2 hc hj ⊢
 obtain rfl:=HO.o
 have d0:=aA X2.o (i:=0) rfl
 have d1:=aA X2.o (i:=1) rfl
 have d2:=aA X2.o (i:=2) rfl
 have d3:=aA X2.o (i:=3) rfl
 have d4:=aA X2.o (i:=4) rfl
 have d5:=aA X2.o (i:=5) rfl
 have d6:=aA X2.o (i:=6) rfl
 have d7:=aA X2.o (i:=7) rfl
 have d8:=aA X2.o (i:=8) rfl
 have d9:=aA X2.o (i:=9) rfl
 have e1:=aA X3.o (i:=1) rfl
 have e2:=aA X3.o (i:=2) rfl
 have l2:=aC X2.o
 have l3:=aC X3.o
 have hs:=fun (W:World)=>(show Calls Try.prog 43 #[.int .i64 11] W fun e w'=>e=.returned (.tuple #[.string ⟨#[109,97,116,99,104]⟩,.int .i64 0])/\w'=W from bW 11 W)
 have q2:hsT 0 2=false:=by decide
 have q4:hsT 0 4=false:=by decide
 have q8:hsT 0 8=false:=by decide
 have q16:hsT 0 16=false:=by decide
 have q32:hsT 0 32=false:=by decide
 have q64:hsT 0 64=false:=by decide
 have EI:=fun W=>bN ⟨11,ix,iy,inn,imn,imx,iss⟩ j W
 simp only at EI
 have hF:bL p k ⟨11,ix,iy,inn,imn,imx,iss⟩=(decide ((⟨11,ix,iy,inn,imn,imx,iss⟩:Ins)=j)):=by
  rw [hj]
  show (!(shW 11==[])&&decide ((⟨11,ix,iy,inn,imn,imx,iss⟩:Ins)=usI 0 ⟨11,ix,iy,inn,imn,imx,iss⟩)&&(!hsT 0 2||blw ix p.L.length)&&(!hsT 0 4||blw iy p.L.length)&&(!hsT 0 8||blw inn p.g)&&(!hsT 0 16||blw inn p.k)&&(!hsT 0 32||rbd imn imx)&&(!hsT 0 64||decide ((k:Int)+1<p.L.length)))=_
  rw [show (!(shW 11==[]))=true from rfl,q2,q4,q8,q16,q32,q64]
  simp
 have HF:=aD hF
 clear hF
 clear hj
 go_wp2_with (go_at_call 43;(with_reducible refine(hs _).mono ?_);rintro e w5 ⟨rfl,rfl⟩)
 refine wx9 ?_
 repeat (go_big_quiet_step (first | exact rfl | exact EI _ |(go_at_call 44;exact bJ (hc _))))
 refine wpQuiet_nil ?_
 intro w6 hw6
 have hb6:=bS hw6
 have B6:=aD (aF B2.o hb6 lz9)
 have y1:=(hb6.cell (p:=⟨w1.heap.size,1,none⟩) l2).trans d1
 have y2:=(hb6.cell (p:=⟨w1.heap.size,2,none⟩) l2).trans d2
 have y3:=(hb6.cell (p:=⟨w1.heap.size,3,none⟩) l2).trans d3
 have y4:=(hb6.cell (p:=⟨w1.heap.size,4,none⟩) l2).trans d4
 have y5:=(hb6.cell (p:=⟨w1.heap.size,5,none⟩) l2).trans d5
 have z1:=(hb6.cell (p:=⟨w.heap.size,1,none⟩) l3).trans e1
 have z2:=(hb6.cell (p:=⟨w.heap.size,2,none⟩) l3).trans e2
 clear hw6 hb6 d0 d1 d2 d3 d4 d5 d6 d7 d8 d9 e1 e2 hc EI hs
 obtain⟨r,hr⟩:∃ r,decide ((⟨11,ix,iy,inn,imn,imx,iss⟩:Ins)=j)=r:=⟨_,rfl⟩
 rw [hr] at HF ⊢
 clear hr hi
 have hw1:IntKind.wrap .i64 ((k:Int)+1)=(k:Int)+1:=wrap_small _ (by omega) (by omega)
 go_wp2_with first
  |(go_at_call 45;(with_reducible refine(cA _ _ _).mono ?_);rintro e w7 ⟨rfl,rfl⟩)
  |(go_at_call 34;(with_reducible refine(aX _ _ _).mono ?_);rintro e w7 ⟨rfl,rfl⟩)
  |(go_at_call 46;(with_reducible refine(bT _ _ _).mono ?_);rintro e w7 ⟨rfl,rfl⟩)
 all_goals go_ret
 all_goals
  refine⟨?_,B6.o⟩
  rw [HF.o]
  first | rfl | simp_all
end
section
attribute [local go_sem] Oper.semAt_some bI
theorem tY{w:World}{p:Pg}(h:PgI w p){k:Nat}{i:Ins}(hi:p.L[k]?=some i)(hn:shW i.op=[])(hm:shT i.op=0) :
  Calls Try.prog 35 #[.agg #[.slice p.q p.L.length p.c,.int .i64 p.g,.int .i64 p.k,.bool p.f],.int .i64 (k:Int)] w (RaP p k i w):=by
 have B1:Hid (wBl w (w.alloc (.cells #[.slice p.q p.L.length p.c,.int .i64 p.g,.int .i64 p.k,.bool p.f] 24))):=bz9
 have n1:=aE w (.cells #[.slice p.q p.L.length p.c,.int .i64 p.g,.int .i64 p.k,.bool p.f] 24)
 have p0:(w.alloc (.cells #[.slice p.q p.L.length p.c,.int .i64 p.g,.int .i64 p.k,.bool p.f] 24)).cell? ⟨w.heap.size,0,none⟩=some (.slice p.q p.L.length p.c):=aA n1 (i:=0) rfl
 have X1:Hid ((w.alloc (.cells #[.slice p.q p.L.length p.c,.int .i64 p.g,.int .i64 p.k,.bool p.f] 24)).heap[w.heap.size]?=some (.cells #[.slice p.q p.L.length p.c,.int .i64 p.g,.int .i64 p.k,.bool p.f] 24 (0,0))):=n1
 obtain⟨g1,o1,hq1,hl1,c0,c1,c2,c3,c4,c5,c6,c7,c8,c9⟩:=(h.li.kept B1.o).ten hi
 have hlt:=(f7.1 hi).1
 have i0:(k:Int)<(p.L.length:Int):=by omega
 have Q1:=aD hq1
 have HF:Hid (bL p k i=false):=aD (by unfold bL;rw [hn];rfl)
 have hs:∀ W,Calls Try.prog 43 #[.int .i64 i.op] W fun e w'=>e=.returned (.tuple #[.string ⟨#[]⟩,.int .i64 0])/\w'=W:=fun W=>by
  have:=bW i.op W
  rw [hn,hm] at this
  exact this
 clear hq1 n1 hn hm
 go_enter Try.func35,Try.ntmps35
 go_upto_region 1 with fail
 generalize (w.alloc (.cells #[.slice p.q p.L.length p.c,.int .i64 p.g,.int .i64 p.k,.bool p.f] 24))=w1 at B1 p0 X1 hl1 c0 c1 c2 c3 c4 c5 c6 c7 c8 c9 ⊢
 rw [Q1.o] at p0
 have hl2:=aC X1.o
 go_region
 clear p0 c0 c1 c2 c3 c4 c5 c6 c7 c8 c9 hl1
 have B2:Hid (wBl w (w1.alloc (.cells #[.int .i64 i.op,.int .i64 i.x,.int .i64 i.y,.int .i64 i.n,.int .i64 i.mn,.int .i64 i.mx,.int .u64 (aB i.s 0),.int .u64 (aB i.s 1),.int .u64 (aB i.s 2),.int .u64 (aB i.s 3)] 47)).drew):=(aF B1.o (bz9) lz9).drew
 have X2:Hid ((w1.alloc (.cells #[.int .i64 i.op,.int .i64 i.x,.int .i64 i.y,.int .i64 i.n,.int .i64 i.mn,.int .i64 i.mx,.int .u64 (aB i.s 0),.int .u64 (aB i.s 1),.int .u64 (aB i.s 2),.int .u64 (aB i.s 3)] 47)).drew.heap[w1.heap.size]?=some (.cells #[.int .i64 i.op,.int .i64 i.x,.int .i64 i.y,.int .i64 i.n,.int .i64 i.mn,.int .i64 i.mx,.int .u64 (aB i.s 0),.int .u64 (aB i.s 1),.int .u64 (aB i.s 2),.int .u64 (aB i.s 3)] 47 (0,0))):=aE w1 _
 generalize (w1.alloc (.cells #[.int .i64 i.op,.int .i64 i.x,.int .i64 i.y,.int .i64 i.n,.int .i64 i.mn,.int .i64 i.mx,.int .u64 (aB i.s 0),.int .u64 (aB i.s 1),.int .u64 (aB i.s 2),.int .u64 (aB i.s 3)] 47)).drew=w2 at B2 X2 ⊢
 have d0:w2.cell? ⟨w1.heap.size,0,none⟩=some (.int .i64 i.op):=aA X2.o (i:=0) rfl
 go_wp2_with (go_at_call 43;(with_reducible refine(hs _).mono ?_);rintro e w5 ⟨rfl,rfl⟩)
 refine wx9 ?_
 repeat (go_big_quiet_step (first | exact rfl))
 refine wpQuiet_nil ?_
 intro w6 hw6
 have hb6:=bS hw6
 have B6:=aD (aF B2.o hb6 lz9)
 clear hw6 hb6
 go_wp2
 go_ret
 exact⟨by rw [HF.o];rfl,B6.o⟩
theorem lN{w:World}{p:Pg}(h:PgI w p){k:Nat}{i:Ins}(hi:p.L[k]?=some i)(hk:p.L.length<=40000) :
  Calls Try.prog 35 #[.agg #[.slice p.q p.L.length p.c,.int .i64 p.g,.int .i64 p.k,.bool p.f],.int .i64 (k:Int)] w (RaP p k i w):=by
 by_cases h1:i.op=1
 ·exact uH h hi hk h1
 by_cases h2:i.op=2
 ·exact uG h hi hk h2
 by_cases h3:i.op=3
 ·exact uF h hi hk h3
 by_cases h4:i.op=4
 ·exact uE h hi hk h4
 by_cases h5:i.op=5
 ·exact uD h hi hk h5
 by_cases h6:i.op=6
 ·exact uC h hi hk h6
 by_cases h7:i.op=7
 ·exact uB h hi hk h7
 by_cases h8:i.op=8
 ·exact uA h hi hk h8
 by_cases h9:i.op=9
 ·exact tZ h hi hk h9
 by_cases h10:i.op=10
 ·exact sY h hi hk h10
 by_cases h11:i.op=11
 ·exact sX h hi hk h11
 refine tY h hi ?_ ?_
 ·unfold shW;simp [h1,h2,h3,h4,h5,h6,h7,h8,h9,h10,h11]
 ·unfold shT;simp [h1,h2,h3,h4,h5,h6,h7,h8,h9,h10]
def fbI(p:Pg):Nat->List Ins->Option Nat
 | _,[]=>none
 | k,i :: r=>if bL p k i then fbI p (k+1) r else some k
def rtE(p:Pg):Int×Int:=
 if 40000<p.L.length then (42,0) else if !blw p.g 31 || !blw p.k 41 then (1,0) else if p.L.length=0 then (60,0) else match fbI p 0 p.L with
 | some k=>(60,k)
 | none=>(0,0)
theorem iC(p:Pg){j:Nat}{i:Ins}(hj:p.L[j]?=some i):fbI p j (p.L.drop j)=if bL p j i then fbI p (j+1) (p.L.drop (j+1)) else some j:=by
 have hlt:=(f7.1 hj).1
 rw [List.drop_eq_getElem_cons hlt,(f7.1 hj).2]
 rfl
def RtP(p:Pg)(w:World)(e:Ending)(w':World):Prop:=e=.returned (.tuple #[.int .i64 (rtE p).1,.int .i64 (rtE p).2])/\wBl w w'
theorem rE{w:World}{p:Pg}(h:PgI w p):Calls Try.prog 23 #[.agg #[.slice p.q p.L.length p.c,.int .i64 p.g,.int .i64 p.k,.bool p.f]] w (RtP p w):=by
 have B1:Hid (wBl w (w.alloc (.cells #[.slice p.q p.L.length p.c,.int .i64 p.g,.int .i64 p.k,.bool p.f] 24))):=bz9
 have n1:=aE w (.cells #[.slice p.q p.L.length p.c,.int .i64 p.g,.int .i64 p.k,.bool p.f] 24)
 have X1:Hid ((w.alloc (.cells #[.slice p.q p.L.length p.c,.int .i64 p.g,.int .i64 p.k,.bool p.f] 24)).heap[w.heap.size]?=some (.cells #[.slice p.q p.L.length p.c,.int .i64 p.g,.int .i64 p.k,.bool p.f] 24 (0,0))):=n1
 have H:=aD h
 have hlen:=h.len
 obtain⟨r1,hr1⟩:∃ r,rtE p=r:=⟨_,rfl⟩
 have R:=aD hr1
 unfold RtP
 rw [hr1]
 clear hr1 h n1
 go_enter Try.func23,Try.ntmps23
 go_upto_region 1 with fail
 generalize (w.alloc (.cells #[.slice p.q p.L.length p.c,.int .i64 p.g,.int .i64 p.k,.bool p.f] 24))=w1 at B1 X1 ⊢
 have p0:w1.cell? ⟨w.heap.size,0,none⟩=some (.slice p.q p.L.length p.c):=aA X1.o (i:=0) rfl
 have p1:w1.cell? ⟨w.heap.size,1,none⟩=some (.int .i64 p.g):=aA X1.o (i:=1) rfl
 have p2:w1.cell? ⟨w.heap.size,2,none⟩=some (.int .i64 p.k):=aA X1.o (i:=2) rfl
 have l1:=aC X1.o
 by_cases hm:40000<p.L.length
 ·have i0:(40000:Int)<(p.L.length:Int):=by omega
  go_wp2
  go_ret2
  exact⟨by rw [<- R.o,rtE,if_pos hm];rfl,B1.o⟩
 have i0:¬ (40000:Int)<(p.L.length:Int):=by omega
 by_cases hb:(!blw p.g 31 || !blw p.k 41)=true
 ·have hR:rtE p=(1,0):=by rw [rtE,if_neg hm,if_pos hb]
  have R2:=aD (R.o.symm.trans hR)
  clear hR
  cases hg:blw p.g 31 with
  | false=>
   go_wp2_with (go_at_call 34;(with_reducible refine(aX _ _ _).mono ?_);rw [hg];rintro e w7 ⟨rfl,rfl⟩)
   go_ret2
   exact⟨by rw [R2.o];rfl,B1.o⟩
  | true=>
   rw [hg] at hb
   have hg2:blw p.k 41=false:=by simpa using hb
   go_wp2_with first
    |(go_at_call 34;(with_reducible refine(aX p.g _ _).mono ?_);rw [hg];rintro e w7 ⟨rfl,rfl⟩)
    |(go_at_call 34;(with_reducible refine(aX p.k _ _).mono ?_);rw [hg2];rintro e w7 ⟨rfl,rfl⟩)
   go_ret2
   exact⟨by rw [R2.o];rfl,B1.o⟩
 have hg:blw p.g 31=true:=by cases h:blw p.g 31 <;> simp_all
 have hg2:blw p.k 41=true:=by cases h:blw p.k 41 <;> simp_all
 by_cases hz:p.L.length=0
 ·have hR:rtE p=(60,0):=by rw [rtE,if_neg hm,if_neg hb,if_pos hz]
  have R2:=aD (R.o.symm.trans hR)
  clear hR hb
  rw [hz] at p0
  go_wp2_with first
   |(go_at_call 34;(with_reducible refine(aX p.g _ _).mono ?_);rw [hg];rintro e w7 ⟨rfl,rfl⟩)
   |(go_at_call 34;(with_reducible refine(aX p.k _ _).mono ?_);rw [hg2];rintro e w7 ⟨rfl,rfl⟩)
  go_ret2
  exact⟨by rw [R2.o];rfl,B1.o⟩
 have hR:rtE p=match fbI p 0 p.L with | some k=>(60,(k:Int)) | none=>(0,0):=by rw [rtE,if_neg hm,if_neg hb,if_neg hz]
 have R2:=aD (R.o.symm.trans hR)
 have z0:(((p.L.length:Nat):Int)==0)=false:=by rw [f8];omega
 clear hR hb
 go_wp2_with first
  |(go_at_call 34;(with_reducible refine(aX p.g _ _).mono ?_);rw [hg];rintro e w7 ⟨rfl,rfl⟩)
  |(go_at_call 34;(with_reducible refine(aX p.k _ _).mono ?_);rw [hg2];rintro e w7 ⟨rfl,rfl⟩)
 have H7:=aD (H.o.kept B1.o)
 clear p0 p1 p2
 go_loopw [29] (fun i wr=>∃ j:Nat,j<=p.L.length/\i=.int .i64 (j:Int)/\fbI p 0 p.L=fbI p j (p.L.drop j)/\wBl w7 wr) (fun i _=>p.L.length-(intOf i).toNat)
 case atStart=>exact⟨0,o7 _,rfl,by rw [List.drop_zero],Below.refl _ _⟩
 case round=>
  obtain⟨j,hj,rfl,hpre,hbel⟩:=hrel
  have HP:=aD hpre
  have HB:=aD hbel
  have y0:=aA ((HB.o.block _ l1).trans X1.o) (i:=0) rfl
  have y1:=aA ((HB.o.block _ l1).trans X1.o) (i:=1) rfl
  have y2:=aA ((HB.o.block _ l1).trans X1.o) (i:=2) rfl
  have y3:=aA ((HB.o.block _ l1).trans X1.o) (i:=3) rfl
  clear hpre hbel
  by_cases hjl:j<p.L.length
  ·have j0:(j:Int)<(p.L.length:Int):=by omega
   obtain⟨a9,hga⟩:∃ a,p.L[j]?=some a:=⟨_,j4 hjl⟩
   have HC:=aD (lN (H7.o.kept HB.o) hga (by omega))
   have GA:=aD (iC p hga)
   unfold RaP at HC
   obtain⟨sb,hsb⟩:∃ sb,bL p j a9=sb:=⟨_,rfl⟩
   rw [hsb] at HC GA
   clear hga hsb
   cases sb with
   | false=>
    have HN:Hid (r1=(60,(j:Int))):=by have:=R2.o;rw [HP.o,GA.o] at this;exact this
    go_wp2_with (go_at_call 35;(with_reducible refine(HC.o).mono ?_);rintro e w5 ⟨rfl,h5⟩;have B5:=aD (aF (aF B1.o HB.o lz9) h5 lz9);clear h5)
    go_ret2
    exact⟨by rw [HN.o];rfl,B5.o⟩
   | true=>
    have HN:Hid (fbI p 0 p.L=fbI p (j+1) (p.L.drop (j+1))):=by have:=HP.o;rw [GA.o] at this;exact this
    go_wp2_with (go_at_call 35;(with_reducible refine(HC.o).mono ?_);rintro e w5 ⟨rfl,h5⟩;have B5:=aD (aF HB.o h5 lz9);clear h5)
    go_roundw
    case rel=>exact⟨j+1,by omega,by go_num,HN.o,B5.o⟩
    case measure=>simp only [intOf];omega
  ·have j0:¬ (j:Int)<(p.L.length:Int):=by omega
   have HN:Hid (r1=(0,0)):=by have:=R2.o;rw [HP.o,List.drop_eq_nil_of_le (by omega)] at this;exact this
   go_wp2
   go_ret2
   exact⟨by rw [HN.o];rfl,aF B1.o HB.o lz9⟩
end
section
attribute [local go_sem] Oper.semAt_some bI
theorem iB{p:Pg}:∀ {k:Nat} {L:List Ins},fbI p k L=none->∀ (j:Nat) (i:Ins),L[j]?=some i->bL p (k+j) i=true
 | _,[],_,j,i,h=>by simp at h
 | k,x :: r,hf,j,i,h=>by
  unfold fbI at hf
  split at hf
  ·rename_i hx
   cases j with
   | zero=>
    obtain rfl:x=i:=by simpa using h
    exact hx
   | succ j=>
    have:=iB hf j i (by simpa using h)
    rwa [show k+1+j=k+(j+1) by omega] at this
  ·cases hf
theorem kT{p:Pg}(h:(rtE p).1=0):p.L.length<=40000/\0<p.L.length/\∀ (j:Nat) (i:Ins),p.L[j]?=some i->bL p j i=true:=by
 unfold rtE at h
 split at h
 ·exact absurd h (by decide)
 split at h
 ·exact absurd h (by decide)
 split at h
 ·exact absurd h (by decide)
 rename_i h1 h2 h3
 refine⟨by omega,by omega,fun j i hi=>?_⟩
 cases hf:fbI p 0 p.L with
 | some k=>rw [hf] at h;simp at h
 | none=>
  have:=iB hf j i hi
  rwa [Nat.zero_add] at this
theorem lD{n m:Int}(h:blw n m=true):0<=n/\n<m:=by simpa [blw] using h
theorem fG{p:Pg}(h:(rtE p).1=0):GP p.L:=by
 obtain⟨h1,h2,h3⟩:=kT h
 have hx:∀ (a:Nat) (i:Ins),p.L[a]?=some i->(hsT (shT i.op) 2=true->0<=i.x/\i.x<p.L.length)/\(hsT (shT i.op) 4=true->0<=i.y/\i.y<p.L.length)/\(hsT (shT i.op) 64=true->(a:Int)+1<p.L.length):=fun a i hi=>by
  have hf:=h3 a i hi
  unfold bL at hf
  simp only [o5,Bool.or_eq_true,Bool.not_eq_true',decide_eq_true_eq] at hf
  obtain⟨⟨⟨⟨⟨⟨⟨_,_⟩,f1⟩,f2⟩,_⟩,_⟩,_⟩,f3⟩:=hf
  refine⟨fun e=>?_,fun e=>?_,fun e=>?_⟩
  ·rcases f1 with q | q
   ·rw [e] at q;cases q
   ·exact lD q
  ·rcases f2 with q | q
   ·rw [e] at q;cases q
   ·exact lD q
  ·rcases f3 with q | q
   ·rw [e] at q;cases q
   ·exact q
 refine⟨h2,h1,fun a i hi bg en x hm=>?_,fun a i hi ho=>?_⟩
 ·obtain⟨q1,q2,q3⟩:=hx a i hi
  unfold cV at hm
  split at hm
  ·rename_i e
   rw [e] at q1 q2
   simp at hm
   rcases hm with rfl | rfl
   ·exact q1 (by decide)
   ·exact q2 (by decide)
  split at hm
  ·rename_i e
   rw [e] at q1
   simp at hm
   subst hm
   exact q1 (by decide)
  split at hm
  ·rename_i e
   have:=q3 (by rcases e with e | e <;> rw [e] <;> decide)
   simp at hm
   omega
  split at hm
  ·rename_i e
   have:=q3 (by rw [e];decide)
   cases bg
   ·simp at hm
   ·simp at hm;omega
  split at hm
  ·rename_i e
   have:=q3 (by rw [e];decide)
   cases en
   ·simp at hm
   ·simp at hm;omega
  ·cases hm
 ·have:=(hx a i hi).2.2 (by rw [ho];decide)
  omega
def wrM(p:Pg)(n:Nat)(pl:Int):Int:=if (rtE p).1≠0 then (rtE p).1 else if cB p=false then 51 else if pl<0\/(n:Int)<pl then 1 else 0
theorem fR{p:Pg}{n:Nat}{pl:Int}(h:wrM p n pl=0):(rtE p).1=0/\cB p=true/\0<=pl/\pl<=n:=by
 unfold wrM at h
 split at h
 ·exact absurd h (by assumption)
 rename_i h1
 split at h
 ·exact absurd h (by decide)
 rename_i h2
 split at h
 ·exact absurd h (by decide)
 rename_i h3
 exact⟨by simpa using h1,by simpa using h2,by omega,by omega⟩
theorem pF{p:Pg}{n:Nat}{pl:Int}(h1:(rtE p).1=0)(h2:cB p=true)(h3:0<=pl)(h4:pl<=n):wrM p n pl=0:=by
 unfold wrM
 rw [if_neg (by simpa using h1),if_neg (by rw [h2];decide),if_neg (by omega)]
theorem eC{w:World}{p:Pg}(h:PgI w p)(s:ByteArray)(pl:Int):Calls Try.prog 15 #[.agg #[.slice p.q p.L.length p.c,.int .i64 p.g,.int .i64 p.k,.bool p.f],.string s,.int .i64 pl] w fun e w'=>e=.returned (.int .i64 (wrM p s.size pl))/\wBl w w':=by
 have B1:Hid (wBl w (w.alloc (.cells #[.slice p.q p.L.length p.c,.int .i64 p.g,.int .i64 p.k,.bool p.f] 24))):=bz9
 have X1:Hid ((w.alloc (.cells #[.slice p.q p.L.length p.c,.int .i64 p.g,.int .i64 p.k,.bool p.f] 24)).heap[w.heap.size]?=some (.cells #[.slice p.q p.L.length p.c,.int .i64 p.g,.int .i64 p.k,.bool p.f] 24 (0,0))):=aE w _
 have HC:=aD (rE (h.kept B1.o))
 have HF:=aD (fun (V:World) (hV:wBl w V)=>tM (h.kept hV))
 unfold RtP at HC
 obtain⟨re,hre⟩:∃ r,(rtE p).1=r:=⟨_,rfl⟩
 obtain⟨rk,hrk⟩:∃ r,(rtE p).2=r:=⟨_,rfl⟩
 obtain⟨fb,hfb⟩:∃ r,cB p=r:=⟨_,rfl⟩
 rw [hre,hrk] at HC
 rw [hfb] at HF
 have HRE:=aD hre
 have HFB:=aD hfb
 clear hre hrk hfb h
 go_enter Try.func15,Try.ntmps15
 go_upto_region 1 with fail
 generalize (w.alloc (.cells #[.slice p.q p.L.length p.c,.int .i64 p.g,.int .i64 p.k,.bool p.f] 24))=w1 at B1 X1 HC ⊢
 have p0:=aA X1.o (i:=0) rfl
 have p1:=aA X1.o (i:=1) rfl
 have p2:=aA X1.o (i:=2) rfl
 have p3:=aA X1.o (i:=3) rfl
 have l1:=aC X1.o
 by_cases hz:re=0
 ·subst hz
  go_upto_region 4 with (go_at_call 23;(with_reducible refine(HC.o).mono ?_);rintro e w2 ⟨rfl,h2⟩;have B2:=aD (aF B1.o h2 lz9);have X2:=aD ((h2.block _ l1).trans X1.o);clear h2)
  have y0:=aA X2.o (i:=0) rfl
  have y1:=aA X2.o (i:=1) rfl
  have y2:=aA X2.o (i:=2) rfl
  have y3:=aA X2.o (i:=3) rfl
  clear p0 p1 p2 p3
  cases fb with
  | false=>
   go_wp2_with (go_at_call 24;(with_reducible refine(HF.o _ B2.o).mono ?_);rintro e w3 ⟨rfl,h3⟩;have B3:=aD (aF B2.o h3 lz9);clear h3)
   go_ret
   exact⟨by rw [show wrM p s.size pl=51 by unfold wrM;rw [HRE.o,HFB.o,if_neg (by decide),if_pos rfl]];rfl,B3.o⟩
  | true=>
   by_cases h0:pl<0
   ·go_wp2_with (go_at_call 24;(with_reducible refine(HF.o _ B2.o).mono ?_);rintro e w3 ⟨rfl,h3⟩;have B3:=aD (aF B2.o h3 lz9);clear h3)
    go_ret
    exact⟨by rw [show wrM p s.size pl=1 by unfold wrM;rw [HRE.o,HFB.o,if_neg (by decide),if_neg (by decide),if_pos (.inl (by omega))]];rfl,B3.o⟩
   ·by_cases h1:(s.size:Int)<pl
    ·go_wp2_with (go_at_call 24;(with_reducible refine(HF.o _ B2.o).mono ?_);rintro e w3 ⟨rfl,h3⟩;have B3:=aD (aF B2.o h3 lz9);clear h3)
     go_ret
     exact⟨by rw [show wrM p s.size pl=1 by unfold wrM;rw [HRE.o,HFB.o,if_neg (by decide),if_neg (by decide),if_pos (.inr (by omega))]];rfl,B3.o⟩
    ·go_wp2_with (go_at_call 24;(with_reducible refine(HF.o _ B2.o).mono ?_);rintro e w3 ⟨rfl,h3⟩;have B3:=aD (aF B2.o h3 lz9);clear h3)
     go_ret
     exact⟨by rw [show wrM p s.size pl=0 by unfold wrM;rw [HRE.o,HFB.o,if_neg (by decide),if_neg (by decide),if_neg (by omega)]];rfl,B3.o⟩
 ·have z0:(re != 0)=true:=by simp [hz]
  have HZ:=aD hz
  clear hz
  go_wp2_with (go_at_call 23;(with_reducible refine(HC.o).mono ?_);rintro e w2 ⟨rfl,h2⟩;have B2:=aD (aF B1.o h2 lz9);clear h2)
  go_ret
  exact⟨by rw [show wrM p s.size pl=re by unfold wrM;rw [HRE.o,if_pos HZ.o]];rfl,B2.o⟩
end
section
attribute [local go_sem] Oper.semAt_some bI
theorem sO(s:bH)(b:Nat):decide (aB s (b/64)/2 ^ (b%64)%2=1)=s.getLsbD b:=by
 unfold aB
 have h1:(s.extractLsb' (64*(b/64)) 64).getLsbD (b%64)=s.getLsbD b:=by
  rw [BitVec.getLsbD_extractLsb']
  have:b%64<64:=Nat.mod_lt _ (by decide)
  simp only [this,decide_true,Bool.true_and]
  congr 1
  omega
 rw [<- h1]
 unfold BitVec.getLsbD
 rw [Nat.testBit_eq_decide_div_mod_eq]
 generalize (s.extractLsb' (64*(b/64)) 64).toNat=n
 have e:((n:Int)/2 ^ (b%64)%2)=((n/2 ^ (b%64)%2:Nat):Int):=by
  push_cast
  rfl
 rw [e]
 apply decide_eq_decide.2
 omega
theorem tX(s:bH)(b:Nat)(hb:b<256)(w:World):Calls Try.prog 33 #[.agg #[.int .u64 (aB s 0),.int .u64 (aB s 1),.int .u64 (aB s 2),.int .u64 (aB s 3)],.int .i64 (b:Int)] w fun e w'=>e=.returned (.bool (s.getLsbD b))/\wBl w w':=by
 have B1:Hid (wBl w (w.alloc (.cells #[.int .u64 (aB s 0),.int .u64 (aB s 1),.int .u64 (aB s 2),.int .u64 (aB s 3)] 45))):=bz9
 have X1:Hid ((w.alloc (.cells #[.int .u64 (aB s 0),.int .u64 (aB s 1),.int .u64 (aB s 2),.int .u64 (aB s 3)] 45)).heap[w.heap.size]?=some (.cells #[.int .u64 (aB s 0),.int .u64 (aB s 1),.int .u64 (aB s 2),.int .u64 (aB s 3)] 45 (0,0))):=aE w _
 have HW0:=sO s b
 obtain⟨ans,ha⟩:∃ a,s.getLsbD b=a:=⟨_,rfl⟩
 rw [ha] at HW0 ⊢
 have q:∃ k r:Nat,k<4/\r<64/\(b:Int).tdiv 64=k/\(b:Int).tmod 64=r/\b/64=k/\b%64=r:=⟨b/64,b%64,by omega,by omega,by rw [Int.tdiv_eq_ediv_of_nonneg (by omega)];omega,by rw [Int.tmod_eq_emod_of_nonneg (by omega)];omega,rfl,rfl⟩
 obtain⟨k,r,hk,hr,t1,t2,e1,e2⟩:=q
 rw [e1,e2] at HW0
 have hz:0<=aB s k/2 ^ r:=Int.ediv_nonneg (by unfold aB;omega) (by exact Int.le_of_lt (Int.pow_pos (by decide)))
 have HW:Hid (((aB s k/2 ^ r).tmod 2==1)=ans):=aD (by rw [Int.tmod_eq_emod_of_nonneg hz,<- HW0];exact Bool.eq_iff_iff.2 (by simp))
 have hw1:IntKind.wrap .i64 (k:Int)=(k:Int):=wrap_small _ (by omega) (by omega)
 have hw2:IntKind.wrap .i64 (r:Int)=(r:Int):=wrap_small _ (by omega) (by omega)
 have k0:(0:Int)<=(k:Int):=by omega
 have k1:(k:Int)<4:=by omega
 have r0:¬ (r:Int)<0:=by omega
 have r1:(r:Int)<64:=by omega
 clear e1 e2 HW0 hz ha
 go_enter Try.func33,Try.ntmps33
 go_upto_region 1 with fail
 generalize (w.alloc (.cells #[.int .u64 (aB s 0),.int .u64 (aB s 1),.int .u64 (aB s 2),.int .u64 (aB s 3)] 45))=w1 at B1 X1 ⊢
 have c:∀ i,i<4->w1.cell? ⟨w.heap.size,i,none⟩=some (.int .u64 (aB s i)):=fun i hi=>by
  match i,hi with
  | 0,_=>exact aA X1.o (i:=0) rfl
  | 1,_=>exact aA X1.o (i:=1) rfl
  | 2,_=>exact aA X1.o (i:=2) rfl
  | 3,_=>exact aA X1.o (i:=3) rfl
 have ck:=c k hk
 clear c
 go_wp2
 go_ret
 exact⟨by rw [<- HW.o];rfl,B1.o⟩
end
section
attribute [local go_sem] Oper.semAt_some
theorem fI(b:Int)(n:Nat)(hb:0<=b/\b<=255):(aP b).getLsbD n=decide (b=(n:Int)):=by
 rw [cX]
 apply decide_eq_decide.2
 omega
theorem pK(s:bH)(b:Nat)(hb:b<256):aO s (b:Int)=s.getLsbD b:=by
 unfold aO
 have e:(s.getLsbD b=false)↔bE s (aP (b:Int))=0#256:=by
  constructor
  ·intro h
   refine BitVec.eq_of_getLsbD_eq fun n hn=>?_
   rw [show (bE s (aP (b:Int))).getLsbD n=(s.getLsbD n&&(aP (b:Int)).getLsbD n) by simp [bE],fI _ _ (by omega)]
   by_cases q:b=n
   ·subst q;simp [h]
   ·have:¬ ((b:Int)=(n:Int)):=by omega
    simp [this]
  ·intro h
   have:=congrArg (fun z=>z.getLsbD b) h
   rw [show (bE s (aP (b:Int))).getLsbD b=(s.getLsbD b&&(aP (b:Int)).getLsbD b) by simp [bE],fI _ _ (by omega)] at this
   simpa using this
 cases h:s.getLsbD b
 ·rw [e.1 h];rfl
 ·have:¬ bE s (aP (b:Int))=0#256:=fun q=>by rw [e.2 q] at h;cases h
  simp [this]
theorem pG:Try.prog.underlying 62=some (.slice 3):=by kernel_rfl
theorem lI:Try.prog.underlying 60=some (.slice 62):=by kernel_rfl
theorem lL:(Try.prog.info? 62).map (fun i=>(i.zero,i.size,i.bytes))=some (some (.slice none 0 0),1,24):=by kernel_rfl
def RwB(V:World)(g:Nat)(L:List Int):Prop:=V.heap[g]?=some (.cells (bO L).toArray 3 (0,0))
theorem RwB.cell{V:World}{g k:Nat}{L:List Int}{x:Int}(h:RwB V g L)(hx:L[k]?=some x):V.cell? ⟨g,k,none⟩=some (.int .i64 x):=aA h (by rw [List.getElem?_toArray];exact dJ hx)
theorem RwB.set{V:World}{g:Nat}{L:List Int}(h:RwB V g L)(k:Nat)(x:Int):RwB (V.setCell ⟨g,k,none⟩ (.int .i64 x)) g (L.set k x):=by
 have:=aG h k (.int .i64 x)
 unfold RwB
 rw [this]
 congr 2
 simp [bO,List.map_set]
theorem oV(n:Nat)(h:n<=1000000)(w:World) :
  (Instr.makeSlice 62 (.int .i64 (n:Int)) (.int .i64 (n:Int))).run Try.prog w=.ok (.slice (some ⟨w.heap.size,0,none⟩) n n) (w.alloc (.cells (bO (List.replicate n 0)).toArray 3)):=by
 obtain⟨i0,hi,hz0,hz1,hz2⟩:=info_parts eI
 have:=run_make (P:=Try.prog) w 62 3 i0 (.int .i64 0) pG hi hz0 .i64 .i64 (n:Int) (n:Int) (by omega) (by omega) (by rw [hz2];omega) (by omega)
 rw [hz1] at this
 have e:madeCells #[.int .i64 0] n=(bO (List.replicate n 0)).toArray:=by
  apply Array.ext
  ·simp [madeCells,bO]
  intro i h1 h2
  simp [madeCells,bO,Nat.mod_one]
 simpa [Value.cells,e] using this
theorem kI(n:Nat)(h:n<=4000000000000)(w:World) :
  (Instr.makeSlice 60 (.int .i64 (n:Int)) (.int .i64 (n:Int))).run Try.prog w=.ok (.slice (some ⟨w.heap.size,0,none⟩) n n) (w.alloc (.cells (madeCells #[.slice none 0 0] n) 62)):=by
 obtain⟨i0,hi,hz0,hz1,hz2⟩:=info_parts lL
 have:=run_make (P:=Try.prog) w 60 62 i0 (.slice none 0 0) lI hi hz0 .i64 .i64 (n:Int) (n:Int) (by omega) (by omega) (by rw [hz2];omega) (by omega)
 rw [hz1] at this
 simpa [Value.cells] using this
theorem qQ(a b:Int)(w:World):Calls Try.prog 32 #[.int .i64 a,.int .i64 b] w fun e w'=>e=.returned (.int .i64 (if a>b then a else b))/\w'=w:=by
 by_cases h:a>b
 ·have h2:b<a:=h
  rw [if_pos h]
  go_enter Try.func32,Try.ntmps32
  go_wp2
  go_ret
  exact⟨rfl,rfl⟩
 ·have h2:¬ b<a:=h
  rw [if_neg h]
  go_enter Try.func32,Try.ntmps32
  go_wp2
  go_ret
  exact⟨rfl,rfl⟩
structure RwH(w1:World)(P:List Ins)(s:List UInt8)(ab m n:Nat)(V:World)(top fr:Nat):Prop where
 bel:wBl w1 V
 lo:w1.heap.size<=ab/\ab<top/\top<=V.heap.size
 all:∃ cs:Array Value,V.heap[ab]?=some (.cells cs 62 (0,0))/\cs.size=n+1/\∀ pl,fr<=pl->pl<=n->∃ g L,cs[pl]?=some (.slice (some ⟨g,0,none⟩) m m)/\RwB V g L/\L.length=m/\w1.heap.size<=g/\g<top/\RowM P s pl (rwF L)
section
variable {w1 V V':World} {P:List Ins} {s:List UInt8} {ab m n top fr:Nat}
theorem RwH.then(h:RwH w1 P s ab m n V top fr)(hb:Below top V V'):RwH w1 P s ab m n V' top fr:=by
 obtain⟨cs,h1,h2,h3⟩:=h.all
 have hl:=h.lo
 refine⟨h.bel.trans (hb.mono (by omega)),⟨hl.1,hl.2.1,k6 hl.2.2 hb.size⟩,cs,(hb.block _ hl.2.1).trans h1,h2,fun pl a b=>?_⟩
 obtain⟨g,L,q1,q2,q3,q4,q5,q6⟩:=h3 pl a b
 exact⟨g,L,q1,(hb.block _ q5).trans q2,q3,q4,q5,q6⟩
theorem RwH.put{g:Nat}{L:List Int}(h:RwH w1 P s ab m n V top (fr+1))(hf:fr<=n)(hg:RwB V g L)(hl:L.length=m)(ht:top<=g)(hm:RowM P s fr (rwF L)):RwH w1 P s ab m n (V.setCell ⟨ab,fr,none⟩ (.slice (some ⟨g,0,none⟩) m m)) (g+1) fr:=by
 obtain⟨cs,h1,h2,h3⟩:=h.all
 have lo:=h.lo
 have hgs:=aC hg
 have hk:∀ z,z≠ab->(V.setCell ⟨ab,fr,none⟩ (.slice (some ⟨g,0,none⟩) m m)).heap[z]?=V.heap[z]?:=fun z hz=>Below.heap_setCell V ⟨ab,fr,none⟩ _ z hz
 have hs:(V.setCell ⟨ab,fr,none⟩ (.slice (some ⟨g,0,none⟩) m m)).heap.size=V.heap.size:=by simp
 refine⟨h.bel.setCell lo.1 _,⟨lo.1,by omega,by omega⟩,cs.setIfInBounds fr (.slice (some ⟨g,0,none⟩) m m),aG h1 fr _,by simpa using h2,fun pl a b=>?_⟩
 by_cases e:pl=fr
 ·subst e
  exact⟨g,L,by rw [Array.getElem?_setIfInBounds_self_of_lt (by omega)],(hk g (by omega)).trans hg,hl,by omega,by omega,hm⟩
 ·obtain⟨g',L',q1,q2,q3,q4,q5,q6⟩:=h3 pl (by omega) b
  have hne:g'≠ab:=fun e=>by
   subst e
   have:=h1.symm.trans q2
   cases this
  exact⟨g',L',by rw [Array.getElem?_setIfInBounds_ne (by omega)];exact q1,(hk g' hne).trans q2,q3,q4,by omega,q6⟩
end
end
end Go.Proofs.Ytliflleaeimngaa
