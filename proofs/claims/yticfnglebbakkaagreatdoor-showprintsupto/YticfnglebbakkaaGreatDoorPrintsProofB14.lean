/-
  Parts of the proof.
-/
import Derived.Test.YticfnglebbakkaaGreatDoorPrintsProofB12
import Derived.Test.YticfnglebbakkaaGreatDoorPrintsProofB0
import Derived.Test.YticfnglebbakkaaGreatDoorPrintsProofB13
import Derived.Lib.AppendIntMem
set_option maxRecDepth 100000
set_option maxHeartbeats 8000000
namespace Go.Proofs.YticfnglebbakkaaGreatDoor
open Go Go.RowKit
theorem tZ{w:World}(F:Fl)(c f:Bool)(h:ArgR w (.slice F.rq F.rs.length F.rc) F.rs)(hS:IsC F.rs (fun x=>In F.rs x/\aN c x)) :
  Calls Tryz.prog 52 #[.agg #[.int .i64 F.k,.int .i64 F.n,.int .i64 F.mn,.int .i64 F.mx,.slice F.rq F.rs.length F.rc,.slice F.kq F.kl F.kc],.agg #[.bool c,.bool f]] w fun e w'=>e=.returned (.string (txt (dA c F.rs)))/\Below w.heap.size w w':=by
 have HA:Hid (ArgR w (.slice F.rq F.rs.length F.rc) F.rs):=h
 have HS:Hid (IsC F.rs (fun x=>In F.rs x/\aN c x)):=hS
 have HR:Hid ((∀ x∈dQ c F.rs,aN c x)/\(dQ c F.rs).length<=7000000):=jB hS
 have E:Hid (aY c (dQ c F.rs)=dA c F.rs):=rfl
 clear h hS
 go_enter Tryz.func52,Tryz.ntmps52
 go_upto_region 1 with fail
 have B2:Hid (Below w.heap.size w ((w.alloc (.cells #[.int .i64 F.k,.int .i64 F.n,.int .i64 F.mn,.int .i64 F.mx,.slice F.rq F.rs.length F.rc,.slice F.kq F.kl F.kc] 25)).alloc (.cells #[.bool c,.bool f] 27))):=(bz9).alloc (by simp) _
 have X1:Hid (((w.alloc (.cells #[.int .i64 F.k,.int .i64 F.n,.int .i64 F.mn,.int .i64 F.mx,.slice F.rq F.rs.length F.rc,.slice F.kq F.kl F.kc] 25)).alloc (.cells #[.bool c,.bool f] 27)).heap[w.heap.size]?=some (.cells #[.int .i64 F.k,.int .i64 F.n,.int .i64 F.mn,.int .i64 F.mx,.slice F.rq F.rs.length F.rc,.slice F.kq F.kl F.kc] 25 (0,0))):=(Below.heap_alloc _ _ _ (by simp)).trans (aF w _)
 have X2:Hid (((w.alloc (.cells #[.int .i64 F.k,.int .i64 F.n,.int .i64 F.mn,.int .i64 F.mx,.slice F.rq F.rs.length F.rc,.slice F.kq F.kl F.kc] 25)).alloc (.cells #[.bool c,.bool f] 27)).heap[w.heap.size+1]?=some (.cells #[.bool c,.bool f] 27 (0,0))):=aB (by have:=aF (w.alloc (.cells #[.int .i64 F.k,.int .i64 F.n,.int .i64 F.mn,.int .i64 F.mx,.slice F.rq F.rs.length F.rc,.slice F.kq F.kl F.kc] 25)) (.cells #[.bool c,.bool f] 27);simpa using this)
 generalize ((w.alloc (.cells #[.int .i64 F.k,.int .i64 F.n,.int .i64 F.mn,.int .i64 F.mx,.slice F.rq F.rs.length F.rc,.slice F.kq F.kl F.kc] 25)).alloc (.cells #[.bool c,.bool f] 27))=w2 at B2 X1 X2 ⊢
 have n4:=aA X1.out (i:=4) rfl
 have a0:=aA X2.out (i:=0) rfl
 have a1:=aA X2.out (i:=1) rfl
 have hl1:=aC X1.out
 have hl2:=aC X2.out
 go_region_with first
  |(go_at_call 42;refine(oN c f (HA.out.kept (B2.out.drew)) HS.out).mono ?_;rintro e w3 ⟨v3,rfl,h31,h32⟩;have O3:Hid (RO w2.heap.size w3 v3 (dQ c F.rs)):=h31;have B3:Hid (Below w.heap.size w w3):=aG B2.out.drew h32 lz9;have X3:Hid (w3.heap[w.heap.size+1]?=some (.cells #[.bool c,.bool f] 27 (0,0))):=(h32.block _ hl2).trans X2.out;have a30:=aA X3.out (i:=0) rfl;have a31:=aA X3.out (i:=1) rfl;obtain⟨q3,k3,rfl⟩:=aL h31;clear h31 h32)
  |(go_at_call 41;refine(nS c f O3.out HR.out.1 (Nat.le_trans HR.out.2 (by decide))).mono ?_;rintro e w4 ⟨rfl,h4⟩;have B4:Hid (Below w.heap.size w w4):=aG B3.out h4 lz9;clear h4)
 all_goals go_wp2
 all_goals (go_ret;exact⟨rfl,B4.out⟩)
theorem yM:∀ n:Fin 256,Lib.itoa (n.val:Int)=bB n.val:=by decide +kernel
theorem iU{w:World}(hG:Tens w){n:Int}(h0:0<=n)(h1:n<=255):Calls Tryz.prog 54 #[.int .i64 n] w fun e w'=>e=.returned (.string (txt (bB n.toNat)))/\Below w.heap.size w w':=by
 refine(Tryz.strconv_Itoa n (by omega) (by omega) w hG).mono ?_
 rintro e w' ⟨rfl,k,os,rfl⟩
 refine⟨?_,Lib.below_grow _ w lz9 k os⟩
 have:=yM ⟨n.toNat,by omega⟩
 simp only at this
 rw [show ((n.toNat:Nat):Int)=n by omega] at this
 rw [this]
 rfl
theorem cW{n:Int}(h0:0<=n)(h1:n<=255):(bB n.toNat).length<=3:=mK 3 n.toNat (by omega) (by omega)
theorem aE9{w:World}(hG:Tens w){b:Int}(hb:b=-1\/(0<=b/\b<=255)):Calls Tryz.prog 86 #[.int .i64 b] w fun e w'=>e=.returned (.string (txt (if b=-1 then [45] else bB b.toNat)))/\Below w.heap.size w w':=by
 by_cases h:b=-1
 ·subst h
  go_enter Tryz.func86,Tryz.ntmps86
  go_wp2
  go_ret
  exact⟨rfl,Below.refl _ _⟩
 ·have h1:(b==-1)=false:=by rw [beq_eq_false_iff_ne];exact h
  have HI:=aB (iU hG (n:=b) (by omega) (by omega))
  rw [if_neg h]
  go_enter Tryz.func86,Tryz.ntmps86
  go_wp2_with (go_at_call 54;(with_reducible refine HI.out.mono ?_);rintro e w2 ⟨rfl,h2⟩;have B2:=aB h2;clear h2)
  go_ret
  exact⟨rfl,B2.out⟩
end Go.Proofs.YticfnglebbakkaaGreatDoor
