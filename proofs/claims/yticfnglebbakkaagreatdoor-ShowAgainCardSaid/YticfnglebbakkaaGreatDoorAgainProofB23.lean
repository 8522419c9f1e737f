/-
  Parts of the proof.
-/
import Derived.Test.YticfnglebbakkaaGreatDoorAgainProofB22
set_option maxRecDepth 100000
set_option maxHeartbeats 8000000
namespace Go.Proofs.YticfnglebbakkaaGreatDoor
open Go Go.RowKit
attribute [local go_sem] aV
def isS(_:World)(v:Value)(x:ByteArray):Prop:=v=.string x
def aN4(s:ByteArray)(o p k:Nat):Rs (ByteArray × Nat):=match wit s o p k with
 | .error e=>.error e
 | .ok e=>.ok (s.extract (p+2) e,e+2)
theorem vA{w:World}{b:Nat}{s:ByteArray}{m:Md}{p o k:Nat}{tv:Value}(hG:Glb w)(h:RD w b s m p tv)(hp:p+1 < s.size)(hs:s.size<=2000)(hk:k<=1) :
  Calls Tryz.prog 186 #[.pointer (some ⟨b,0,none⟩),.int .i64 (o:Int),.int .i64 (k:Int)] w (Outs w b s m tv isS (aN4 s o p k)):=by
 have c0:=h.c0
 have c3:=h.c3
 have lb:=h.lt
 have H:Hid (RD w b s m p tv/\Glb w):=⟨h,hG⟩
 have i1:(0:Int)<=(p:Int)+1:=by omega
 have i2:(p:Int)+1<=(p:Int)+2:=by omega
 have i3:(p:Int)+2<=(s.size:Int):=by omega
 have i4:(0:Int)<=(p:Int)+2:=by omega
 have i5:(p:Int)+1<=(s.size:Int):=by omega
 have n1:((p:Int)+1).toNat=p+1:=by omega
 have n2:((p:Int)+2).toNat=p+2:=by omega
 have j1:¬ s.size < p+1:=by omega
 have j2:¬ s.size < p+2:=by omega
 have w1:IntKind.wrap .i64 ((p:Int)+1)=(p:Int)+1:=wrap_small _ (by omega) (by omega)
 have w2:IntKind.wrap .i64 ((p:Int)+2)=(p:Int)+2:=wrap_small _ (by omega) (by omega)
 obtain⟨R,hR0⟩:∃ R,R=s.size - (p+2):=⟨_,rfl⟩
 obtain⟨d,hd0⟩:∃ d,d=min k R:=⟨_,rfl⟩
 obtain⟨rest,hr0⟩:∃ r,s.extract (p+2) s.size=r:=⟨_,rfl⟩
 have hrs:rest.size=R:=by rw [<- hr0,ByteArray.size_extract];omega
 have hmin:∀ (t:Array TypeId) (ty:TypeId) (W:World),(Builtin.min_ t ty #[.int .i64 (k:Int),.int .i64 (R:Int)]).run Tryz.prog W=.ok (.int .i64 (d:Int)) W:=fun t ty W=>by
  rw [uD,hd0]
  congr 2
  omega
 have j3:¬ R < d:=by omega
 have i6:(0:Int)<=(d:Int):=by omega
 have i7:(d:Int)<=(R:Int):=by omega
 obtain⟨mm,HM⟩:∃ mm,Hid (w.cell? ⟨0,0,none⟩=some (.int .i64 mm)):=H.out.2.2.1
 have g2:Hid (3 < w.heap.size):=H.out.2.size
 have hix:Lib.index ((rest.extract d R).data.toList) ((s.extract (p+1) (p+2) ++ ⟨#[93]⟩).data.toList)=Lib.index (s.data.toList.drop (p+2+d)) [UInt8.ofNat (bt s (p+1)),93]:=by
  congr 1
  ·rw [<- hrs,fX,<- hr0,fX,List.drop_drop]
  ·have e1:s.data.toList[p+1]?=some (UInt8.ofNat (bt s (p+1))):=fL.2 ⟨hp,by have:=oP s (p+1);simp [UInt8.toNat_ofNat'];omega⟩
   rw [ByteArray.data_append,Array.toList_append,ByteArray.data_extract,Array.toList_extract,List.extract_eq_take_drop,show p+2 - (p+1)=1 by omega,List.take_one,List.head?_drop,e1]
   rfl
 have HI:Hid (∀ W,W.cell? ⟨0,0,none⟩=some (.int .i64 mm)->Calls Tryz.prog 195 #[.string (rest.extract d R),.string (s.extract (p+1) (p+2) ++ ⟨#[93]⟩)] W fun e w'=>e=.returned (.int .i64 (Lib.index (s.data.toList.drop (p+2+d)) [UInt8.ofNat (bt s (p+1)),93]))/\w'=W):=fun W hW=>by
  rw [<- hix]
  exact Tryz.strings_Index _ _ mm W (by rw [ByteArray.size_extract];omega) hW
 clear hix
 have hwt:aN4 s o p k=if Lib.index (s.data.toList.drop (p+2+d)) [UInt8.ofNat (bt s (p+1)),93] < 0 then .error (33,o) else .ok (s.extract (p+2) (p+2+d+(Lib.index (s.data.toList.drop (p+2+d)) [UInt8.ofNat (bt s (p+1)),93]).toNat),p+2+d+(Lib.index (s.data.toList.drop (p+2+d)) [UInt8.ofNat (bt s (p+1)),93]).toNat+2):=by
  unfold aN4 wit fnd
  rw [<- hR0,<- hd0]
  split <;> rename_i hx <;> split at hx <;> simp_all
 have hrm:=Lib.index_room (s.data.toList.drop (p+2+d)) [UInt8.ofNat (bt s (p+1)),93]
 have hge:=Lib.index_ge (s.data.toList.drop (p+2+d)) [UInt8.ofNat (bt s (p+1)),93]
 rw [List.length_drop,bH] at hrm
 simp only [List.length_cons,List.length_nil] at hrm
 rw [hwt]
 clear hwt
 generalize Lib.index (s.data.toList.drop (p+2+d)) [UInt8.ofNat (bt s (p+1)),93]=n at *
 have HR:Hid (R=s.size - (p+2)/\d=min k R/\s.extract (p+2) s.size=rest):=⟨hR0,hd0,hr0⟩
 clear h hG
 by_cases hn:n < 0
 ·rw [if_pos hn]
  have d0:decide (n < 0)=true:=decide_eq_true hn
  clear hR0 hd0
  go_enter Tryz.func186,Tryz.ntmps186
  go_wp2
  refine wx9 ?_
  repeat (go_big_quiet_step (first | exact rfl))
  refine wpQuiet_nil ?_
  intro w5 hw5
  have X5:Hid (Below w.heap.size w w5/\RD w5 b s m p tv):=⟨aO hw5,H.out.1.kept (aO hw5)⟩
  have k0:=X5.out.2.c0
  have k3:=X5.out.2.c3
  have l5:=X5.out.2.lt
  clear hw5
  go_wp2
  refine wx9 ?_
  repeat (go_big_quiet_step (first | exact rfl))
  refine wpQuiet_nil ?_
  intro w6 hw6
  have X6:Hid (Below w.heap.size w w6/\RD w6 b s m p tv):=⟨aD X5.out.1 (aO hw6) lz9,X5.out.2.kept (aO hw6)⟩
  have q0:=X6.out.2.c0
  have q3:=X6.out.2.c3
  have f3:=X6.out.2.frz 3
  have l6:=X6.out.2.lt
  clear hw6
  have HM6:Hid (w6.cell? ⟨0,0,none⟩=some (.int .i64 mm)):=(X6.out.1.cell (p:=⟨0,0,none⟩) (Nat.lt_trans (by decide) g2.out)).trans HM.out
  go_wp2_with first
   |(go_at_call 195;(with_reducible refine(HI.out _ HM6.out).mono ?_);rintro e w7 ⟨rfl,h7⟩;subst w7)
   |(go_at_call 65;refine(bX 33 o _).mono ?_;rintro e w8 ⟨rfl,h6,h7⟩;have X8:Hid (bI w8 w6.heap.size 33 o/\Below w6.heap.size w6 w8):=⟨h6,h7⟩;clear h6 h7)
  exact⟨rfl,.err (Fr.of_below (aD X6.out.1 X8.out.2 lz9)) X6.out.1.size X8.out.1⟩
 ·rw [if_neg hn]
  obtain⟨j,rfl⟩:∃ j:Nat,n=(j:Int):=⟨n.toNat,by omega⟩
  have hj:=hrm (by omega)
  have w3:IntKind.wrap .i64 ((d:Int)+(j:Int))=(d:Int)+(j:Int):=wrap_small _ (by omega) (by omega)
  have w4:IntKind.wrap .i64 (2+((d+j:Nat):Int))=2+((d+j:Nat):Int):=wrap_small _ (by omega) (by omega)
  have w5':IntKind.wrap .i64 (2+((d+j:Nat):Int)+2)=2+((d+j:Nat):Int)+2:=wrap_small _ (by omega) (by omega)
  have w6':IntKind.wrap .i64 ((p:Int)+(2+((d+j:Nat):Int)+2))=(p:Int)+(2+((d+j:Nat):Int)+2):=wrap_small _ (by omega) (by omega)
  have i8:(0:Int)<=(d:Int)+(j:Int):=by omega
  have i9:(d:Int)+(j:Int)<=(R:Int):=by omega
  have n3:((d:Int)+(j:Int)).toNat=d+j:=by omega
  have j4:¬ R < d+j:=by omega
  have hmm:min (d+j) R=d+j:=by omega
  rw [Int.toNat_natCast]
  clear hR0 hd0 hrm hge
  go_enter Tryz.func186,Tryz.ntmps186
  go_wp2
  refine wx9 ?_
  repeat (go_big_quiet_step (first | exact rfl))
  refine wpQuiet_nil ?_
  intro w5 hw5
  have X5:Hid (Below w.heap.size w w5/\RD w5 b s m p tv):=⟨aO hw5,H.out.1.kept (aO hw5)⟩
  have k0:=X5.out.2.c0
  have k3:=X5.out.2.c3
  have l5:=X5.out.2.lt
  clear hw5
  go_wp2
  refine wx9 ?_
  repeat (go_big_quiet_step (first | exact rfl))
  refine wpQuiet_nil ?_
  intro w6 hw6
  have X6:Hid (Below w.heap.size w w6/\RD w6 b s m p tv):=⟨aD X5.out.1 (aO hw6) lz9,X5.out.2.kept (aO hw6)⟩
  have q0:=X6.out.2.c0
  have q3:=X6.out.2.c3
  have f3:=X6.out.2.frz 3
  have l6:=X6.out.2.lt
  clear hw6
  have HM6:Hid (w6.cell? ⟨0,0,none⟩=some (.int .i64 mm)):=(X6.out.1.cell (p:=⟨0,0,none⟩) (Nat.lt_trans (by decide) g2.out)).trans HM.out
  go_wp2_with (go_at_call 195;(with_reducible refine(HI.out _ HM6.out).mono ?_);rintro e w7 ⟨rfl,h7⟩;subst w7)
  go_ret
  refine .is (Fr.setCell (S:=At b) (Fr.of_below X6.out.1) (p:=⟨b,3,none⟩) rfl _) (X6.out.2.to _ (by omega)) ?_
  have e:rest.extract 0 (d+j)=s.extract (p+2) (p+2+d+j):=by
   rw [<- HR.out.2.2,ByteArray.extract_extract,Nat.add_zero,show min (p+2+(d+j)) s.size=p+2+d+j by omega]
  exact congrArg Value.string e
end Go.Proofs.YticfnglebbakkaaGreatDoor
