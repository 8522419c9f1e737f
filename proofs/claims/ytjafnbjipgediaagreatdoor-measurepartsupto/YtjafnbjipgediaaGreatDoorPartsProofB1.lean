/-
  Parts of the proof.
-/
import Derived.Test.YtjafnbjipgediaaGreatDoorPartsProofB0
namespace Go.Proofs.YtjafnbjipgediaaGreatDoor
open Go Go.RowKit
def top(m:Bool):Int:=if m then 1114111 else 255
def bO(m:Bool)(c:Int):Prop:=0<=c/\c<=top m/\(m=true->c < 55296\/57343 < c)
def cS(m:Bool):List (Int × Int):=if m then [(0,55295),(57344,1114111)] else [(0,255)]
theorem iJ(m:Bool):IsC (cS m) (bO m):=by
 cases m with
 | true=>
  refine⟨⟨by simp [cS],by simp [cS]⟩,fun r hr=>?_,fun c=>?_⟩
  ·simp [cS] at hr
   rcases hr with rfl | rfl <;> simp
  ·simp [cS,In,bO,top]
   omega
 | false=>
  refine⟨⟨by simp [cS],by simp [cS]⟩,fun r hr=>?_,fun c=>?_⟩
  ·simp [cS] at hr
   subst hr;simp
  ·simp [cS,In,bO,top]
theorem hQ(m:Bool):(cS m).length<=2:=by cases m <;> simp [cS]
theorem aP9(m:Bool)(w:World):Calls Tryz.prog 217 #[.bool m] w fun e w'=>e=.returned (.int .i64 (top m))/\w'=w:=by
 cases m with
 | true=>
  go_enter Tryz.func217,Tryz.ntmps217
  go_wp2
  go_ret
  exact⟨rfl,rfl⟩
 | false=>
  go_enter Tryz.func217,Tryz.ntmps217
  go_wp2
  go_ret
  exact⟨rfl,rfl⟩
theorem aP0(m:Bool)(w:World):Calls Tryz.prog 212 #[.bool m] w fun e w'=>∃ v,e=.returned v/\RR w.heap.size w' v (cS m)/\Below w.heap.size w w':=by
 cases m with
 | true=>
  go_enter Tryz.func212,Tryz.ntmps212
  go_wp2_with (go_at_call 217;refine(aP9 _ _).mono ?_;rintro e w5 ⟨rfl,h5⟩;subst w5)
  go_ret
  exact⟨_,rfl,World.ownsRow_lit w #[.int .i64 0,.int .i64 55295,.int .i64 57344,.int .i64 1114111] 2 lz9 (by unfold maxLen;omega) rfl,bz9⟩
 | false=>
  go_enter Tryz.func212,Tryz.ntmps212
  go_wp2_with (go_at_call 217;refine(aP9 _ _).mono ?_;rintro e w5 ⟨rfl,h5⟩;subst w5)
  go_ret
  exact⟨_,rfl,World.ownsRow_lit w #[.int .i64 0,.int .i64 255] 1 lz9 (by unfold maxLen;omega) rfl,bz9⟩
end Go.Proofs.YtjafnbjipgediaaGreatDoor
