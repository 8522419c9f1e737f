/-
  Parts of the proof.
-/
import Derived.Test.YtliflleaeimngaaGreatDoorRightsProofA0
import Derived.Test.YtliflleaeimngaaGreatDoorRightsProofB0
set_option linter.unusedSimpArgs false
set_option maxRecDepth 100000
set_option maxHeartbeats 8000000
namespace Go.Proofs.YtliflleaeimngaaGreatDoor
open Go Go.RowKit
open Go.RowKit
attribute [local go_sem] hQ hH gZ gY dM
theorem dX(m:Int)(i:Nat)(hi:i<4)(h0:64*i+64<=m):IntKind.u64.wrap (IntKind.u64.wrap 18446744073709551616-1)=aB (aV m) i:=by
 rw [<- jC m i hi h0];decide
theorem dW(m:Int)(i:Nat)(k:Int)(hi:i<4)(h0:m=64*i+k)(h1:0<=k)(h2:k<=64):IntKind.u64.wrap (IntKind.u64.wrap (2 ^ k.toNat)-1)=aB (aV m) i:=by
 obtain⟨j,rfl⟩:=p7 h1
 have e:=jB m i j hi (by omega) (by omega)
 have r:=eH (aV m) i
 rw [IntKind.wrap_u64,IntKind.wrap_u64,o6];omega
theorem eP(n:Int)(w:World) :
  Calls Tryz.prog 123 #[.int .i64 n] w fun e w'=>e=.returned (.agg #[.int .u64 (aB (aV n) 0),.int .u64 (aB (aV n) 1),.int .u64 (aB (aV n) 2),.int .u64 (aB (aV n) 3)])/\Below w.heap.size w w':=by
 have HB:Hid (∀ c:Array Value,∀ d:Array Value,Below w.heap.size w ((w.alloc (.cells c 52)).alloc (.cells d 52))):=fun c d=>((Below.refl _ _).alloc (j9 _) _).alloc (by simp) _
 have hq:n<=0\/(0<n/\n<64)\/n=64\/(64<n/\n<128)\/n=128\/(128<n/\n<192)\/n=192\/(192<n/\n<256)\/256<=n:=by omega
 rcases hq with hq | hq | hq | hq | hq | hq | hq | hq | hq
 all_goals
  (first | obtain⟨hq1,hq2⟩:=hq | subst hq | skip)
  go_enter Tryz.func123,Tryz.ntmps123
  go_wp2
 all_goals
  refine bI 5 ?_
  refine aM ?_
  go_wp2
 all_goals
  refine aM ?_
  go_wp2
 all_goals
  refine aM ?_
  go_wp2
 all_goals
  refine aM ?_
  go_wp2
 all_goals
  refine aM ?_
  go_wp2
 all_goals
  simp [bodyPost,results,Tryz.results123,go_sem]
  refine⟨⟨?_,?_,?_,?_⟩,HB.o _ _⟩
  ·first | exact dX _ 0 (by decide) (by omega) | exact dN _ 0 (by omega) | exact dW _ 0 _ (by decide) (by omega) (by omega) (by omega)
  ·first | exact dX _ 1 (by decide) (by omega) | exact dN _ 1 (by omega) | exact dW _ 1 _ (by decide) (by omega) (by omega) (by omega)
  ·first | exact dX _ 2 (by decide) (by omega) | exact dN _ 2 (by omega) | exact dW _ 2 _ (by decide) (by omega) (by omega) (by omega)
  ·first | exact dX _ 3 (by decide) (by omega) | exact dN _ 3 (by omega) | exact dW _ 3 _ (by decide) (by omega) (by omega) (by omega)
end Go.Proofs.YtliflleaeimngaaGreatDoor
