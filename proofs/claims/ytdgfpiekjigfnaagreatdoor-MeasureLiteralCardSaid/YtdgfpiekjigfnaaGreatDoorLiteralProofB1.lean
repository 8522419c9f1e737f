/-
  Parts of the proof.
-/
import Derived.Test.YtdgfpiekjigfnaaGreatDoorLiteralProofA0
import Derived.Test.YtdgfpiekjigfnaaGreatDoorLiteralProofB0
set_option maxRecDepth 100000
set_option maxHeartbeats 8000000
namespace Go.Proofs.YtdgfpiekjigfnaaGreatDoor
open Go Go.RowKit
open Go.RowKit
attribute [local go_sem] kA jZ jY jX cT
theorem gZ(m:Int)(i:Nat)(hi:i<4)(h0:64*i+64<=m):IntKind.u64.wrap (IntKind.u64.wrap 18446744073709551616-1)=aD (cN m) i:=by
 rw [<- tN m i hi h0];decide
theorem gY(m:Int)(i:Nat)(k:Int)(hi:i<4)(h0:m=64*i+k)(h1:0<=k)(h2:k<=64):IntKind.u64.wrap (IntKind.u64.wrap (2 ^ k.toNat)-1)=aD (cN m) i:=by
 obtain⟨j,rfl⟩:=Int.eq_ofNat_of_zero_le h1;have e:=tM m i j hi (by omega) (by omega);have r:=xK (cN m) i;rw [IntKind.wrap_u64,IntKind.wrap_u64,aAX];omega
theorem nU(n:Int)(w:World) :
  Calls Tryz.prog 144 #[.I n] w fun e w'=>e=.returned (.agg #[.int .u64 (aD (cN n) 0),.int .u64 (aD (cN n) 1),.int .u64 (aD (cN n) 2),.int .u64 (aD (cN n) 3)])/\Below w.heap.size w w':=by
 have HB:Hid (∀ c:Array Value,∀ d:Array Value,Below w.heap.size w ((w.alloc (.cells c 36)).alloc (.cells d 36))):=fun c d=>((Below.refl _ _).alloc (aAB _) _).alloc (by simp) _;have hq:n<=0\/(0<n/\n<64)\/n=64\/(64<n/\n<128)\/n=128\/(128<n/\n<192)\/n=192\/(192<n/\n<256)\/256<=n:=by omega
 rcases hq with hq | hq | hq | hq | hq | hq | hq | hq | hq
 all_goals
  (first | obtain⟨hq1,hq2⟩:=hq | subst hq | skip)
  go_enter Tryz.func144,Tryz.ntmps144;go_wp2
 all_goals
  refine iJ 5 ?_;refine bO ?_;go_wp2
 all_goals
  refine bO ?_;go_wp2
 all_goals
  refine bO ?_;go_wp2
 all_goals
  refine bO ?_;go_wp2
 all_goals
  refine bO ?_;go_wp2
 all_goals
  simp [bodyPost,results,Tryz.results144,go_sem];refine⟨⟨?_,?_,?_,?_⟩,HB.o _ _⟩
  ·first | exact gZ _ 0 (by decide) (by omega) | exact gB _ 0 (by omega) | exact gY _ 0 _ (by decide) (by omega) (by omega) (by omega)
  ·first | exact gZ _ 1 (by decide) (by omega) | exact gB _ 1 (by omega) | exact gY _ 1 _ (by decide) (by omega) (by omega) (by omega)
  ·first | exact gZ _ 2 (by decide) (by omega) | exact gB _ 2 (by omega) | exact gY _ 2 _ (by decide) (by omega) (by omega) (by omega)
  ·first | exact gZ _ 3 (by decide) (by omega) | exact gB _ 3 (by omega) | exact gY _ 3 _ (by decide) (by omega) (by omega) (by omega)
end Go.Proofs.YtdgfpiekjigfnaaGreatDoor
