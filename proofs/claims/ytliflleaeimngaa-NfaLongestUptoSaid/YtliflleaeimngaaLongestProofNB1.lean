/-
  Parts of the proof.
-/
import Derived.Test.YtliflleaeimngaaLongestProofNA0
import Derived.Test.YtliflleaeimngaaLongestProofNB0
set_option linter.unusedSimpArgs false
set_option maxRecDepth 100000
set_option maxHeartbeats 8000000
namespace Go.Proofs.Ytliflleaeimngaa
open Go Go.RowKit
open Go.RowKit
attribute [local go_sem] fM fL fK fJ cR
theorem cK(b:Int)(i:Nat)(h0:64*i<=b)(h1:b<64*i+64)(h2:i<4):IntKind.u64.wrap (2 ^ (b%64).toNat)=aB (aP b) i:=by
 have e:=gB b i h0 h1 h2
 have r:=fZ (aP b) i
 rw [e,IntKind.wrap_u64];omega
theorem gC(b:Int)(w:World) :
  Calls Try.prog 51 #[.int .i64 b] w fun e w'=>e=.returned (.agg #[.int .u64 (aB (aP b) 0),.int .u64 (aB (aP b) 1),.int .u64 (aB (aP b) 2),.int .u64 (aB (aP b) 3)])/\Below w.heap.size w w':=by
 have hB:∀ c:Array Value,∀ d:Array Value,Below w.heap.size w ((w.alloc (.cells c 45)).alloc (.cells d 45)):=fun c d=>((Below.refl _ _).alloc (k9 _) _).alloc (by simp) _
 have HB:Hid (∀ c:Array Value,∀ d:Array Value,Below w.heap.size w ((w.alloc (.cells c 45)).alloc (.cells d 45))):=hB
 clear hB
 by_cases h1:b<0
 ·go_enter Try.func51,Try.ntmps51
  go_wp2
  simp [bodyPost,results,Try.results51,go_sem]
  exact⟨⟨aJ b 0 (by omega),aJ b 1 (by omega),aJ b 2 (by omega),aJ b 3 (by omega)⟩,HB.o _ _⟩
 by_cases h2:255<b
 ·go_enter Try.func51,Try.ntmps51
  go_wp2
  simp [bodyPost,results,Try.results51,go_sem]
  exact⟨⟨aJ b 0 (by omega),aJ b 1 (by omega),aJ b 2 (by omega),aJ b 3 (by omega)⟩,HB.o _ _⟩
 have hq:b/64=0\/b/64=1\/b/64=2\/b/64=3:=by omega
 rcases hq with hq | hq | hq | hq
 ·go_enter Try.func51,Try.ntmps51
  go_wp2
  simp [bodyPost,results,Try.results51,go_sem]
  exact⟨⟨cK b 0 (by omega) (by omega) (by decide),aJ b 1 (by omega),aJ b 2 (by omega),aJ b 3 (by omega)⟩,HB.o _ _⟩
 ·go_enter Try.func51,Try.ntmps51
  go_wp2
  simp [bodyPost,results,Try.results51,go_sem]
  exact⟨⟨aJ b 0 (by omega),cK b 1 (by omega) (by omega) (by decide),aJ b 2 (by omega),aJ b 3 (by omega)⟩,HB.o _ _⟩
 ·go_enter Try.func51,Try.ntmps51
  go_wp2
  simp [bodyPost,results,Try.results51,go_sem]
  exact⟨⟨aJ b 0 (by omega),aJ b 1 (by omega),cK b 2 (by omega) (by omega) (by decide),aJ b 3 (by omega)⟩,HB.o _ _⟩
 ·go_enter Try.func51,Try.ntmps51
  go_wp2
  simp [bodyPost,results,Try.results51,go_sem]
  exact⟨⟨aJ b 0 (by omega),aJ b 1 (by omega),aJ b 2 (by omega),cK b 3 (by omega) (by omega) (by decide)⟩,HB.o _ _⟩
end Go.Proofs.Ytliflleaeimngaa
