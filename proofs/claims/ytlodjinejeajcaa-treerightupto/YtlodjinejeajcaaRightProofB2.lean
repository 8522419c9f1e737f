/-
  The document's small questions: thing, Bounds, bare, stands. dredgeref06.sorted, as mathematics: two rising lists, the lesser one first. dredgeref06.sorted, as it runs.
-/
import Derived.Test.YtlodjinejeajcaaRightProofB0
import Derived.Test.YtlodjinejeajcaaRightProofB1
import Derived.Test.YtlodjinejeajcaaC9
import Derived.Test.YtlodjinejeajcaaC10
import Derived.Laws.AppendOwnNone
namespace Go.Proofs.Ytlodjinejeajcaa
open Go Go.RowKit

set_option maxHeartbeats 2000000 in
theorem rthing (k : Int) (w : World) : Calls Try.prog 72 #[.int .i64 k] w fun e w' => e = .returned (.bool (thingB k)) ∧ w' = w := by
  have hid : ∀ b, thingB k = b → Calls Try.prog 72 #[.int .i64 k] w fun e w' => e = .returned (.bool b) ∧ w' = w := by
    intro b hb
    by_cases h2 : k = 2
    · have e2 : (k == 2) = true := by simpa using h2
      have hB : b = true := by rw [← hb]; simp [thingB, h2]
      subst hB
      clear h2 hb
      go_enter Try.func72, Try.ntmps72
      go_wp2
      go_ret
      exact ⟨rfl, rfl⟩
    have e2 : (k == 2) = false := by simpa using h2
    by_cases h7 : k = 7
    · have e7 : (k == 7) = true := by simpa using h7
      have hB : b = true := by rw [← hb]; simp [thingB, h7]
      subst hB
      clear h2 h7 hb
      go_enter Try.func72, Try.ntmps72
      go_wp2
      go_ret
      exact ⟨rfl, rfl⟩
    have e7 : (k == 7) = false := by simpa using h7
    by_cases h8 : k = 8
    · have e8 : (k == 8) = true := by simpa using h8
      have hB : b = true := by rw [← hb]; simp [thingB, h8]
      subst hB
      clear h2 h7 h8 hb
      go_enter Try.func72, Try.ntmps72
      go_wp2
      go_ret
      exact ⟨rfl, rfl⟩
    have e8 : (k == 8) = false := by simpa using h8
    by_cases h9 : k = 9
    · have e9 : (k == 9) = true := by simpa using h9
      have hB : b = true := by rw [← hb]; simp [thingB, h9]
      subst hB
      clear h2 h7 h8 h9 hb
      go_enter Try.func72, Try.ntmps72
      go_wp2
      go_ret
      exact ⟨rfl, rfl⟩
    have e9 : (k == 9) = false := by simpa using h9
    have hB : b = false := by rw [← hb]; simp [thingB, h2, h7, h8, h9]
    subst hB
    clear h2 h7 h8 h9 hb
    go_enter Try.func72, Try.ntmps72
    go_wp2
    go_ret
    exact ⟨rfl, rfl⟩
  exact hid _ rfl
set_option maxHeartbeats 2000000 in
theorem rbounds (a b : Int) (w : World) : Calls Try.prog 64 #[.int .i64 a, .int .i64 b] w fun e w' => e = .returned (.bool (bndB a b)) ∧ w' = w := by
  have hid : ∀ r, bndB a b = r → Calls Try.prog 64 #[.int .i64 a, .int .i64 b] w fun e w' => e = .returned (.bool r) ∧ w' = w := by
    intro r hr
    by_cases h1 : (0 : Int) ≤ a
    case neg =>
      have hB : r = false := by rw [← hr]; simp [bndB]; omega
      subst hB
      clear hr
      go_enter Try.func64, Try.ntmps64
      go_wp2
      go_ret
      exact ⟨rfl, rfl⟩
    by_cases h2 : a ≤ 255
    case neg =>
      have hB : r = false := by rw [← hr]; simp [bndB]; omega
      subst hB
      clear hr
      go_enter Try.func64, Try.ntmps64
      go_wp2
      go_ret
      exact ⟨rfl, rfl⟩
    by_cases h3 : b = -1
    · have e3 : (b == -1) = true := by simpa using h3
      have hB : r = true := by rw [← hr]; simp [bndB]; omega
      subst hB
      clear hr
      go_enter Try.func64, Try.ntmps64
      go_wp2
      go_ret
      exact ⟨rfl, rfl⟩
    have e3 : (b == -1) = false := by simpa using h3
    by_cases h4 : a ≤ b
    case neg =>
      have hB : r = false := by rw [← hr]; simp [bndB]; omega
      subst hB
      clear hr
      go_enter Try.func64, Try.ntmps64
      go_wp2
      go_ret
      exact ⟨rfl, rfl⟩
    by_cases h5 : b ≤ 255
    case neg =>
      have hB : r = false := by rw [← hr]; simp [bndB]; omega
      subst hB
      clear hr
      go_enter Try.func64, Try.ntmps64
      go_wp2
      go_ret
      exact ⟨rfl, rfl⟩
    have hB : r = true := by rw [← hr]; simp [bndB]; omega
    subst hB
    clear hr
    go_enter Try.func64, Try.ntmps64
    go_wp2
    go_ret
    exact ⟨rfl, rfl⟩
  exact hid _ rfl
set_option maxRecDepth 100000 in
set_option maxHeartbeats 2000000 in
theorem rbare0000 (F : Fl) (w : World) : Calls Try.prog 61 #[.agg #[.int .i64 F.k, .int .i64 F.n, .int .i64 F.mn, .int .i64 F.mx, .slice F.rq F.rs.length F.rc, .slice F.kq F.kl F.kc], .bool false, .bool false, .bool false, .bool false] w fun e w' => e = .returned (.bool (decide (F.n = 0 ∧ F.mn = 0 ∧ F.mx = 0 ∧ F.rs.length = 0 ∧ F.kl = 0))) ∧ Below w.heap.size w w' := by
  have N1 : BoxN (w.alloc (.cells #[.int .i64 F.k, .int .i64 F.n, .int .i64 F.mn, .int .i64 F.mx, .slice F.rq F.rs.length F.rc, .slice F.kq F.kl F.kc] 25)) w.heap.size F := alloc_new w _
  have B1 : Hid (Below w.heap.size w (w.alloc (.cells #[.int .i64 F.k, .int .i64 F.n, .int .i64 F.mn, .int .i64 F.mx, .slice F.rq F.rs.length F.rc, .slice F.kq F.kl F.kc] 25))) := (Below.refl _ _).alloc (Nat.le_refl _) _
  obtain ⟨c0, c1, c2, c3, c4, c5⟩ := N1.six
  simp only [Nat.zero_add] at c1 c2 c3 c4 c5
  clear N1
  have hid : ∀ r, decide (F.n = 0 ∧ F.mn = 0 ∧ F.mx = 0 ∧ F.rs.length = 0 ∧ F.kl = 0) = r → Calls Try.prog 61 #[.agg #[.int .i64 F.k, .int .i64 F.n, .int .i64 F.mn, .int .i64 F.mx, .slice F.rq F.rs.length F.rc, .slice F.kq F.kl F.kc], .bool false, .bool false, .bool false, .bool false] w fun e w' => e = .returned (.bool r) ∧ Below w.heap.size w w' := by
    intro r hr0
    by_cases hn : F.n = 0
    case neg =>
      have ehn : (F.n == 0) = false := beq_eq_false_iff_ne.2 (by omega)
      have hB : r = false := by rw [← hr0]; exact decide_eq_false (by omega)
      clear hn
      subst hB
      clear hr0
      go_enter Try.func61, Try.ntmps61
      go_wp2
      go_ret
      exact ⟨rfl, B1.out⟩
    have ehn : (F.n == 0) = true := beq_iff_eq.2 (by omega)
    have Hhn := hide hn
    clear hn
    by_cases hm : F.mn = 0
    case neg =>
      have ehm : (F.mn == 0) = false := beq_eq_false_iff_ne.2 (by omega)
      have hB : r = false := by rw [← hr0]; exact decide_eq_false (by omega)
      clear hm
      subst hB
      clear hr0
      go_enter Try.func61, Try.ntmps61
      go_wp2
      go_ret
      exact ⟨rfl, B1.out⟩
    have ehm : (F.mn == 0) = true := beq_iff_eq.2 (by omega)
    have Hhm := hide hm
    clear hm
    by_cases hx : F.mx = 0
    case neg =>
      have ehx : (F.mx == 0) = false := beq_eq_false_iff_ne.2 (by omega)
      have hB : r = false := by rw [← hr0]; exact decide_eq_false (by omega)
      clear hx
      subst hB
      clear hr0
      go_enter Try.func61, Try.ntmps61
      go_wp2
      go_ret
      exact ⟨rfl, B1.out⟩
    have ehx : (F.mx == 0) = true := beq_iff_eq.2 (by omega)
    have Hhx := hide hx
    clear hx
    by_cases hr : F.rs.length = 0
    case neg =>
      have ehr : ((F.rs.length : Int) == 0) = false := beq_eq_false_iff_ne.2 (by omega)
      have hB : r = false := by rw [← hr0]; exact decide_eq_false (by omega)
      clear hr
      subst hB
      clear hr0
      go_enter Try.func61, Try.ntmps61
      go_wp2
      go_ret
      exact ⟨rfl, B1.out⟩
    have ehr : ((F.rs.length : Int) == 0) = true := beq_iff_eq.2 (by omega)
    have Hhr := hide hr
    clear hr
    by_cases hk : F.kl = 0
    case neg =>
      have ehk : ((F.kl : Int) == 0) = false := beq_eq_false_iff_ne.2 (by omega)
      have hB : r = false := by rw [← hr0]; exact decide_eq_false (by omega)
      clear hk
      subst hB
      clear hr0
      go_enter Try.func61, Try.ntmps61
      go_wp2
      go_ret
      exact ⟨rfl, B1.out⟩
    have ehk : ((F.kl : Int) == 0) = true := beq_iff_eq.2 (by omega)
    have Hhk := hide hk
    clear hk
    have hB : r = true := by rw [← hr0]; exact decide_eq_true (by have := Hhn.out; have := Hhm.out; have := Hhx.out; have := Hhr.out; have := Hhk.out; omega)
    subst hB
    clear hr0
    go_enter Try.func61, Try.ntmps61
    go_wp2
    go_ret
    exact ⟨rfl, B1.out⟩
  exact hid _ rfl
set_option maxRecDepth 100000 in
set_option maxHeartbeats 2000000 in
theorem rbare0010 (F : Fl) (w : World) : Calls Try.prog 61 #[.agg #[.int .i64 F.k, .int .i64 F.n, .int .i64 F.mn, .int .i64 F.mx, .slice F.rq F.rs.length F.rc, .slice F.kq F.kl F.kc], .bool false, .bool false, .bool true, .bool false] w fun e w' => e = .returned (.bool (decide (F.n = 0 ∧ F.mn = 0 ∧ F.mx = 0 ∧ F.kl = 0))) ∧ Below w.heap.size w w' := by
  have N1 : BoxN (w.alloc (.cells #[.int .i64 F.k, .int .i64 F.n, .int .i64 F.mn, .int .i64 F.mx, .slice F.rq F.rs.length F.rc, .slice F.kq F.kl F.kc] 25)) w.heap.size F := alloc_new w _
  have B1 : Hid (Below w.heap.size w (w.alloc (.cells #[.int .i64 F.k, .int .i64 F.n, .int .i64 F.mn, .int .i64 F.mx, .slice F.rq F.rs.length F.rc, .slice F.kq F.kl F.kc] 25))) := (Below.refl _ _).alloc (Nat.le_refl _) _
  obtain ⟨c0, c1, c2, c3, c4, c5⟩ := N1.six
  simp only [Nat.zero_add] at c1 c2 c3 c4 c5
  clear N1
  have hid : ∀ r, decide (F.n = 0 ∧ F.mn = 0 ∧ F.mx = 0 ∧ F.kl = 0) = r → Calls Try.prog 61 #[.agg #[.int .i64 F.k, .int .i64 F.n, .int .i64 F.mn, .int .i64 F.mx, .slice F.rq F.rs.length F.rc, .slice F.kq F.kl F.kc], .bool false, .bool false, .bool true, .bool false] w fun e w' => e = .returned (.bool r) ∧ Below w.heap.size w w' := by
    intro r hr0
    by_cases hn : F.n = 0
    case neg =>
      have ehn : (F.n == 0) = false := beq_eq_false_iff_ne.2 (by omega)
      have hB : r = false := by rw [← hr0]; exact decide_eq_false (by omega)
      clear hn
      subst hB
      clear hr0
      go_enter Try.func61, Try.ntmps61
      go_wp2
      go_ret
      exact ⟨rfl, B1.out⟩
    have ehn : (F.n == 0) = true := beq_iff_eq.2 (by omega)
    have Hhn := hide hn
    clear hn
    by_cases hm : F.mn = 0
    case neg =>
      have ehm : (F.mn == 0) = false := beq_eq_false_iff_ne.2 (by omega)
      have hB : r = false := by rw [← hr0]; exact decide_eq_false (by omega)
      clear hm
      subst hB
      clear hr0
      go_enter Try.func61, Try.ntmps61
      go_wp2
      go_ret
      exact ⟨rfl, B1.out⟩
    have ehm : (F.mn == 0) = true := beq_iff_eq.2 (by omega)
    have Hhm := hide hm
    clear hm
    by_cases hx : F.mx = 0
    case neg =>
      have ehx : (F.mx == 0) = false := beq_eq_false_iff_ne.2 (by omega)
      have hB : r = false := by rw [← hr0]; exact decide_eq_false (by omega)
      clear hx
      subst hB
      clear hr0
      go_enter Try.func61, Try.ntmps61
      go_wp2
      go_ret
      exact ⟨rfl, B1.out⟩
    have ehx : (F.mx == 0) = true := beq_iff_eq.2 (by omega)
    have Hhx := hide hx
    clear hx
    by_cases hk : F.kl = 0
    case neg =>
      have ehk : ((F.kl : Int) == 0) = false := beq_eq_false_iff_ne.2 (by omega)
      have hB : r = false := by rw [← hr0]; exact decide_eq_false (by omega)
      clear hk
      subst hB
      clear hr0
      go_enter Try.func61, Try.ntmps61
      go_wp2
      go_ret
      exact ⟨rfl, B1.out⟩
    have ehk : ((F.kl : Int) == 0) = true := beq_iff_eq.2 (by omega)
    have Hhk := hide hk
    clear hk
    have hB : r = true := by rw [← hr0]; exact decide_eq_true (by have := Hhn.out; have := Hhm.out; have := Hhx.out; have := Hhk.out; omega)
    subst hB
    clear hr0
    go_enter Try.func61, Try.ntmps61
    go_wp2
    go_ret
    exact ⟨rfl, B1.out⟩
  exact hid _ rfl
set_option maxRecDepth 100000 in
set_option maxHeartbeats 2000000 in
theorem rbare0001 (F : Fl) (w : World) : Calls Try.prog 61 #[.agg #[.int .i64 F.k, .int .i64 F.n, .int .i64 F.mn, .int .i64 F.mx, .slice F.rq F.rs.length F.rc, .slice F.kq F.kl F.kc], .bool false, .bool false, .bool false, .bool true] w fun e w' => e = .returned (.bool (decide (F.n = 0 ∧ F.mn = 0 ∧ F.mx = 0 ∧ F.rs.length = 0))) ∧ Below w.heap.size w w' := by
  have N1 : BoxN (w.alloc (.cells #[.int .i64 F.k, .int .i64 F.n, .int .i64 F.mn, .int .i64 F.mx, .slice F.rq F.rs.length F.rc, .slice F.kq F.kl F.kc] 25)) w.heap.size F := alloc_new w _
  have B1 : Hid (Below w.heap.size w (w.alloc (.cells #[.int .i64 F.k, .int .i64 F.n, .int .i64 F.mn, .int .i64 F.mx, .slice F.rq F.rs.length F.rc, .slice F.kq F.kl F.kc] 25))) := (Below.refl _ _).alloc (Nat.le_refl _) _
  obtain ⟨c0, c1, c2, c3, c4, c5⟩ := N1.six
  simp only [Nat.zero_add] at c1 c2 c3 c4 c5
  clear N1
  have hid : ∀ r, decide (F.n = 0 ∧ F.mn = 0 ∧ F.mx = 0 ∧ F.rs.length = 0) = r → Calls Try.prog 61 #[.agg #[.int .i64 F.k, .int .i64 F.n, .int .i64 F.mn, .int .i64 F.mx, .slice F.rq F.rs.length F.rc, .slice F.kq F.kl F.kc], .bool false, .bool false, .bool false, .bool true] w fun e w' => e = .returned (.bool r) ∧ Below w.heap.size w w' := by
    intro r hr0
    by_cases hn : F.n = 0
    case neg =>
      have ehn : (F.n == 0) = false := beq_eq_false_iff_ne.2 (by omega)
      have hB : r = false := by rw [← hr0]; exact decide_eq_false (by omega)
      clear hn
      subst hB
      clear hr0
      go_enter Try.func61, Try.ntmps61
      go_wp2
      go_ret
      exact ⟨rfl, B1.out⟩
    have ehn : (F.n == 0) = true := beq_iff_eq.2 (by omega)
    have Hhn := hide hn
    clear hn
    by_cases hm : F.mn = 0
    case neg =>
      have ehm : (F.mn == 0) = false := beq_eq_false_iff_ne.2 (by omega)
      have hB : r = false := by rw [← hr0]; exact decide_eq_false (by omega)
      clear hm
      subst hB
      clear hr0
      go_enter Try.func61, Try.ntmps61
      go_wp2
      go_ret
      exact ⟨rfl, B1.out⟩
    have ehm : (F.mn == 0) = true := beq_iff_eq.2 (by omega)
    have Hhm := hide hm
    clear hm
    by_cases hx : F.mx = 0
    case neg =>
      have ehx : (F.mx == 0) = false := beq_eq_false_iff_ne.2 (by omega)
      have hB : r = false := by rw [← hr0]; exact decide_eq_false (by omega)
      clear hx
      subst hB
      clear hr0
      go_enter Try.func61, Try.ntmps61
      go_wp2
      go_ret
      exact ⟨rfl, B1.out⟩
    have ehx : (F.mx == 0) = true := beq_iff_eq.2 (by omega)
    have Hhx := hide hx
    clear hx
    by_cases hr : F.rs.length = 0
    case neg =>
      have ehr : ((F.rs.length : Int) == 0) = false := beq_eq_false_iff_ne.2 (by omega)
      have hB : r = false := by rw [← hr0]; exact decide_eq_false (by omega)
      clear hr
      subst hB
      clear hr0
      go_enter Try.func61, Try.ntmps61
      go_wp2
      go_ret
      exact ⟨rfl, B1.out⟩
    have ehr : ((F.rs.length : Int) == 0) = true := beq_iff_eq.2 (by omega)
    have Hhr := hide hr
    clear hr
    have hB : r = true := by rw [← hr0]; exact decide_eq_true (by have := Hhn.out; have := Hhm.out; have := Hhx.out; have := Hhr.out; omega)
    subst hB
    clear hr0
    go_enter Try.func61, Try.ntmps61
    go_wp2
    go_ret
    exact ⟨rfl, B1.out⟩
  exact hid _ rfl
set_option maxRecDepth 100000 in
set_option maxHeartbeats 2000000 in
theorem rbare1001 (F : Fl) (w : World) : Calls Try.prog 61 #[.agg #[.int .i64 F.k, .int .i64 F.n, .int .i64 F.mn, .int .i64 F.mx, .slice F.rq F.rs.length F.rc, .slice F.kq F.kl F.kc], .bool true, .bool false, .bool false, .bool true] w fun e w' => e = .returned (.bool (decide (F.mn = 0 ∧ F.mx = 0 ∧ F.rs.length = 0))) ∧ Below w.heap.size w w' := by
  have N1 : BoxN (w.alloc (.cells #[.int .i64 F.k, .int .i64 F.n, .int .i64 F.mn, .int .i64 F.mx, .slice F.rq F.rs.length F.rc, .slice F.kq F.kl F.kc] 25)) w.heap.size F := alloc_new w _
  have B1 : Hid (Below w.heap.size w (w.alloc (.cells #[.int .i64 F.k, .int .i64 F.n, .int .i64 F.mn, .int .i64 F.mx, .slice F.rq F.rs.length F.rc, .slice F.kq F.kl F.kc] 25))) := (Below.refl _ _).alloc (Nat.le_refl _) _
  obtain ⟨c0, c1, c2, c3, c4, c5⟩ := N1.six
  simp only [Nat.zero_add] at c1 c2 c3 c4 c5
  clear N1
  have hid : ∀ r, decide (F.mn = 0 ∧ F.mx = 0 ∧ F.rs.length = 0) = r → Calls Try.prog 61 #[.agg #[.int .i64 F.k, .int .i64 F.n, .int .i64 F.mn, .int .i64 F.mx, .slice F.rq F.rs.length F.rc, .slice F.kq F.kl F.kc], .bool true, .bool false, .bool false, .bool true] w fun e w' => e = .returned (.bool r) ∧ Below w.heap.size w w' := by
    intro r hr0
    by_cases hm : F.mn = 0
    case neg =>
      have ehm : (F.mn == 0) = false := beq_eq_false_iff_ne.2 (by omega)
      have hB : r = false := by rw [← hr0]; exact decide_eq_false (by omega)
      clear hm
      subst hB
      clear hr0
      go_enter Try.func61, Try.ntmps61
      go_wp2
      go_ret
      exact ⟨rfl, B1.out⟩
    have ehm : (F.mn == 0) = true := beq_iff_eq.2 (by omega)
    have Hhm := hide hm
    clear hm
    by_cases hx : F.mx = 0
    case neg =>
      have ehx : (F.mx == 0) = false := beq_eq_false_iff_ne.2 (by omega)
      have hB : r = false := by rw [← hr0]; exact decide_eq_false (by omega)
      clear hx
      subst hB
      clear hr0
      go_enter Try.func61, Try.ntmps61
      go_wp2
      go_ret
      exact ⟨rfl, B1.out⟩
    have ehx : (F.mx == 0) = true := beq_iff_eq.2 (by omega)
    have Hhx := hide hx
    clear hx
    by_cases hr : F.rs.length = 0
    case neg =>
      have ehr : ((F.rs.length : Int) == 0) = false := beq_eq_false_iff_ne.2 (by omega)
      have hB : r = false := by rw [← hr0]; exact decide_eq_false (by omega)
      clear hr
      subst hB
      clear hr0
      go_enter Try.func61, Try.ntmps61
      go_wp2
      go_ret
      exact ⟨rfl, B1.out⟩
    have ehr : ((F.rs.length : Int) == 0) = true := beq_iff_eq.2 (by omega)
    have Hhr := hide hr
    clear hr
    have hB : r = true := by rw [← hr0]; exact decide_eq_true (by have := Hhm.out; have := Hhx.out; have := Hhr.out; omega)
    subst hB
    clear hr0
    go_enter Try.func61, Try.ntmps61
    go_wp2
    go_ret
    exact ⟨rfl, B1.out⟩
  exact hid _ rfl
set_option maxRecDepth 100000 in
set_option maxHeartbeats 2000000 in
theorem rbare1000 (F : Fl) (w : World) : Calls Try.prog 61 #[.agg #[.int .i64 F.k, .int .i64 F.n, .int .i64 F.mn, .int .i64 F.mx, .slice F.rq F.rs.length F.rc, .slice F.kq F.kl F.kc], .bool true, .bool false, .bool false, .bool false] w fun e w' => e = .returned (.bool (decide (F.mn = 0 ∧ F.mx = 0 ∧ F.rs.length = 0 ∧ F.kl = 0))) ∧ Below w.heap.size w w' := by
  have N1 : BoxN (w.alloc (.cells #[.int .i64 F.k, .int .i64 F.n, .int .i64 F.mn, .int .i64 F.mx, .slice F.rq F.rs.length F.rc, .slice F.kq F.kl F.kc] 25)) w.heap.size F := alloc_new w _
  have B1 : Hid (Below w.heap.size w (w.alloc (.cells #[.int .i64 F.k, .int .i64 F.n, .int .i64 F.mn, .int .i64 F.mx, .slice F.rq F.rs.length F.rc, .slice F.kq F.kl F.kc] 25))) := (Below.refl _ _).alloc (Nat.le_refl _) _
  obtain ⟨c0, c1, c2, c3, c4, c5⟩ := N1.six
  simp only [Nat.zero_add] at c1 c2 c3 c4 c5
  clear N1
  have hid : ∀ r, decide (F.mn = 0 ∧ F.mx = 0 ∧ F.rs.length = 0 ∧ F.kl = 0) = r → Calls Try.prog 61 #[.agg #[.int .i64 F.k, .int .i64 F.n, .int .i64 F.mn, .int .i64 F.mx, .slice F.rq F.rs.length F.rc, .slice F.kq F.kl F.kc], .bool true, .bool false, .bool false, .bool false] w fun e w' => e = .returned (.bool r) ∧ Below w.heap.size w w' := by
    intro r hr0
    by_cases hm : F.mn = 0
    case neg =>
      have ehm : (F.mn == 0) = false := beq_eq_false_iff_ne.2 (by omega)
      have hB : r = false := by rw [← hr0]; exact decide_eq_false (by omega)
      clear hm
      subst hB
      clear hr0
      go_enter Try.func61, Try.ntmps61
      go_wp2
      go_ret
      exact ⟨rfl, B1.out⟩
    have ehm : (F.mn == 0) = true := beq_iff_eq.2 (by omega)
    have Hhm := hide hm
    clear hm
    by_cases hx : F.mx = 0
    case neg =>
      have ehx : (F.mx == 0) = false := beq_eq_false_iff_ne.2 (by omega)
      have hB : r = false := by rw [← hr0]; exact decide_eq_false (by omega)
      clear hx
      subst hB
      clear hr0
      go_enter Try.func61, Try.ntmps61
      go_wp2
      go_ret
      exact ⟨rfl, B1.out⟩
    have ehx : (F.mx == 0) = true := beq_iff_eq.2 (by omega)
    have Hhx := hide hx
    clear hx
    by_cases hr : F.rs.length = 0
    case neg =>
      have ehr : ((F.rs.length : Int) == 0) = false := beq_eq_false_iff_ne.2 (by omega)
      have hB : r = false := by rw [← hr0]; exact decide_eq_false (by omega)
      clear hr
      subst hB
      clear hr0
      go_enter Try.func61, Try.ntmps61
      go_wp2
      go_ret
      exact ⟨rfl, B1.out⟩
    have ehr : ((F.rs.length : Int) == 0) = true := beq_iff_eq.2 (by omega)
    have Hhr := hide hr
    clear hr
    by_cases hk : F.kl = 0
    case neg =>
      have ehk : ((F.kl : Int) == 0) = false := beq_eq_false_iff_ne.2 (by omega)
      have hB : r = false := by rw [← hr0]; exact decide_eq_false (by omega)
      clear hk
      subst hB
      clear hr0
      go_enter Try.func61, Try.ntmps61
      go_wp2
      go_ret
      exact ⟨rfl, B1.out⟩
    have ehk : ((F.kl : Int) == 0) = true := beq_iff_eq.2 (by omega)
    have Hhk := hide hk
    clear hk
    have hB : r = true := by rw [← hr0]; exact decide_eq_true (by have := Hhm.out; have := Hhx.out; have := Hhr.out; have := Hhk.out; omega)
    subst hB
    clear hr0
    go_enter Try.func61, Try.ntmps61
    go_wp2
    go_ret
    exact ⟨rfl, B1.out⟩
  exact hid _ rfl
set_option maxRecDepth 100000 in
set_option maxHeartbeats 2000000 in
theorem rbare0101 (F : Fl) (w : World) : Calls Try.prog 61 #[.agg #[.int .i64 F.k, .int .i64 F.n, .int .i64 F.mn, .int .i64 F.mx, .slice F.rq F.rs.length F.rc, .slice F.kq F.kl F.kc], .bool false, .bool true, .bool false, .bool true] w fun e w' => e = .returned (.bool (decide (F.n = 0 ∧ F.rs.length = 0))) ∧ Below w.heap.size w w' := by
  have N1 : BoxN (w.alloc (.cells #[.int .i64 F.k, .int .i64 F.n, .int .i64 F.mn, .int .i64 F.mx, .slice F.rq F.rs.length F.rc, .slice F.kq F.kl F.kc] 25)) w.heap.size F := alloc_new w _
  have B1 : Hid (Below w.heap.size w (w.alloc (.cells #[.int .i64 F.k, .int .i64 F.n, .int .i64 F.mn, .int .i64 F.mx, .slice F.rq F.rs.length F.rc, .slice F.kq F.kl F.kc] 25))) := (Below.refl _ _).alloc (Nat.le_refl _) _
  obtain ⟨c0, c1, c2, c3, c4, c5⟩ := N1.six
  simp only [Nat.zero_add] at c1 c2 c3 c4 c5
  clear N1
  have hid : ∀ r, decide (F.n = 0 ∧ F.rs.length = 0) = r → Calls Try.prog 61 #[.agg #[.int .i64 F.k, .int .i64 F.n, .int .i64 F.mn, .int .i64 F.mx, .slice F.rq F.rs.length F.rc, .slice F.kq F.kl F.kc], .bool false, .bool true, .bool false, .bool true] w fun e w' => e = .returned (.bool r) ∧ Below w.heap.size w w' := by
    intro r hr0
    by_cases hn : F.n = 0
    case neg =>
      have ehn : (F.n == 0) = false := beq_eq_false_iff_ne.2 (by omega)
      have hB : r = false := by rw [← hr0]; exact decide_eq_false (by omega)
      clear hn
      subst hB
      clear hr0
      go_enter Try.func61, Try.ntmps61
      go_wp2
      go_ret
      exact ⟨rfl, B1.out⟩
    have ehn : (F.n == 0) = true := beq_iff_eq.2 (by omega)
    have Hhn := hide hn
    clear hn
    by_cases hr : F.rs.length = 0
    case neg =>
      have ehr : ((F.rs.length : Int) == 0) = false := beq_eq_false_iff_ne.2 (by omega)
      have hB : r = false := by rw [← hr0]; exact decide_eq_false (by omega)
      clear hr
      subst hB
      clear hr0
      go_enter Try.func61, Try.ntmps61
      go_wp2
      go_ret
      exact ⟨rfl, B1.out⟩
    have ehr : ((F.rs.length : Int) == 0) = true := beq_iff_eq.2 (by omega)
    have Hhr := hide hr
    clear hr
    have hB : r = true := by rw [← hr0]; exact decide_eq_true (by have := Hhn.out; have := Hhr.out; omega)
    subst hB
    clear hr0
    go_enter Try.func61, Try.ntmps61
    go_wp2
    go_ret
    exact ⟨rfl, B1.out⟩
  exact hid _ rfl
set_option maxRecDepth 100000 in
set_option maxHeartbeats 4000000 in
theorem rstands (p : Way) (t : Tr) (o : Nat) (w : World) : Calls Try.prog 60 #[.agg #[.int .i64 t.f.k, .int .i64 t.f.n, .int .i64 t.f.mn, .int .i64 t.f.mx, .slice t.f.rq t.f.rs.length t.f.rc, .slice t.f.kq t.f.kl t.f.kc, .int .i64 ((p.length : Int) + 1), .int .i64 (arP p), .bool (fiP p), .bool (laP p), .bool (brP p), .int .i64 (o : Int)]] w fun e w' => e = .returned (.bool (standsR p t.f.k)) ∧ Below w.heap.size w w' := by
  have N1 : (w.alloc (.cells #[.int .i64 t.f.k, .int .i64 t.f.n, .int .i64 t.f.mn, .int .i64 t.f.mx, .slice t.f.rq t.f.rs.length t.f.rc, .slice t.f.kq t.f.kl t.f.kc, .int .i64 ((p.length : Int) + 1), .int .i64 (arP p), .bool (fiP p), .bool (laP p), .bool (brP p), .int .i64 (o : Int)] 66)).heap[w.heap.size]? = some (.cells #[.int .i64 t.f.k, .int .i64 t.f.n, .int .i64 t.f.mn, .int .i64 t.f.mx, .slice t.f.rq t.f.rs.length t.f.rc, .slice t.f.kq t.f.kl t.f.kc, .int .i64 ((p.length : Int) + 1), .int .i64 (arP p), .bool (fiP p), .bool (laP p), .bool (brP p), .int .i64 (o : Int)] 66 (0, 0)) := alloc_new w _
  have B1 : Hid (Below w.heap.size w (w.alloc (.cells #[.int .i64 t.f.k, .int .i64 t.f.n, .int .i64 t.f.mn, .int .i64 t.f.mx, .slice t.f.rq t.f.rs.length t.f.rc, .slice t.f.kq t.f.kl t.f.kc, .int .i64 ((p.length : Int) + 1), .int .i64 (arP p), .bool (fiP p), .bool (laP p), .bool (brP p), .int .i64 (o : Int)] 66))) := (Below.refl _ _).alloc (Nat.le_refl _) _
  have hid : ∀ (k ar : Int) (fi la br : Bool) (r : Bool), (if ar = 5 then (if k = 3 then br && fi else if k = 4 then br && la else thingB k) else if ar = 9 then thingB k else if ar = 6 then k != 6 else true) = r → (w.alloc (.cells #[.int .i64 t.f.k, .int .i64 t.f.n, .int .i64 t.f.mn, .int .i64 t.f.mx, .slice t.f.rq t.f.rs.length t.f.rc, .slice t.f.kq t.f.kl t.f.kc, .int .i64 ((p.length : Int) + 1), .int .i64 (arP p), .bool (fiP p), .bool (laP p), .bool (brP p), .int .i64 (o : Int)] 66)).cell? ⟨w.heap.size, 0, none⟩ = some (.int .i64 k) → (w.alloc (.cells #[.int .i64 t.f.k, .int .i64 t.f.n, .int .i64 t.f.mn, .int .i64 t.f.mx, .slice t.f.rq t.f.rs.length t.f.rc, .slice t.f.kq t.f.kl t.f.kc, .int .i64 ((p.length : Int) + 1), .int .i64 (arP p), .bool (fiP p), .bool (laP p), .bool (brP p), .int .i64 (o : Int)] 66)).cell? ⟨w.heap.size, 7, none⟩ = some (.int .i64 ar) → (w.alloc (.cells #[.int .i64 t.f.k, .int .i64 t.f.n, .int .i64 t.f.mn, .int .i64 t.f.mx, .slice t.f.rq t.f.rs.length t.f.rc, .slice t.f.kq t.f.kl t.f.kc, .int .i64 ((p.length : Int) + 1), .int .i64 (arP p), .bool (fiP p), .bool (laP p), .bool (brP p), .int .i64 (o : Int)] 66)).cell? ⟨w.heap.size, 8, none⟩ = some (.bool fi) → (w.alloc (.cells #[.int .i64 t.f.k, .int .i64 t.f.n, .int .i64 t.f.mn, .int .i64 t.f.mx, .slice t.f.rq t.f.rs.length t.f.rc, .slice t.f.kq t.f.kl t.f.kc, .int .i64 ((p.length : Int) + 1), .int .i64 (arP p), .bool (fiP p), .bool (laP p), .bool (brP p), .int .i64 (o : Int)] 66)).cell? ⟨w.heap.size, 9, none⟩ = some (.bool la) → (w.alloc (.cells #[.int .i64 t.f.k, .int .i64 t.f.n, .int .i64 t.f.mn, .int .i64 t.f.mx, .slice t.f.rq t.f.rs.length t.f.rc, .slice t.f.kq t.f.kl t.f.kc, .int .i64 ((p.length : Int) + 1), .int .i64 (arP p), .bool (fiP p), .bool (laP p), .bool (brP p), .int .i64 (o : Int)] 66)).cell? ⟨w.heap.size, 10, none⟩ = some (.bool br) → Calls Try.prog 60 #[.agg #[.int .i64 t.f.k, .int .i64 t.f.n, .int .i64 t.f.mn, .int .i64 t.f.mx, .slice t.f.rq t.f.rs.length t.f.rc, .slice t.f.kq t.f.kl t.f.kc, .int .i64 ((p.length : Int) + 1), .int .i64 (arP p), .bool (fiP p), .bool (laP p), .bool (brP p), .int .i64 (o : Int)]] w fun e w' => e = .returned (.bool r) ∧ Below w.heap.size w w' := by
    intro k ar fi la br r hr x0 x7 x8 x9 x10
    have TH := hide (fun W => rthing k W)
    obtain ⟨th, hth⟩ : ∃ th, thingB k = th := ⟨_, rfl⟩
    rw [hth] at TH hr
    clear N1 hth
    by_cases a5 : ar = 5
    · by_cases k3 : k = 3
      · have e5 : (ar == 5) = true := by simpa using a5
        have e3 : (k == 3) = true := by simpa using k3
        rw [if_pos a5, if_pos k3] at hr
        clear a5 k3
        cases br <;> cases fi
        all_goals (subst hr; go_enter Try.func60, Try.ntmps60; go_wp2_with (go_at_call 72; (with_reducible refine (TH.out _).mono ?_); rintro e w5 ⟨rfl, h5⟩; subst w5); go_ret; exact ⟨rfl, B1.out⟩)
      by_cases k4 : k = 4
      · have e5 : (ar == 5) = true := by simpa using a5
        have e3 : (k == 3) = false := by simpa using k3
        have e4 : (k == 4) = true := by simpa using k4
        rw [if_pos a5, if_neg k3, if_pos k4] at hr
        clear a5 k3 k4
        cases br <;> cases la
        all_goals (subst hr; go_enter Try.func60, Try.ntmps60; go_wp2_with (go_at_call 72; (with_reducible refine (TH.out _).mono ?_); rintro e w5 ⟨rfl, h5⟩; subst w5); go_ret; exact ⟨rfl, B1.out⟩)
      have e5 : (ar == 5) = true := by simpa using a5
      have e3 : (k == 3) = false := by simpa using k3
      have e4 : (k == 4) = false := by simpa using k4
      rw [if_pos a5, if_neg k3, if_neg k4] at hr
      clear a5 k3 k4
      subst hr
      go_enter Try.func60, Try.ntmps60
      go_wp2_with (go_at_call 72; (with_reducible refine (TH.out _).mono ?_); rintro e w5 ⟨rfl, h5⟩; subst w5)
      go_ret
      exact ⟨rfl, B1.out⟩
    have e5 : (ar == 5) = false := by simpa using a5
    rw [if_neg a5] at hr
    by_cases a9 : ar = 9
    · have e9 : (ar == 9) = true := by simpa using a9
      rw [if_pos a9] at hr
      clear a5 a9
      subst hr
      go_enter Try.func60, Try.ntmps60
      go_wp2_with (go_at_call 72; (with_reducible refine (TH.out _).mono ?_); rintro e w5 ⟨rfl, h5⟩; subst w5)
      go_ret
      exact ⟨rfl, B1.out⟩
    have e9 : (ar == 9) = false := by simpa using a9
    rw [if_neg a9] at hr
    by_cases a6 : ar = 6
    · have e6 : (ar == 6) = true := by simpa using a6
      rw [if_pos a6] at hr
      clear a5 a9 a6
      subst hr
      go_enter Try.func60, Try.ntmps60
      go_wp2_with (go_at_call 72; (with_reducible refine (TH.out _).mono ?_); rintro e w5 ⟨rfl, h5⟩; subst w5)
      go_ret
      exact ⟨rfl, B1.out⟩
    have e6 : (ar == 6) = false := by simpa using a6
    rw [if_neg a6] at hr
    clear a5 a9 a6
    subst hr
    go_enter Try.func60, Try.ntmps60
    go_wp2_with (go_at_call 72; (with_reducible refine (TH.out _).mono ?_); rintro e w5 ⟨rfl, h5⟩; subst w5)
    go_ret
    exact ⟨rfl, B1.out⟩
  exact hid t.f.k (arP p) (fiP p) (laP p) (brP p) _ rfl (cell_row N1 (i := 0) rfl) (cell_row N1 (i := 7) rfl) (cell_row N1 (i := 8) rfl) (cell_row N1 (i := 9) rfl) (cell_row N1 (i := 10) rfl)
end Go.Proofs.Ytlodjinejeajcaa
namespace Go.Proofs.Ytlodjinejeajcaa
open Go Go.RowKit

/-- Ranges that have numbers, by their first ones. -/
structure Srt (S : List (Int × Int)) : Prop where
  some : ∀ r ∈ S, r.1 ≤ r.2
  rise : S.Pairwise (fun a b => a.1 ≤ b.1)
theorem srt_nil : Srt [] := ⟨fun _ h => (by cases h), List.Pairwise.nil⟩
theorem srt_tail {r : Int × Int} {L : List (Int × Int)} (h : Srt (r :: L)) : Srt L := ⟨fun x hx => h.some x (List.mem_cons_of_mem _ hx), (List.pairwise_cons.1 h.rise).2⟩
theorem srt_app {O L : List (Int × Int)} (h : Srt O) (k : Srt L) (hx : ∀ x ∈ O, ∀ y ∈ L, x.1 ≤ y.1) : Srt (O ++ L) :=
  ⟨fun r hr => (List.mem_append.1 hr).elim (h.some r) (k.some r), List.pairwise_append.2 ⟨h.rise, k.rise, hx⟩⟩
theorem srt_one {r : Int × Int} (h : r.1 ≤ r.2) : Srt [r] := ⟨fun x hx => by simp at hx; subst hx; exact h, List.pairwise_singleton _ _⟩
/-- The merge, on its way: O is out, A' and B' are left. -/
structure MI (A B A' B' O : List (Int × Int)) : Prop where
  out : Srt O
  a : Srt A'
  b : Srt B'
  mem : ∀ c, (In O c ∨ In A' c ∨ In B' c) ↔ (In A c ∨ In B c)
  le : ∀ x ∈ O, ∀ y, y ∈ A' ∨ y ∈ B' → x.1 ≤ y.1
  fit : Fit O ∧ Fit A' ∧ Fit B'
  len : O.length + A'.length + B'.length ≤ A.length + B.length
theorem MI.start {A B : List (Int × Int)} (ha : Srt A) (hb : Srt B) (fa : Fit A) (fb : Fit B) : MI A B A B [] :=
  ⟨srt_nil, ha, hb, fun c => ⟨fun q => q.elim (fun q => absurd q (in_nil c)) id, .inr⟩, fun _ h => (by cases h), ⟨fit_nil, fa, fb⟩, by simp⟩
theorem MI.right {A B A' B' O : List (Int × Int)} {a b : Int × Int} (I : MI A B (a :: A') (b :: B') O) (h : b.1 < a.1) : MI A B (a :: A') B' (O ++ [b]) := by
  refine ⟨srt_app I.out (srt_one (I.b.some b (by simp))) (fun x hx y hy => by simp at hy; subst hy; exact I.le x hx y (.inr (by simp))), I.a, srt_tail I.b, fun c => ?_, fun x hx y hy => ?_, ⟨fit_append I.fit.1 (fit_sub I.fit.2.2 fun z hz => by simp at hz; subst hz; simp), I.fit.2.1, fit_sub I.fit.2.2 fun z hz => List.mem_cons_of_mem _ hz⟩, by have := I.len; simp at *; omega⟩
  · rw [← I.mem, in_append, in_one, in_cons b B']
    constructor
    · rintro ((q | q) | q | q)
      · exact .inl q
      · exact .inr (.inr (.inl q))
      · exact .inr (.inl q)
      · exact .inr (.inr (.inr q))
    · rintro (q | q | q | q)
      · exact .inl (.inl q)
      · exact .inr (.inl q)
      · exact .inl (.inr q)
      · exact .inr (.inr q)
  · rcases List.mem_append.1 hx with hx | hx
    · exact I.le x hx y (hy.elim .inl fun q => .inr (List.mem_cons_of_mem _ q))
    · simp at hx
      subst hx
      rcases hy with hy | hy
      · rcases List.mem_cons.1 hy with rfl | hy
        · omega
        · have := (List.pairwise_cons.1 I.a.rise).1 y hy; omega
      · exact (List.pairwise_cons.1 I.b.rise).1 y hy
theorem MI.left {A B A' B' O : List (Int × Int)} {a : Int × Int} (I : MI A B (a :: A') B' O) (h : ∀ b ∈ B', a.1 ≤ b.1) : MI A B A' B' (O ++ [a]) := by
  refine ⟨srt_app I.out (srt_one (I.a.some a (by simp))) (fun x hx y hy => by simp at hy; subst hy; exact I.le x hx y (.inl (by simp))), srt_tail I.a, I.b, fun c => ?_, fun x hx y hy => ?_, ⟨fit_append I.fit.1 (fit_sub I.fit.2.1 fun z hz => by simp at hz; subst hz; simp), fit_sub I.fit.2.1 fun z hz => List.mem_cons_of_mem _ hz, I.fit.2.2⟩, by have := I.len; simp at *; omega⟩
  · rw [← I.mem, in_append, in_one, in_cons a A']
    constructor
    · rintro ((q | q) | q | q)
      · exact .inl q
      · exact .inr (.inl (.inl q))
      · exact .inr (.inl (.inr q))
      · exact .inr (.inr q)
    · rintro (q | (q | q) | q)
      · exact .inl (.inl q)
      · exact .inl (.inr q)
      · exact .inr (.inl q)
      · exact .inr (.inr q)
  · rcases List.mem_append.1 hx with hx | hx
    · exact I.le x hx y (hy.elim (fun q => .inl (List.mem_cons_of_mem _ q)) .inr)
    · simp at hx
      subst hx
      rcases hy with hy | hy
      · exact (List.pairwise_cons.1 I.a.rise).1 y hy
      · exact h y hy
theorem MI.done {A B B' O : List (Int × Int)} (I : MI A B [] B' O) : Srt (O ++ B') ∧ (∀ c, In (O ++ B') c ↔ (In A c ∨ In B c)) ∧ Fit (O ++ B') ∧ (O ++ B').length ≤ A.length + B.length := by
  refine ⟨srt_app I.out I.b fun x hx y hy => I.le x hx y (.inr hy), fun c => ?_, fit_append I.fit.1 I.fit.2.2, by have := I.len; simp at *; omega⟩
  rw [← I.mem, in_append]
  exact ⟨fun q => q.elim .inl fun q => .inr (.inr q), fun q => q.elim .inl fun q => q.elim (fun q => absurd q (in_nil c)) .inr⟩
/-- What sorted tells. -/
def SortOf (w : World) (L : List (Int × Int)) (e : Ending) (w' : World) : Prop := ∃ v S, e = .returned v ∧ RR w.heap.size w' v S ∧ Srt S ∧ Fit S ∧ (∀ c, In S c ↔ In L c) ∧ S.length ≤ L.length ∧ Below w.heap.size w w'
theorem ArgR.take {W : World} {g off n cap : Nat} {L : List (Int × Int)} (h : ArgR W (.slice (some ⟨g, off, none⟩) n cap) L) {k : Nat} (hk : k ≤ L.length) : ArgR W (.slice (some ⟨g, off, none⟩) k cap) (L.take k) := by
  have hl : (L.take k).length = k := by simp; omega
  rcases h with ⟨p, c, e, rfl, e2⟩ | ⟨g', off', cap', e, h2, h3, h4, h5⟩
  · simp at hk
    subst hk
    cases e
    exact .inl ⟨_, _, rfl, rfl, fun q => by cases q⟩
  · cases e
    refine .inr ⟨g, off, cap, by rw [hl], h2, by omega, h4, fun i r hi => h5 i r ?_⟩
    rw [List.getElem?_take] at hi
    split at hi
    · exact hi
    · cases hi
theorem ArgR.drop {W : World} {g off n cap : Nat} {L : List (Int × Int)} (h : ArgR W (.slice (some ⟨g, off, none⟩) n cap) L) {k : Nat} (hk : k < L.length) : ArgR W (.slice (some ⟨g, off + k * 2, none⟩) (n - k) (cap - k)) (L.drop k) := by
  rcases h with ⟨p, c, e, rfl, e2⟩ | ⟨g', off', cap', e, h2, h3, h4, h5⟩
  · simp at hk
  · cases e
    refine .inr ⟨g, off + k * 2, cap - k, by simp, h2, by simp; omega, by omega, fun i r hi => ?_⟩
    rw [List.getElem?_drop] at hi
    have := h5 (k + i) r hi
    rw [show off + k * 2 + 2 * i = off + 2 * (k + i) by omega]
    exact this
theorem in_halves (L : List (Int × Int)) (k : Nat) (c : Int) : (In (L.take k) c ∨ In (L.drop k) c) ↔ In L c := by rw [← in_append, List.take_append_drop]
end Go.Proofs.Ytlodjinejeajcaa
namespace Go.Proofs.Ytlodjinejeajcaa
open Go Go.RowKit
attribute [local go_sem] ext_cell

set_option maxRecDepth 100000 in
set_option maxHeartbeats 1000000 in
theorem sorted_small {w : World} {v : Value} {L : List (Int × Int)} (h : ArgR w v L) (hF : Fit L) (hn : L.length ≤ 1) : Calls Try.prog 84 #[v] w (SortOf w L) := by
  obtain ⟨t0, ti, hz0, hz1, hz2⟩ := info_parts size_range
  cases L with
  | nil =>
    obtain ⟨q, cap, e, -, -, -⟩ := h.slice
    subst e
    clear h
    go_enter Try.func84, Try.ntmps84
    go_wp2
    go_ret
    exact ⟨_, [], rfl, RR.nil _ _, srt_nil, fit_nil, fun _ => Iff.rfl, Nat.le_refl _, Below.refl _ _⟩
  | cons r L' =>
    obtain rfl : L' = [] := List.eq_nil_of_length_eq_zero (by simpa using hn)
    obtain ⟨g, off, cap, rfl, hg, hn1, hm1, x1, x2⟩ := h.cons
    have HF : Hid (Fit [r]) := hF
    clear h hF
    obtain ⟨lo, hi⟩ := r
    dsimp only [List.length_nil] at x1 x2 hn1 ⊢
    have W1 : Hid (w = w) := rfl
    by_cases hq : lo ≤ hi
    · have dq : decide (lo ≤ hi) = true := decide_eq_true hq
      have HQ : Hid (lo ≤ hi) := hq
      go_enter Try.func84, Try.ntmps84
      go_wp2
      refine wp_region_ext (by kernel_rfl) (by kernel_rfl) ?_
      repeat (go_big_quiet_step (first | exact rfl))
      refine wpQuiet_nil ?_
      intro w7 hw7
      have B7 : Hid (Below w.heap.size w w7) := ext_of hw7
      have c1 := (B7.out.cell (p := ⟨g, off, none⟩) hg).trans x1
      have c2 := (B7.out.cell (p := ⟨g, off + 1, none⟩) hg).trans x2
      have hz7 := B7.out.size
      clear hw7 x1 x2
      go_wp2_with (at_builtin; refine wpList_append_own_at _ rfl _ _ 22 rfl w.heap.size 72 t0 (.agg #[.int .i64 0, .int .i64 0]) 2 16 und_ranges ti hz0 hz1 hz2 rfl (by decide) (.slice none 0 0) 0 (cellsR []) rfl (RR.nil _ _) ⟨w7.heap.size, 0, none⟩ 1 1 [.int .i64 lo, .int .i64 hi] rfl rfl (news2 _ _ _ _) (by simp [Value.oneCell']) (by unfold maxLen; omega) (by omega) (by simp; omega) ?_; intro v' w6 hown' hgrow _ hblk; obtain ⟨g6, cap6, rfl⟩ := ownsRow_some hown' (Nat.succ_pos _); have A6 : Hid (RR w.heap.size w6 (.slice (some ⟨g6, 0, none⟩) 1 cap6) [(lo, hi)]) := hown'; have B6 : Hid (Below w.heap.size w w6) := below_grown (t := 72) (size := 2) (n := 0) (xs := []) (B7.out.alloc hz7 _) (RR.nil _ _) hgrow; clear hown' hgrow hblk)
      go_ret
      exact ⟨_, [(lo, hi)], rfl, A6.out, srt_one HQ.out, HF.out, fun _ => Iff.rfl, Nat.le_refl _, B6.out⟩
    · have dq : decide (lo ≤ hi) = false := decide_eq_false hq
      have HQ : Hid (¬ lo ≤ hi) := hq
      go_enter Try.func84, Try.ntmps84
      go_wp2
      refine wp_region_ext (by kernel_rfl) (by kernel_rfl) ?_
      repeat (go_big_quiet_step (first | exact rfl))
      refine wpQuiet_nil ?_
      intro w7 hw7
      have B7 : Hid (Below w.heap.size w w7) := ext_of hw7
      clear hw7
      go_wp2
      go_ret
      exact ⟨_, [], rfl, RR.nil _ _, srt_nil, fit_nil, fun c => ⟨fun q => absurd q (in_nil c), fun q => by rw [in_one] at q; have := HQ.out; simp only at q; omega⟩, by simp, B7.out⟩

set_option maxRecDepth 100000 in
set_option maxHeartbeats 4000000 in
theorem sorted_step {w : World} {v : Value} {L : List (Int × Int)} (ih : ∀ (w : World) (v : Value) (L' : List (Int × Int)), L'.length < L.length → ArgR w v L' → Fit L' → Calls Try.prog 84 #[v] w (SortOf w L')) (h : ArgR w v L) (hF : Fit L) (hn : 1 < L.length) (hl : L.length + 1 ≤ 8796093022208) : Calls Try.prog 84 #[v] w (SortOf w L) := by
  obtain ⟨t0, ti, hz0, hz1, hz2⟩ := info_parts size_range
  obtain ⟨q, cap, e, -, hcap, hcells⟩ := h.slice
  subst e
  obtain ⟨g, off, rfl, hg, -, -⟩ := hcells 0 _ (List.getElem?_eq_getElem (by omega))
  obtain ⟨k, hk⟩ : ∃ k, L.length / 2 = k := ⟨_, rfl⟩
  have hk1 : 0 < k := by omega
  have hk2 : k < L.length := by omega
  have IH : Hid (∀ (w : World) (v : Value) (L' : List (Int × Int)), L'.length < L.length → ArgR w v L' → Fit L' → Calls Try.prog 84 #[v] w (SortOf w L')) := ih
  have T1 : Hid (ArgR w (.slice (some ⟨g, off, none⟩) k cap) (L.take k) ∧ Fit (L.take k) ∧ (L.take k).length < L.length) := ⟨h.take (by omega), fit_sub hF fun x hx => List.mem_of_mem_take hx, by simp; omega⟩
  have T2 : Hid (ArgR w (.slice (some ⟨g, off + k * 2, none⟩) (L.length - k) (cap - k)) (L.drop k) ∧ Fit (L.drop k) ∧ (L.drop k).length < L.length) := ⟨h.drop hk2, fit_sub hF fun x hx => List.mem_of_mem_drop hx, by simp; omega⟩
  have HL : Hid ((L.take k).length + (L.drop k).length = L.length) := hide (by simp; omega)
  have q1 : ((L.length : Int).tdiv 2) = (k : Int) := by rw [← hk]; simp [Int.tdiv_eq_ediv]
  have q2 : IntKind.wrap .i64 ((L.length : Int).tdiv 2) = (k : Int) := by rw [q1, IntKind.wrap_i64]; omega
  have n0 : ((L.length : Int) == 0) = false := beq_false_of_ne (by omega)
  have n1 : ((L.length : Int) == 1) = false := beq_false_of_ne (by omega)
  have k0 : (0 : Int) ≤ (k : Int) := by omega
  have k1 : (k : Int) ≤ (cap : Int) := by omega
  have k2 : (k : Int) ≤ (L.length : Int) := by omega
  have k3 : ¬ cap = k := by omega
  clear h hF ih hcells hk
  go_enter Try.func84, Try.ntmps84
  go_wp2_with first
    | (go_at_call 84; have hx := X5.out; clear hx; have hih := IH.out w5 _ _ T2.out.2.2 (T2.out.1.kept X5.out.2.2.2.2.2) T2.out.2.1; (with_reducible refine hih.mono ?_); clear hih; rintro e w6 ⟨v6, B, rfl, h1, h2, h3, h4, h5, h6⟩; obtain ⟨qb, cb, rfl⟩ := h1.shape; have X6 : Hid (RR w5.heap.size w6 (.slice qb B.length cb) B ∧ Srt B ∧ Fit B ∧ (∀ c, In B c ↔ In (L.drop k) c) ∧ B.length ≤ (L.drop k).length ∧ Below w5.heap.size w5 w6) := ⟨h1, h2, h3, h4, h5, h6⟩; clear h1 h2 h3 h4 h5 h6)
    | (go_at_call 84; have hih := IH.out w _ _ T1.out.2.2 T1.out.1 T1.out.2.1; (with_reducible refine hih.mono ?_); clear hih; rintro e w5 ⟨v5, A, rfl, h1, h2, h3, h4, h5, h6⟩; obtain ⟨qa, ca, rfl⟩ := h1.shape; have X5 : Hid (RR w.heap.size w5 (.slice qa A.length ca) A ∧ Srt A ∧ Fit A ∧ (∀ c, In A c ↔ In (L.take k) c) ∧ A.length ≤ (L.take k).length ∧ Below w.heap.size w w5) := ⟨h1, h2, h3, h4, h5, h6⟩; clear h1 h2 h3 h4 h5 h6)
  rename World => W1
  have ST : Hid (MI A B A B []) := MI.start X5.out.2.1 X6.out.2.1 X5.out.2.2.1 X6.out.2.2.1
  have AA : Hid (ArgR W1 (.slice qa A.length ca) A ∧ ArgR W1 (.slice qb B.length cb) B) := ⟨(X5.out.1.kept X6.out.2.2.2.2.2).arg, X6.out.1.arg⟩
  have hab : A.length + B.length + 1 ≤ 8796093022208 := by have := X5.out.2.2.2.2.1; have := X6.out.2.2.2.2.1; have := HL.out; omega
  have BW : Hid (Below w.heap.size w W1) := chain X5.out.2.2.2.2.2 X6.out.2.2.2.2.2 (Nat.le_refl _)
  have HA : Hid (∀ (i : Nat) (r : Int × Int), A[i]? = some r → ∃ g off, qa = some ⟨g, off, none⟩ ∧ g < W1.heap.size ∧ W1.cell? ⟨g, off + 2 * i, none⟩ = some (.int .i64 r.1) ∧ W1.cell? ⟨g, off + 2 * i + 1, none⟩ = some (.int .i64 r.2)) := by
    obtain ⟨q', cap', e, -, -, hc⟩ := AA.out.1.slice
    cases e
    exact hc
  have FIN : Hid (∀ O B', MI A B [] B' O → Srt (O ++ B') ∧ Fit (O ++ B') ∧ (∀ c, In (O ++ B') c ↔ In L c) ∧ (O ++ B').length ≤ L.length) := fun O B' I => by
    obtain ⟨m1, m2, m3, m4⟩ := I.done
    refine ⟨m1, m3, fun c => ?_, ?_⟩
    · rw [m2, X5.out.2.2.2.1, X6.out.2.2.2.1, in_halves]
    · have := X5.out.2.2.2.2.1; have := X6.out.2.2.2.2.1; have := HL.out; omega
  clear q1 q2 k0 k1 k2 k3 n0 n1
  go_loopw [3, 5, 6] (fun ov bv i wr => ∃ (j : Nat) (B' O : List (Int × Int)), j ≤ A.length ∧ i = .int .i64 j ∧ ArgR W1 bv B' ∧ RR W1.heap.size wr ov O ∧ MI A B (A.drop j) B' O ∧ Below W1.heap.size W1 wr) (fun _ _ i _ => A.length - (intOf i).toNat)
  case atStart => exact ⟨0, B, [], Nat.zero_le _, rfl, AA.out.2, RR.nil _ _, ST.out, Below.refl _ _⟩
  case round =>
    obtain ⟨j, B', O, hj, rfl, hbv, hov, hI, hb⟩ := hrel
    have RB : Hid (ArgR W1 u5 B') := hbv
    have RO : Hid (RR W1.heap.size wr u3 O) := hov
    have I : Hid (MI A B (A.drop j) B' O) := hI
    have BB : Hid (Below W1.heap.size W1 wr) := hb
    clear hbv hov hI hb
    by_cases hlt : j < A.length
    · obtain ⟨a, ea⟩ : ∃ r, A[j]? = some r := ⟨_, List.getElem?_eq_getElem hlt⟩
      have DR : Hid (A.drop j = a :: A.drop (j + 1)) := hide (by obtain ⟨h1, h2⟩ := List.getElem?_eq_some_iff.1 ea; rw [List.drop_eq_getElem_cons h1, h2])
      obtain ⟨ga, oa, rfl, hga, xa1, xa2⟩ := HA.out j _ ea
      have I2 : Hid (MI A B (a :: A.drop (j + 1)) B' O) := hide (by rw [← DR.out]; exact I.out)
      rw [Nat.mul_comm] at xa1 xa2
      obtain ⟨la, ra⟩ := a
      dsimp only at xa1 xa2
      have XA : Hid (W1.cell? ⟨ga, oa + j * 2, none⟩ = some (.int .i64 la) ∧ W1.cell? ⟨ga, oa + j * 2 + 1, none⟩ = some (.int .i64 ra) ∧ ga < W1.heap.size) := ⟨xa1, xa2, hga⟩
      have i0 : (0 : Int) ≤ (j : Int) := by omega
      have i1 : (j : Int) < (A.length : Int) := by omega
      clear xa1 xa2 hga ea
      rename World => W2
      obtain ⟨qq, cc, e5⟩ : ∃ q c, u5 = .slice q B'.length c := by obtain ⟨q, c, e, -⟩ := RB.out.slice; exact ⟨q, c, e⟩
      obtain ⟨qq3, cc3, e3⟩ := RO.out.shape
      go_wp2
      go_loopw [3, 5] (fun ov bv wr => ∃ (B' O : List (Int × Int)), ArgR W1 bv B' ∧ RR W1.heap.size wr ov O ∧ MI A B ((la, ra) :: A.drop (j + 1)) B' O ∧ Below W1.heap.size W1 wr) (fun _ bv _ => lenV bv)
      case atStart => exact ⟨B', O, RB.out, RO.out, I2.out, BB.out⟩
      case round =>
        clear RB RO I I2 BB e5 e3
        obtain ⟨B', O, hbv, hov, hI, hb⟩ := hrel
        obtain ⟨qo, co, e3⟩ := hov.shape
        subst e3
        have RO : Hid (RR W1.heap.size wr (.slice qo O.length co) O) := hov
        have I : Hid (MI A B ((la, ra) :: A.drop (j + 1)) B' O) := hI
        have BB : Hid (Below W1.heap.size W1 wr) := hb
        have hol : O.length + 1 ≤ 8796093022208 := by have := hI.len; simp at this; omega
        have hbs := hb.size
        have ca1 := (BB.out.cell (p := ⟨ga, oa + j * 2, none⟩) XA.out.2.2).trans XA.out.1
        have sa : ga < wr.heap.size := Nat.lt_of_lt_of_le XA.out.2.2 hbs
        clear hov hI hb
        cases B' with
        | nil =>
          obtain ⟨q2, cap2, e2, -, -, -⟩ := hbv.slice
          simp only [List.length_nil] at e2
          subst e2
          have RB : Hid (ArgR W1 (.slice q2 0 cap2) []) := hbv
          have I2 : Hid (MI A B (A.drop (j + 1)) [] (O ++ [(la, ra)])) := I.out.left (fun _ h => by cases h)
          have d0 : decide ((0 : Int) < 0) = false := by decide
          clear hbv
          go_wp2
          refine wp_region_ext (by kernel_rfl) (by kernel_rfl) ?_
          repeat (go_big_quiet_step (first | exact rfl))
          refine wpQuiet_nil ?_
          intro w7 hw7
          have B7 : Hid (Below W1.heap.size W1 w7) := chain BB.out (ext_of hw7) (Nat.le_refl _)
          have R7 : Hid (RR W1.heap.size w7 (.slice qo O.length co) O) := RO.out.kept (ext_of hw7)
          have e1 := (B7.out.cell (p := ⟨ga, oa + j * 2, none⟩) XA.out.2.2).trans XA.out.1
          have e2 := (B7.out.cell (p := ⟨ga, oa + j * 2 + 1, none⟩) XA.out.2.2).trans XA.out.2.1
          have hz7 := B7.out.size
          clear hw7 ca1
          go_wp2_with (at_builtin; refine wpList_append_own_at _ rfl _ _ 22 rfl W1.heap.size 72 t0 (.agg #[.int .i64 0, .int .i64 0]) 2 16 und_ranges ti hz0 hz1 hz2 rfl (by decide) (.slice qo O.length co) O.length (cellsR O) rfl (World.ownsRow.alloc R7.out (.cells #[.int .i64 la, .int .i64 ra] 72)) ⟨w7.heap.size, 0, none⟩ 1 1 [.int .i64 la, .int .i64 ra] rfl rfl (news2 _ _ _ _) (by simp [Value.oneCell']) (by unfold maxLen; omega) (by omega) (by simp; omega) ?_; intro v' w6 hown' hgrow _ hblk; obtain ⟨g6, cap6, rfl⟩ := ownsRow_some hown' (Nat.succ_pos _); have A6 : Hid (RR W1.heap.size w6 (.slice (some ⟨g6, 0, none⟩) (O.length + 1) cap6) (O ++ [(la, ra)])) := rr_app hown'; have B6 : Hid (Below W1.heap.size W1 w6) := below_grown (B7.out.alloc B7.out.size _) (World.ownsRow.alloc R7.out _) hgrow; clear hown' hgrow hblk)
          go_roundw
          case rel => exact ⟨j + 1, [], _, by omega, by go_num, RB.out, A6.out, I2.out, B6.out⟩
          case measure => simp [intOf]; omega
        | cons b B' =>
          obtain ⟨g2, o2, cap2, e2, hg2, hn2, hm2, y1, y2⟩ := hbv.cons
          subst e2
          have RB : Hid (ArgR W1 (.slice (some ⟨g2, o2, none⟩) (B'.length + 1) cap2) (b :: B')) := hbv
          obtain ⟨lb, rb⟩ := b
          dsimp only at y1 y2
          have YB : Hid (W1.cell? ⟨g2, o2, none⟩ = some (.int .i64 lb) ∧ W1.cell? ⟨g2, o2 + 1, none⟩ = some (.int .i64 rb) ∧ g2 < W1.heap.size) := ⟨y1, y2, hg2⟩
          have cb1 := (BB.out.cell (p := ⟨g2, o2, none⟩) YB.out.2.2).trans YB.out.1
          have sb : g2 < wr.heap.size := Nat.lt_of_lt_of_le hg2 hbs
          have d1 : (0 : Int) < (B'.length : Int) + 1 := by omega
          have dd : decide ((0 : Int) < (B'.length : Int) + 1) = true := decide_eq_true d1
          unfold maxLen at hm2
          clear hbv y1 y2 hg2
          by_cases hq : lb < la
          · have I2 : Hid (MI A B ((la, ra) :: A.drop (j + 1)) B' (O ++ [(lb, rb)])) := I.out.right hq
            have dq : decide (lb < la) = true := decide_eq_true hq
            have TT := RB.out.tail
            by_cases hcap : cap2 = 1
            · have T1' : Hid (ArgR W1 (.slice (some ⟨g2, o2, none⟩) 0 0) B') := TT.1 hcap
              have hA0 : B'.length = 0 := by omega
              subst hcap
              clear TT
              go_wp2
              refine wp_region_ext (by kernel_rfl) (by kernel_rfl) ?_
              repeat (go_big_quiet_step (first | exact rfl))
              refine wpQuiet_nil ?_
              intro w7 hw7
              have B7 : Hid (Below W1.heap.size W1 w7) := chain BB.out (ext_of hw7) (Nat.le_refl _)
              have R7 : Hid (RR W1.heap.size w7 (.slice qo O.length co) O) := RO.out.kept (ext_of hw7)
              have e1 := (B7.out.cell (p := ⟨g2, o2, none⟩) YB.out.2.2).trans YB.out.1
              have e2 := (B7.out.cell (p := ⟨g2, o2 + 1, none⟩) YB.out.2.2).trans YB.out.2.1
              have hz7 := B7.out.size
              clear hw7 ca1 cb1
              go_wp2_with (at_builtin; refine wpList_append_own_at _ rfl _ _ 22 rfl W1.heap.size 72 t0 (.agg #[.int .i64 0, .int .i64 0]) 2 16 und_ranges ti hz0 hz1 hz2 rfl (by decide) (.slice qo O.length co) O.length (cellsR O) rfl (World.ownsRow.alloc R7.out (.cells #[.int .i64 lb, .int .i64 rb] 72)) ⟨w7.heap.size, 0, none⟩ 1 1 [.int .i64 lb, .int .i64 rb] rfl rfl (news2 _ _ _ _) (by simp [Value.oneCell']) (by unfold maxLen; omega) (by omega) (by simp; omega) ?_; intro v' w6 hown' hgrow _ hblk; obtain ⟨g6, cap6, rfl⟩ := ownsRow_some hown' (Nat.succ_pos _); have A6 : Hid (RR W1.heap.size w6 (.slice (some ⟨g6, 0, none⟩) (O.length + 1) cap6) (O ++ [(lb, rb)])) := rr_app hown'; have B6 : Hid (Below W1.heap.size W1 w6) := below_grown (B7.out.alloc B7.out.size _) (World.ownsRow.alloc R7.out _) hgrow; clear hown' hgrow hblk)
              go_roundw
              case rel => exact ⟨B', _, T1'.out, A6.out, I2.out, B6.out⟩
              case measure => simp only [lenV]; omega
            · have T1' : Hid (ArgR W1 (.slice (some ⟨g2, o2 + 2, none⟩) B'.length (cap2 - 1)) B') := TT.2 hcap
              clear TT
              go_wp2
              refine wp_region_ext (by kernel_rfl) (by kernel_rfl) ?_
              repeat (go_big_quiet_step (first | exact rfl))
              refine wpQuiet_nil ?_
              intro w7 hw7
              have B7 : Hid (Below W1.heap.size W1 w7) := chain BB.out (ext_of hw7) (Nat.le_refl _)
              have R7 : Hid (RR W1.heap.size w7 (.slice qo O.length co) O) := RO.out.kept (ext_of hw7)
              have e1 := (B7.out.cell (p := ⟨g2, o2, none⟩) YB.out.2.2).trans YB.out.1
              have e2 := (B7.out.cell (p := ⟨g2, o2 + 1, none⟩) YB.out.2.2).trans YB.out.2.1
              have hz7 := B7.out.size
              clear hw7 ca1 cb1
              go_wp2_with (at_builtin; refine wpList_append_own_at _ rfl _ _ 22 rfl W1.heap.size 72 t0 (.agg #[.int .i64 0, .int .i64 0]) 2 16 und_ranges ti hz0 hz1 hz2 rfl (by decide) (.slice qo O.length co) O.length (cellsR O) rfl (World.ownsRow.alloc R7.out (.cells #[.int .i64 lb, .int .i64 rb] 72)) ⟨w7.heap.size, 0, none⟩ 1 1 [.int .i64 lb, .int .i64 rb] rfl rfl (news2 _ _ _ _) (by simp [Value.oneCell']) (by unfold maxLen; omega) (by omega) (by simp; omega) ?_; intro v' w6 hown' hgrow _ hblk; obtain ⟨g6, cap6, rfl⟩ := ownsRow_some hown' (Nat.succ_pos _); have A6 : Hid (RR W1.heap.size w6 (.slice (some ⟨g6, 0, none⟩) (O.length + 1) cap6) (O ++ [(lb, rb)])) := rr_app hown'; have B6 : Hid (Below W1.heap.size W1 w6) := below_grown (B7.out.alloc B7.out.size _) (World.ownsRow.alloc R7.out _) hgrow; clear hown' hgrow hblk)
              go_roundw
              case rel => exact ⟨B', _, T1'.out, A6.out, I2.out, B6.out⟩
              case measure => simp only [lenV]; omega
          · have I2 : Hid (MI A B (A.drop (j + 1)) ((lb, rb) :: B') (O ++ [(la, ra)])) := I.out.left (fun y hy => by
              rcases List.mem_cons.1 hy with rfl | hy
              · simp only; omega
              · have := (List.pairwise_cons.1 I.out.b.rise).1 y hy; simp only at this ⊢; omega)
            have dq : decide (lb < la) = false := decide_eq_false hq
            go_wp2
            refine wp_region_ext (by kernel_rfl) (by kernel_rfl) ?_
            repeat (go_big_quiet_step (first | exact rfl))
            refine wpQuiet_nil ?_
            intro w7 hw7
            have B7 : Hid (Below W1.heap.size W1 w7) := chain BB.out (ext_of hw7) (Nat.le_refl _)
            have R7 : Hid (RR W1.heap.size w7 (.slice qo O.length co) O) := RO.out.kept (ext_of hw7)
            have e1 := (B7.out.cell (p := ⟨ga, oa + j * 2, none⟩) XA.out.2.2).trans XA.out.1
            have e2 := (B7.out.cell (p := ⟨ga, oa + j * 2 + 1, none⟩) XA.out.2.2).trans XA.out.2.1
            have hz7 := B7.out.size
            clear hw7 ca1 cb1
            go_wp2_with (at_builtin; refine wpList_append_own_at _ rfl _ _ 22 rfl W1.heap.size 72 t0 (.agg #[.int .i64 0, .int .i64 0]) 2 16 und_ranges ti hz0 hz1 hz2 rfl (by decide) (.slice qo O.length co) O.length (cellsR O) rfl (World.ownsRow.alloc R7.out (.cells #[.int .i64 la, .int .i64 ra] 72)) ⟨w7.heap.size, 0, none⟩ 1 1 [.int .i64 la, .int .i64 ra] rfl rfl (news2 _ _ _ _) (by simp [Value.oneCell']) (by unfold maxLen; omega) (by omega) (by simp; omega) ?_; intro v' w6 hown' hgrow _ hblk; obtain ⟨g6, cap6, rfl⟩ := ownsRow_some hown' (Nat.succ_pos _); have A6 : Hid (RR W1.heap.size w6 (.slice (some ⟨g6, 0, none⟩) (O.length + 1) cap6) (O ++ [(la, ra)])) := rr_app hown'; have B6 : Hid (Below W1.heap.size W1 w6) := below_grown (B7.out.alloc B7.out.size _) (World.ownsRow.alloc R7.out _) hgrow; clear hown' hgrow hblk)
            go_roundw
            case rel => exact ⟨j + 1, (lb, rb) :: B', _, by omega, by go_num, RB.out, A6.out, I2.out, B6.out⟩
            case measure => simp [intOf]; omega
    · have i1 : ¬ (j : Int) < (A.length : Int) := by omega
      have D0 : Hid (A.drop j = []) := hide (List.drop_of_length_le (by omega))
      have I2 : Hid (MI A B [] B' O) := hide (by rw [← D0.out]; exact I.out)
      obtain ⟨q2, cap2, e5, -, -, -⟩ := RB.out.slice
      subst e5
      obtain ⟨qo, co, e3⟩ := RO.out.shape
      subst e3
      have F := FIN.out O B' I2.out
      have FF : Hid _ := F
      have hlen := F.2.2.2
      rw [List.length_append] at hlen
      have hbs := BB.out.size
      clear F
      cases q2 with
      | none =>
        have e0 : Value.slice none B'.length cap2 = .slice none 0 0 ∧ B' = [] := by
          rcases RB.out with ⟨p, cap', e, e2, e3⟩ | ⟨g', off', cap', e, _⟩
          · subst e2
            cases e
            have := e3 rfl
            subst this
            exact ⟨rfl, rfl⟩
          · cases e
        obtain ⟨e1, e2⟩ := e0
        subst e2
        cases e1
        go_wp2_with (at_builtin; refine wpList_append_own_none rfl _ _ 22 rfl W1.heap.size 72 t0 2 und_ranges ti (.slice qo O.length co) O.length (cellsR O) rfl RO.out rfl ?_)
        go_ret
        refine ⟨_, O ++ [], rfl, ?_, FF.out.1, FF.out.2.1, FF.out.2.2.1, FF.out.2.2.2, chain BW.out BB.out (Nat.le_refl _)⟩
        rw [List.append_nil]
        exact RO.out.mono BW.out.size
      | some ad =>
        have NW : Hid (∀ j u, (cellsR B')[j]? = some u → wr.cell? (ad.add j) = some u) := (RB.out.kept BB.out).news
        go_wp2_with (at_builtin; refine wpList_append_own_at _ rfl _ _ 22 rfl W1.heap.size 72 t0 (.agg #[.int .i64 0, .int .i64 0]) 2 16 und_ranges ti hz0 hz1 hz2 rfl (by decide) (.slice qo O.length co) O.length (cellsR O) rfl RO.out ad B'.length cap2 (cellsR B') rfl (cellsR_length B') NW.out (cellsR_one B') (by unfold maxLen; omega) (by omega) hbs ?_; intro v' w6 hown' hgrow _ hblk; have A6 : Hid (RR W1.heap.size w6 v' (O ++ B')) := rr_apps hown'; have B6 : Hid (Below W1.heap.size W1 w6) := below_grown BB.out RO.out hgrow; clear hown' hgrow hblk)
        go_ret
        exact ⟨_, O ++ B', rfl, A6.out.mono BW.out.size, FF.out.1, FF.out.2.1, FF.out.2.2.1, FF.out.2.2.2, chain BW.out B6.out (Nat.le_refl _)⟩

theorem sorted_c (n : Nat) : ∀ (w : World) (v : Value) (L : List (Int × Int)), L.length ≤ n → n + 1 ≤ 8796093022208 → ArgR w v L → Fit L → Calls Try.prog 84 #[v] w (SortOf w L) := by
  induction n with
  | zero => exact fun w v L hn _ h hF => sorted_small h hF (by omega)
  | succ n ih =>
    intro w v L hn hl h hF
    by_cases h1 : L.length ≤ 1
    · exact sorted_small h hF h1
    · exact sorted_step (fun w v L' hL' h' hF' => ih w v L' (by omega) (by omega) h' hF') h hF (by omega) (by omega)
end Go.Proofs.Ytlodjinejeajcaa
