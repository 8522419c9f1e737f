/-
  The document's own answer: Is, text.
-/
import Derived.Test.YtihmnibopeljaaaDoorExamples
namespace Go.Proofs.YtihmnibopeljaaaDoor
open Go Go.RowKit
attribute [local go_sem] ext_cell

set_option maxHeartbeats 4000000 in
set_option maxRecDepth 1000000 in
theorem rIs_c (c : Int) (w : World) : Calls Tryd.prog 40 #[.int .i64 c] w fun e w' => e = .returned (.bool (isC c)) ∧ w' = w := by
  by_cases h0 : 0 ≤ c
  · by_cases h1 : c ≤ 1114111
    · by_cases h2 : c < 55296
      · have hv : Hid (isC c = true) := by show isC c = true; simp [isC]; omega
        go_enter Tryd.func40, Tryd.ntmps40
        go_wp2
        go_ret
        exact ⟨by rw [hv.out]; rfl, rfl⟩
      · by_cases h3 : 57343 < c
        · have hv : Hid (isC c = true) := by show isC c = true; simp [isC]; omega
          go_enter Tryd.func40, Tryd.ntmps40
          go_wp2
          go_ret
          exact ⟨by rw [hv.out]; rfl, rfl⟩
        · have hv : Hid (isC c = false) := by show isC c = false; simp [isC]; omega
          go_enter Tryd.func40, Tryd.ntmps40
          go_wp2
          go_ret
          exact ⟨by rw [hv.out]; rfl, rfl⟩
    · have hv : Hid (isC c = false) := by show isC c = false; simp [isC]; omega
      go_enter Tryd.func40, Tryd.ntmps40
      go_wp2
      go_ret
      exact ⟨by rw [hv.out]; rfl, rfl⟩
  · have hv : Hid (isC c = false) := by show isC c = false; simp [isC]; omega
    go_enter Tryd.func40, Tryd.ntmps40
    go_wp2
    go_ret
    exact ⟨by rw [hv.out]; rfl, rfl⟩

/-- A text out of bytes that were just laid. -/
theorem conv_new (w : World) (l : List Int) (hl : ∀ x ∈ l, 0 ≤ x ∧ x < 256) :
    (convert 60 9 (.slice (some ⟨w.heap.size, 0, none⟩) l.length l.length)).run Tryd.prog (w.alloc (.cells (l.map (Value.int .u8)).toArray 5)) = .ok (.string (txt (l.map fun x => x.toNat.toUInt8))) (w.alloc (.cells (l.map (Value.int .u8)).toArray 5)) := by
  have := run_convert_bytes_back (P := Tryd.prog) (w.alloc (.cells (l.map (Value.int .u8)).toArray 5)) 60 9 5 ⟨w.heap.size, 0, none⟩ l.length (l.map fun x => x.toNat.toUInt8) Tryd.underlying60 Tryd.underlying5 Tryd.underlying9 (fun j hj => by
    have hj' : j < l.length := by simpa using hj
    have e : (⟨w.heap.size, 0, none⟩ : Addr).add j = ⟨w.heap.size, j, none⟩ := by unfold Addr.add; simp; omega
    rw [e]
    refine (cell_row (alloc_new w _) (i := j) (v := .int .u8 l[j]) (by simp [hj'])).trans ?_
    have := hl l[j] (List.getElem_mem hj')
    simp
    omega)
  rw [List.length_map] at this
  exact this

set_option maxHeartbeats 4000000 in
set_option maxRecDepth 1000000 in
theorem rText_c (c : Int) (w : World) (hc : isC c = true) : Calls Tryd.prog 41 #[.int .i64 c] w fun e w' => e = .returned (.string (txt (Lib.encodeRune c))) ∧ Below w.heap.size w w' := by
  have hr : 0 ≤ c ∧ c ≤ 1114111 ∧ (c < 55296 ∨ 57343 < c) := by simpa [isC] using hc
  obtain ⟨r0, r1, r2⟩ := hr
  clear hc
  by_cases h1 : c < 128
  · have hE : Hid (Lib.encodeRune c = [c].map fun x => x.toNat.toUInt8) := by show Lib.encodeRune c = _; rw [Lib.encodeRune, Lib.encodeRuneZ_one r0 (by omega)]
    have hcv := conv_new w [c] (by simp; omega)
    have w1 : IntKind.wrap .u8 c = c := by rw [IntKind.wrap_u8]; omega
    simp only [List.map_cons, List.map_nil, List.length_cons, List.length_nil] at hcv hE
    clear r2
    go_enter Tryd.func41, Tryd.ntmps41
    go_wp2
    go_ret
    rw [hE.out]
    exact ⟨rfl, (Below.refl _ w).alloc (Nat.le_refl _) _⟩
  by_cases h2 : c < 2048
  · have hE : Hid (Lib.encodeRune c = [192 + c / 64, 128 + c % 64].map fun x => x.toNat.toUInt8) := by show Lib.encodeRune c = _; rw [Lib.encodeRune, Lib.encodeRuneZ_two (by omega) (by omega)]
    have hcv := conv_new w [192 + c / 64, 128 + c % 64] (by simp; omega)
    have q1 : c.tdiv 64 = c / 64 := Int.tdiv_eq_ediv_of_nonneg r0
    have q2 : c.tmod 64 = c % 64 := Int.tmod_eq_emod_of_nonneg r0
    have v1 : IntKind.wrap .i64 (c / 64) = c / 64 := wrap_small _ (by omega) (by omega)
    have v2 : IntKind.wrap .i64 (192 + c / 64) = 192 + c / 64 := wrap_small _ (by omega) (by omega)
    have v3 : IntKind.wrap .u8 (192 + c / 64) = 192 + c / 64 := by rw [IntKind.wrap_u8]; omega
    have v4 : IntKind.wrap .i64 (c % 64) = c % 64 := wrap_small _ (by omega) (by omega)
    have v5 : IntKind.wrap .i64 (128 + c % 64) = 128 + c % 64 := wrap_small _ (by omega) (by omega)
    have v6 : IntKind.wrap .u8 (128 + c % 64) = 128 + c % 64 := by rw [IntKind.wrap_u8]; omega
    simp only [List.map_cons, List.map_nil, List.length_cons, List.length_nil] at hcv hE
    clear r2
    go_enter Tryd.func41, Tryd.ntmps41
    go_wp2
    go_ret
    rw [hE.out]
    exact ⟨rfl, (Below.refl _ w).alloc (Nat.le_refl _) _⟩
  have v4 : IntKind.wrap .i64 (c % 64) = c % 64 := wrap_small _ (by omega) (by omega)
  have v5 : IntKind.wrap .i64 (128 + c % 64) = 128 + c % 64 := wrap_small _ (by omega) (by omega)
  have v6 : IntKind.wrap .u8 (128 + c % 64) = 128 + c % 64 := by rw [IntKind.wrap_u8]; omega
  have q1 : c.tdiv 64 = c / 64 := Int.tdiv_eq_ediv_of_nonneg r0
  have q2 : c.tmod 64 = c % 64 := Int.tmod_eq_emod_of_nonneg r0
  have q3 : c.tdiv 4096 = c / 4096 := Int.tdiv_eq_ediv_of_nonneg r0
  have q4 : (c / 64).tmod 64 = c / 64 % 64 := Int.tmod_eq_emod_of_nonneg (by omega)
  have u1 : IntKind.wrap .i64 (c / 64) = c / 64 := wrap_small _ (by omega) (by omega)
  have u2 : IntKind.wrap .i64 (c / 4096) = c / 4096 := wrap_small _ (by omega) (by omega)
  have u3 : IntKind.wrap .i64 (c / 64 % 64) = c / 64 % 64 := wrap_small _ (by omega) (by omega)
  have u4 : IntKind.wrap .i64 (128 + c / 64 % 64) = 128 + c / 64 % 64 := wrap_small _ (by omega) (by omega)
  have u5 : IntKind.wrap .u8 (128 + c / 64 % 64) = 128 + c / 64 % 64 := by rw [IntKind.wrap_u8]; omega
  by_cases h3 : c < 65536
  · have hE : Hid (Lib.encodeRune c = [224 + c / 4096, 128 + c / 64 % 64, 128 + c % 64].map fun x => x.toNat.toUInt8) := by show Lib.encodeRune c = _; rw [Lib.encodeRune, Lib.encodeRuneZ_three (by omega)]
    have hcv := conv_new w [224 + c / 4096, 128 + c / 64 % 64, 128 + c % 64] (by simp; omega)
    have u6 : IntKind.wrap .i64 (224 + c / 4096) = 224 + c / 4096 := wrap_small _ (by omega) (by omega)
    have u7 : IntKind.wrap .u8 (224 + c / 4096) = 224 + c / 4096 := by rw [IntKind.wrap_u8]; omega
    simp only [List.map_cons, List.map_nil, List.length_cons, List.length_nil] at hcv hE
    clear r2
    go_enter Tryd.func41, Tryd.ntmps41
    go_wp2
    go_ret
    rw [hE.out]
    exact ⟨rfl, (Below.refl _ w).alloc (Nat.le_refl _) _⟩
  · have hE : Hid (Lib.encodeRune c = [240 + c / 262144, 128 + c / 4096 % 64, 128 + c / 64 % 64, 128 + c % 64].map fun x => x.toNat.toUInt8) := by show Lib.encodeRune c = _; rw [Lib.encodeRune, Lib.encodeRuneZ_four (by omega) (by omega)]
    have hcv := conv_new w [240 + c / 262144, 128 + c / 4096 % 64, 128 + c / 64 % 64, 128 + c % 64] (by simp; omega)
    have q5 : c.tdiv 262144 = c / 262144 := Int.tdiv_eq_ediv_of_nonneg r0
    have q6 : (c / 4096).tmod 64 = c / 4096 % 64 := Int.tmod_eq_emod_of_nonneg (by omega)
    have u6 : IntKind.wrap .i64 (c / 262144) = c / 262144 := wrap_small _ (by omega) (by omega)
    have u7 : IntKind.wrap .i64 (240 + c / 262144) = 240 + c / 262144 := wrap_small _ (by omega) (by omega)
    have u8 : IntKind.wrap .u8 (240 + c / 262144) = 240 + c / 262144 := by rw [IntKind.wrap_u8]; omega
    have u9 : IntKind.wrap .i64 (c / 4096 % 64) = c / 4096 % 64 := wrap_small _ (by omega) (by omega)
    have u10 : IntKind.wrap .i64 (128 + c / 4096 % 64) = 128 + c / 4096 % 64 := wrap_small _ (by omega) (by omega)
    have u11 : IntKind.wrap .u8 (128 + c / 4096 % 64) = 128 + c / 4096 % 64 := by rw [IntKind.wrap_u8]; omega
    simp only [List.map_cons, List.map_nil, List.length_cons, List.length_nil] at hcv hE
    clear r2
    go_enter Tryd.func41, Tryd.ntmps41
    go_wp2
    go_ret
    rw [hE.out]
    exact ⟨rfl, (Below.refl _ w).alloc (Nat.le_refl _) _⟩
end Go.Proofs.YtihmnibopeljaaaDoor
