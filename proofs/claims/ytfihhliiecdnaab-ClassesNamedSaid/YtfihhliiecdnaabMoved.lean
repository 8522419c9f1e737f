/-
  moved, Fold: letters in both cases.
-/
import Derived.Test.YtfihhliiecdnaabApi
namespace Go.Proofs.Ytfihhliiecdnaab
open Go Go.RowKit

theorem rr_of {base : Nat} {w : World} {n : Nat} {v : Value} {L : List (Int × Int)} (h : w.ownsRow base 33 2 v n (cellsR L)) (hn : L.length = n) : RR base w v L := by subst hn; exact h
/-- The first k ranges are moved. -/
def shK (C : List (Int × Int)) (k : Nat) (d : Int) : List (Int × Int) := C.mapIdx fun i r => if i < k then (r.1 + d, r.2 + d) else r
theorem shK_zero (C : List (Int × Int)) (d : Int) : shK C 0 d = C := by
  unfold shK
  apply List.ext_getElem
  · simp
  · intro i h1 h2; simp
theorem shK_length (C : List (Int × Int)) (k : Nat) (d : Int) : (shK C k d).length = C.length := by simp [shK]
theorem shK_get {C : List (Int × Int)} {k : Nat} {r : Int × Int} (h : C[k]? = some r) (d : Int) : (shK C k d)[k]? = some r := by
  simp [shK, h]
theorem shK_set {C : List (Int × Int)} {k : Nat} {r : Int × Int} (h : C[k]? = some r) (d : Int) : (shK C k d).set k (r.1 + d, r.2 + d) = shK C (k + 1) d := by
  obtain ⟨hk, rfl⟩ := List.getElem?_eq_some_iff.1 h
  unfold shK
  apply List.ext_getElem
  · simp
  · intro i h1 h2
    rw [List.getElem_set]
    simp only [List.getElem_mapIdx]
    by_cases hik : k = i
    · subst hik; simp
    · rw [if_neg hik]
      by_cases q : i < k
      · rw [if_pos q, if_pos (by omega)]
      · rw [if_neg q, if_neg (by omega)]
theorem shK_all (C : List (Int × Int)) (d : Int) : shK C C.length d = C.map fun r => (r.1 + d, r.2 + d) := by
  unfold shK
  apply List.ext_getElem
  · simp
  · intro i h1 h2
    simp only [List.length_mapIdx] at h1
    simp [h1]
theorem in_map_shift (C : List (Int × Int)) (d c : Int) : In (C.map fun r => (r.1 + d, r.2 + d)) c ↔ In C (c - d) := by
  unfold In
  constructor
  · rintro ⟨r, hr, h1, h2⟩
    obtain ⟨x, hx, rfl⟩ := List.mem_map.1 hr
    exact ⟨x, hx, by simp only at h1 h2; omega, by simp only at h1 h2; omega⟩
  · rintro ⟨r, hr, h1, h2⟩
    exact ⟨_, List.mem_map.2 ⟨r, hr, rfl⟩, by simp only; omega, by simp only; omega⟩

set_option maxRecDepth 100000 in
set_option maxHeartbeats 1000000 in
theorem moved_c {w : World} {v : Value} {L : List (Int × Int)} {a b d : Int} (h : ArgR w v L) (hF : Fit L) (hl : L.length + 2 ≤ 8796093022208) (h0 : 65 ≤ a) (hab : a ≤ b) (h1 : b ≤ 122) (hd1 : -32 ≤ d) (hd2 : d ≤ 32) :
    Calls Try.prog 21 #[v, .agg #[.int .i64 a, .int .i64 b], .int .i64 d] w fun e w' => ∃ v' D, e = .returned v' ∧ RR w.heap.size w' v' D ∧ Fit D ∧ (∀ c, In D c ↔ In L (c - d) ∧ a ≤ c - d ∧ c - d ≤ b) ∧ D.length ≤ L.length + 1 ∧ Below w.heap.size w w' := by
  have H : Hid (ArgR w v L ∧ Fit L) := ⟨h, hF⟩
  have FB : Hid (Fit [(a, b)]) := fit_one (by omega)
  have B2 : Hid (Below w.heap.size w ((w.alloc (.cells #[.int .i64 a, .int .i64 b] 33)).alloc (.cells #[.int .i64 a, .int .i64 b] 33))) := ((Below.refl _ _).alloc (Nat.le_refl _) _).alloc (by simp) _
  have AB : Hid (ArgR ((w.alloc (.cells #[.int .i64 a, .int .i64 b] 33)).alloc (.cells #[.int .i64 a, .int .i64 b] 33)) (.slice (some ⟨w.heap.size + 1, 0, none⟩) 1 1) [(a, b)]) := hide <| by
    have : RR w.heap.size ((w.alloc (.cells #[.int .i64 a, .int .i64 b] 33)).alloc (.cells #[.int .i64 a, .int .i64 b] 33)) (.slice (some ⟨(w.alloc (.cells #[.int .i64 a, .int .i64 b] 33)).heap.size, 0, none⟩) 1 1) [(a, b)] := World.ownsRow_lit _ #[.int .i64 a, .int .i64 b] 1 (by simp) (by unfold maxLen; omega) rfl
    simpa using this.arg
  clear h hF
  go_enter Try.func21, Try.ntmps21
  go_wp2_with (go_at_call 27; refine (and_c (H.out.1.kept B2.out) AB.out H.out.2 FB.out (by simp; omega)).mono ?_; rintro e w5 ⟨v5, C, rfl, p1, p2, p3, p4⟩; obtain ⟨q5, c5, rfl⟩ := p1.shape; have X5 : Hid (RR w.heap.size w5 (.slice q5 C.length c5) C ∧ IsC C (fun c => In L c ∧ In [(a, b)] c) ∧ C.length ≤ L.length + 1 ∧ Below w.heap.size w w5) := ⟨p1.mono B2.out.size, p2, p3, chain B2.out p4 (Nat.le_refl _)⟩; clear p1 p2 p3 p4)
  have hcl := X5.out.2.2.1
  have BD : Hid (∀ (i : Nat) (r : Int × Int), C[i]? = some r → (a ≤ r.1 ∧ r.1 ≤ b) ∧ (a ≤ r.2 ∧ r.2 ≤ b)) := fun i r hr => by
    have hm := List.mem_of_getElem? hr
    have hs := X5.out.2.1.cls.some r hm
    have p := ((X5.out.2.1.mem r.1).1 ⟨r, hm, Int.le_refl _, hs⟩).2
    have q := ((X5.out.2.1.mem r.2).1 ⟨r, hm, hs, Int.le_refl _⟩).2
    rw [in_one] at p q
    exact ⟨p, q⟩
  go_loopw [15] (fun i wr => ∃ k : Nat, k ≤ C.length ∧ i = .int .i64 k ∧ RR w.heap.size wr (.slice q5 C.length c5) (shK C k d) ∧ Below w.heap.size w wr) (fun i _ => C.length - (intOf i).toNat)
  case atStart => exact ⟨0, Nat.zero_le _, rfl, by rw [shK_zero]; exact X5.out.1, X5.out.2.2.2⟩
  case round =>
    obtain ⟨k, hk, rfl, hrr, hb⟩ := hrel
    have RK : Hid (RR w.heap.size wr (.slice q5 C.length c5) (shK C k d)) := hrr
    have B : Hid (Below w.heap.size w wr) := hb
    clear hrr hb
    by_cases hlt : k < C.length
    · obtain ⟨r, hr⟩ : ∃ r, C[k]? = some r := ⟨_, List.getElem?_eq_getElem hlt⟩
      have hbd := BD.out k r hr
      have OW : Hid (wr.ownsRow w.heap.size 33 2 (.slice q5 C.length c5) C.length (cellsR (shK C k d))) := hide (by have := RK.out; unfold RR at this; rwa [shK_length] at this)
      obtain ⟨g, c', e⟩ := ownsRow_some OW.out (by omega)
      cases e
      obtain ⟨z1, z2⟩ := cellsR_get _ k r (shK_get hr d)
      have d1 := ownsRow_cell OW.out z1
      have d2 := ownsRow_cell OW.out z2
      rw [Nat.mul_comm] at d1 d2
      have f1 := OW.out.frozenAt (k * 2)
      have f2 := OW.out.frozenAt (k * 2 + 1)
      have O2 : Hid ((((wr.setCell ⟨g, k * 2, none⟩ (.int .i64 (r.1 + d))).setCell ⟨g, k * 2 + 1, none⟩ (.int .i64 (r.2 + d)))).ownsRow w.heap.size 33 2 (.slice (some ⟨g, 0, none⟩) C.length c5) C.length (cellsR (shK C (k + 1) d))) := hide (by
        have := ((OW.out.stored (k * 2) (.int .i64 (r.1 + d))).1.stored (k * 2 + 1) (.int .i64 (r.2 + d))).1
        rwa [cellsR_set, shK_set hr] at this)
      have hgb := (ownsRow_at OW.out rfl).1
      have hgs := (ownsRow_at OW.out rfl).2.1
      have FB2 : Hid (Below w.heap.size w ((wr.setCell ⟨g, k * 2, none⟩ (.int .i64 (r.1 + d))).setCell ⟨g, k * 2 + 1, none⟩ (.int .i64 (r.2 + d)))) := (B.out.setCell (p := ⟨g, k * 2, none⟩) hgb _).setCell (p := ⟨g, k * 2 + 1, none⟩) hgb _
      obtain ⟨r1, r2⟩ := r
      dsimp only at d1 d2 hbd
      have w1 : IntKind.wrap .i64 (r1 + d) = r1 + d := by rw [IntKind.wrap_i64]; omega
      have w2 : IntKind.wrap .i64 (r2 + d) = r2 + d := by rw [IntKind.wrap_i64]; omega
      have i0 : (0 : Int) ≤ (k : Int) := by omega
      have i1 : (k : Int) < (C.length : Int) := by omega
      clear z1 z2 hr hbd
      go_wp2
      go_roundw
      case rel => exact ⟨k + 1, by omega, by go_num, rr_of O2.out (shK_length C (k + 1) d), FB2.out⟩
      case measure => simp [intOf]; omega
    · have i1 : ¬ (k : Int) < (C.length : Int) := by omega
      obtain rfl : k = C.length := by omega
      rw [shK_all] at RK
      go_wp2
      go_ret
      refine ⟨_, rfl, _, RK.out, fun r hr => ?_, fun c => ?_, by simp; omega, B.out⟩
      · obtain ⟨x, hx, e⟩ := List.mem_map.1 hr
        subst e
        obtain ⟨i, hi⟩ := List.getElem?_of_mem hx
        have := BD.out i x hi
        simp only
        omega
      · rw [in_map_shift, X5.out.2.1.mem, in_one]
end Go.Proofs.Ytfihhliiecdnaab
