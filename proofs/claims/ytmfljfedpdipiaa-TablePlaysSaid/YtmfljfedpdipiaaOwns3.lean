/-
  The keys that came out: owns, kept.
-/
import Derived.Test.YtmfljfedpdipiaaDoes5
import Derived.Maps.AppendAt
namespace Go.Proofs.Ytmfljfedpdipiaa
open Go Go.RowKit Go.Shelf
attribute [local go_sem] Oper.semAt_some ext_cell

theorem und_lists : Try.prog.underlying 32 = some (.slice 44) := by kernel_rfl
theorem size_list : (Try.prog.info? 44).map (fun i => (i.zero, i.size, i.bytes)) = some (some (.slice none 0 0), 1, 24) := by kernel_rfl
/-- The mark of the i-th key. -/
def marked (i n : Nat) : List Int := List.replicate n (-9 - (i : Int))
/-- The keys that came out: each written full with its own mark. -/
structure OutAt (n0 : Nat) (W : World) (ov : Value) (vs : List Value) : Prop where
  row : W.ownsRow n0 44 1 ov vs.length vs
  lists : ∀ (i : Nat) (v : Value), vs[i]? = some v → ∃ n, n ≤ 1000 ∧ W.ownsRow n0 3 1 v n (ints (marked i n))
theorem row_set {W : World} {base g n cap : Nat} {t : TypeId} {xs : List Value} (h : W.ownsRow base t 1 (.slice (some ⟨g, 0, none⟩) n cap) n xs) (i : Nat) (x : Value) : (W.setCell ⟨g, i, none⟩ x).ownsRow base t 1 (.slice (some ⟨g, 0, none⟩) n cap) n (xs.set i x) := by
  obtain ⟨h1, h2⟩ := h
  refine ⟨by simpa using h1, ?_⟩
  rcases h2 with ⟨h0, _⟩ | ⟨g', cap', cur, e, h3, h4, h5, h6, h7, h8⟩
  · cases h0
  · cases e
    refine .inr ⟨g, cap, cur.setIfInBounds i x, rfl, h3, heap_set_in h4 _ _, h5, h6, by simp [h7], ?_⟩
    rw [Array.toList_setIfInBounds, List.take_set, h8]
theorem row_cell {W : World} {base g n cap : Nat} {t : TypeId} {xs : List Value} (h : W.ownsRow base t 1 (.slice (some ⟨g, 0, none⟩) n cap) n xs) {i : Nat} {v : Value} (hv : xs[i]? = some v) : W.cell? ⟨g, i, none⟩ = some v ∧ W.frozen? ⟨g, i, none⟩ = false := by
  have hi : i < xs.length := (List.getElem?_eq_some_iff.1 hv).1
  obtain ⟨h1, ⟨h0, _⟩ | ⟨g', cap', cur, e, h3, h4, h5, h6, h7, h8⟩⟩ := h
  · cases h0
  · cases e
    refine ⟨?_, by simp [World.frozen?, h4]⟩
    have e := hv
    rw [← h8, List.getElem?_take_of_lt (by omega)] at e
    have : cur[i]? = some v := by simpa using e
    simp [World.cell?, h4, this]
theorem rep_set (j : Nat) (m : Int) (A : List Int) (h : j < A.length) : (List.replicate j m ++ A.drop j).set j m = List.replicate (j + 1) m ++ A.drop (j + 1) := by
  rw [List.set_append_right _ _ (by simp), List.length_replicate, Nat.sub_self, List.drop_eq_getElem_cons h, List.set_cons_zero, List.replicate_succ', List.append_assoc]
  rfl
theorem rep_get (j : Nat) (m : Int) (A : List Int) (h : j < A.length) : (List.replicate j m ++ A.drop j)[j]? = some A[j] := by
  rw [List.getElem?_append_right (by simp), List.length_replicate, Nat.sub_self, List.drop_eq_getElem_cons h]; rfl
theorem ints_set (l : List Int) (i : Nat) (x : Int) : ints (l.set i x) = (ints l).set i (.int .i64 x) := by simp [ints]

set_option maxRecDepth 100000 in
set_option maxHeartbeats 2000000 in
theorem kept_c {n0 : Nat} {w : World} {wb : Nat} {ov : Value} {vs : List Value} (c6 : w.cell? ⟨wb, 6, none⟩ = some ov) (h : OutAt n0 w ov vs) (hlen : vs.length ≤ 100000000000) :
    Calls Try.prog 10 #[.pointer (some ⟨wb, 0, none⟩)] w fun e w' => e = .returned (.bool true) ∧ w' = w := by
  have H : Hid (OutAt n0 w ov vs) := h
  obtain ⟨q, cap, rfl⟩ := ownsRow_shape h.row
  clear h
  go_enter Try.func10, Try.ntmps10
  go_wp2
  go_loopw [3] (fun i wr => ∃ k : Nat, k ≤ vs.length ∧ i = .int .i64 k ∧ wr = w) (fun i _ => vs.length - (intOf i).toNat)
  case atStart => exact ⟨0, Nat.zero_le _, rfl, rfl⟩
  case round =>
    obtain ⟨k, hk, rfl, rfl⟩ := hrel
    by_cases hlt : k < vs.length
    · obtain ⟨v, hv⟩ : ∃ v, vs[k]? = some v := ⟨_, List.getElem?_eq_getElem hlt⟩
      obtain ⟨g, c, e⟩ := ownsRow_some H.out.row (fun e => by injection e with _ e _; omega)
      injection e with e1 _ _
      subst e1
      have hc := (row_cell H.out.row hv).1
      obtain ⟨n, hn, hown⟩ := H.out.lists k v hv
      obtain ⟨q2, cap2, rfl⟩ := ownsRow_shape hown
      have O : Hid (wr.ownsRow n0 3 1 (.slice q2 n cap2) n (ints (marked k n))) := hown
      clear hown hv
      have i0 : (0 : Int) ≤ (k : Int) := by omega
      have i1 : (k : Int) < (vs.length : Int) := by omega
      go_wp2
      go_loopw [4] (fun i wx => ∃ j : Nat, j ≤ n ∧ i = .int .i64 j ∧ wx = wr) (fun i _ => n - (intOf i).toNat)
      case atStart => exact ⟨0, Nat.zero_le _, rfl, rfl⟩
      case round =>
        rename_i wr0 _
        obtain ⟨j, hj, rfl, rfl⟩ := hrel
        by_cases hjn : j < n
        · have hx : (ints (marked k n))[j]? = some (.int .i64 (-9 - (k : Int))) := ints_get (by simp [marked, hjn])
          obtain ⟨g2, c2, e2⟩ := ownsRow_some O.out (fun e => by injection e with _ e _; omega)
          injection e2 with e2 _ _
          subst e2
          have hc2 := (row_cell O.out hx).1
          have j0 : (0 : Int) ≤ (j : Int) := by omega
          have j1 : (j : Int) < (n : Int) := by omega
          have hwr : IntKind.i64.wrap (-9 - (k : Int)) = -9 - (k : Int) := by rw [IntKind.wrap_i64]; omega
          go_wp2
          go_roundw
          case rel => exact ⟨j + 1, by omega, by go_num, trivial⟩
          case measure => simp [intOf]; omega
        · have j1 : ¬ ((j : Int) < (n : Int)) := by omega
          go_wp2
          go_roundw
          case rel => exact ⟨k + 1, by omega, by go_num, trivial⟩
          case measure => simp [intOf]; omega
    · have i1 : ¬ ((k : Int) < (vs.length : Int)) := by omega
      go_wp2
      go_ret
      exact ⟨rfl, rfl⟩
end Go.Proofs.Ytmfljfedpdipiaa
