/-
  What Drop and Clear do.
-/
import Derived.Test.YtmfljfedpdipiaaDrop
namespace Go.Proofs.Ytmfljfedpdipiaa
open Go Go.RowKit
attribute [local go_sem] ext_cell

/-- How many entries Drop leaves. -/
def dropC (c : Nat) (x : Option Int) : Nat := if x.isSome then c - 1 else c
set_option maxRecDepth 100000 in
set_option maxHeartbeats 4000000 in
theorem drop_c {w : World} {b pb W M : Nat} {P : Pl} {m : List Int → Option Int} (h : TM w b pb W M P m) {v : Value} {k : List Int} (hz : ArgI w v k) :
    Calls Try.prog 14 #[.pointer (some ⟨b, 0, none⟩), v] w fun e w' => e = .returned (.bool (m k).isSome) ∧ ∃ P', TM w' b pb W M P' (upd m k none) ∧ cnt P' = dropC (cnt P) (m k) ∧ P'.length = P.length ∧ Stay w.heap.size b pb P pb P' ∧ Fr (own2 b pb) w w' := by
  have H : Hid (TM w b pb W M P m) := h
  have HC : Hid (Calls Try.prog 20 #[.pointer (some ⟨b, 0, none⟩), v] w fun e w' => ∃ a th, e = .returned (.tuple #[.int .i64 (a : Nat), .bool th]) ∧ Found P W k a th ∧ Below w.heap.size w w') := find_c h.t h.p hz
  clear h hz
  go_enter Try.func14, Try.ntmps14
  go_upto_region 2 with (go_at_call 20; refine HC.out.mono ?_; rintro e w1 ⟨a, th, rfl, hf, hb⟩; have B1 : Hid (Below w.heap.size w w1) := hb; clear hb; have HF : Hid (Found P W k a th) := hf; clear hf)
  cases th
  · have HN : Hid (m k = none) := HF.out.gone H.out.m (fun i e hi => (H.out.t.hk i e hi).2)
    go_wp2
    go_ret
    refine ⟨by rw [HN.out]; rfl, P, ?_, by rw [HN.out]; rfl, rfl, Stay.refl _ _ _ _, Fr.of_below B1.out⟩
    have : upd m k none = m := by funext k'; unfold upd; split <;> simp_all [HN.out]
    rw [this]
    exact H.out.kept B1.out
  · obtain ⟨e, he, hk, hmk⟩ := HF.out.here H.out.m
    have HN : Hid (m k = some e.val ∧ e.key = k ∧ P[a]? = some (some e)) := ⟨hmk, hk, he⟩
    have T1 : Hid (TB w1 b pb W M (cnt P) P) := H.out.t.kept B1.out
    have MD : Hid (Maps (P.set a none) (upd m e.key none)) := H.out.m.drop (H.out.p (ne_nil_get he)) he
    have hc0 : 0 < cnt P := by have := cnt_set (y := none) he; simp at this; omega
    have hcM := H.out.few
    have hM := H.out.t.hM
    have HFR : Hid (Calls Try.prog 22 #[.pointer (some ⟨b, 0, none⟩), .int .i64 a] w1 fun e' w' => e' = .returned (.tuple #[]) ∧ ∃ Q, TB w' b pb W M (cnt P) Q ∧ Probe (hmN Q.length) Q ∧ Maps Q (upd m e.key none) ∧ cnt Q + 1 = cnt P ∧ Q.length = P.length ∧ (∀ k, kblk Q k → kblk P k) ∧ Fr (fun k => k = pb) w1 w') := free_c T1.out (H.out.p (ne_nil_get he)) he MD.out
    clear hmk hk he
    go_wp2_with (go_at_call 22; refine HFR.out.mono ?_; rintro e5 w5 ⟨rfl, Q, hT, hP, hM5, hC, hN5, hK, hF5⟩; have TQ : Hid (TB w5 b pb W M (cnt P) Q) := hT; have PQ : Hid (Probe (hmN Q.length) Q) := hP; have MQ : Hid (Maps Q (upd m e.key none)) := hM5; have CQ : Hid (cnt Q + 1 = cnt P) := hC; have NQ : Hid (Q.length = P.length) := hN5; have KQ : Hid (∀ k, kblk Q k → kblk P k) := hK; have FQ : Hid (Fr (own2 b pb) w w5) := (Fr.of_below B1.out).trans (hF5.mono fun _ q => .inr q); clear hT hP hM5 hC hN5 hK hF5; have c2 := TQ.out.c2; have f2 := TQ.out.frb 2)
    go_ret
    obtain ⟨hmk, hk, he⟩ := HN.out
    refine ⟨by rw [hmk]; rfl, Q, ⟨?_, fun _ => PQ.out, ?_, ?_⟩, ?_, NQ.out, ⟨.inl rfl, fun j hj => .inl (KQ.out j hj)⟩, FQ.out.setCell (.inl rfl) _⟩
    · have := TQ.out.count (cnt Q)
      have hc := CQ.out
      rw [show ((cnt Q : Nat) : Int) = (cnt P : Int) - 1 by omega] at this
      exact this
    · rw [← hk]; exact MQ.out
    · have := CQ.out; omega
    · rw [hmk]; have := CQ.out; unfold dropC; simp; omega

theorem run_clear_places (w : World) (ty : TypeId) (pb n c : Nat) (cur : Array Value) (hg : w.heap[pb]? = some (.cells cur 62 (0, 0))) (hs : cur.size = n * 3) (hn : 0 < n) :
    (Builtin.clear_ #[56] ty #[.slice (some ⟨pb, 0, none⟩) n c]).run Try.prog w = .ok (.tuple #[]) (w.setRow pb (cellsP (List.replicate n none)).toArray) := by
  obtain ⟨i0, hi, hz0, hz1, hz2⟩ := info_parts size_place
  have hzv : (zeroValue 62).run Try.prog w = .ok (.agg #[.slice none 0 0, .int .i64 0, .bool false]) w := by
    simp [zeroValue, typeInfo, hi, hz0]
  have hzc : (Builtin.zeroCells (Value.agg #[.slice none 0 0, .int .i64 0, .bool false]).cells n) = (cellsP (List.replicate n none)).toArray := by
    rw [← made_places]
    rfl
  have h1 : ∀ v ∈ cellsP (List.replicate n none), v.oneCell' = true := by
    intro v hv
    obtain ⟨i, hv⟩ := List.getElem?_of_mem hv
    have hil : i < n * 3 := by have := (List.getElem?_eq_some_iff.1 hv).1; rw [cellsP_length, List.length_replicate] at this; omega
    have e := cellsP_get (P := List.replicate n none) (i := i / 3) (x := none) (by rw [List.getElem?_replicate, if_pos (by omega)]) (i % 3) (Nat.mod_lt _ (by decide))
    rw [show i / 3 * 3 + i % 3 = i by omega, hv] at e
    have h3 : i % 3 < 3 := Nat.mod_lt _ (by decide)
    generalize i % 3 = j at h3 e
    match j, h3 with
    | 0, _ => cases e; rfl
    | 1, _ => cases e; rfl
    | 2, _ => cases e; rfl
  have hst := run_storeCells_at Try.prog pb 0 62 (cellsP (List.replicate n none)) 0 cur w hg (by rw [cellsP_length, List.length_replicate]; omega) h1
  have hcs : cur.toList.take (0 + 0) ++ cellsP (List.replicate n none) ++ cur.toList.drop (0 + 0 + (cellsP (List.replicate n none)).length) = cellsP (List.replicate n none) := by
    rw [cellsP_length, List.length_replicate, List.drop_of_length_le (by simp; omega)]
    simp
  rw [hcs] at hst
  obtain ⟨q, rfl⟩ : ∃ q, n = q + 1 := ⟨n - 1, by omega⟩
  simp [Builtin.clear_, run_underlying und_places, hzv, hzc, hst]

theorem no_kblk (n : Nat) {k : Nat} (h : kblk (List.replicate n none) k) : False := by
  obtain ⟨i, e, o, nn, mm, hi, _⟩ := h
  rw [List.getElem?_replicate] at hi
  split at hi <;> cases hi
theorem maps_bare (n : Nat) : Maps (List.replicate n none) (fun _ => none) := fun k v => by
  constructor
  · intro h; cases h
  · rintro ⟨i, e, hi, _⟩
    rw [List.getElem?_replicate] at hi
    split at hi <;> cases hi
theorem cnt_bare (n : Nat) : cnt (List.replicate n none) = 0 := by simp [cnt, List.countP_replicate]

/-- How many places Clear leaves. -/
def clrN (n : Nat) : Nat := if n ≤ 16 then n else 0
set_option maxRecDepth 100000 in
set_option maxHeartbeats 4000000 in
theorem clear_c {w : World} {b pb W M : Nat} {P : Pl} {m : List Int → Option Int} (h : TM w b pb W M P m) :
    Calls Try.prog 32 #[.pointer (some ⟨b, 0, none⟩)] w fun e w' => e = .returned (.tuple #[]) ∧ TM w' b pb W M (List.replicate (clrN P.length) none) (fun _ => none) ∧ Fr (own2 b pb) w w' := by
  have T : Hid (TB w b pb W M (cnt P) P) := h.t
  have c2 := h.t.c2
  have f2 := h.t.frb 2
  have T1 : Hid (TB (w.setCell ⟨b, 2, none⟩ (.int .i64 0)) b pb W M 0 P) := h.t.count 0
  have c31 := T1.out.c3
  have f31 := T1.out.frb 3
  have F1 : Hid (Fr (own2 b pb) w (w.setCell ⟨b, 2, none⟩ (.int .i64 0))) := (Fr.refl _ w).setCell (p := ⟨b, 2, none⟩) (.inl rfl) _
  have hW := h.t.hW
  have hM := h.t.hM
  clear h
  have hcl : ∀ ty W, (Builtin.clear_ #[56] ty #[.slice none 0 0]).run Try.prog W = .ok (.tuple #[]) W := fun ty W => by simp [Builtin.clear_, run_underlying und_places]
  by_cases hP : P = []
  · subst hP
    have c3 : (w.setCell ⟨b, 2, none⟩ (.int .i64 0)).cell? ⟨b, 3, none⟩ = some (.slice none 0 0) := c31
    clear c31 f31
    go_enter Try.func32, Try.ntmps32
    go_wp2
    go_end0
    exact ⟨rfl, ⟨T1.out, fun q => absurd rfl q, maps_bare 0, Nat.zero_le _⟩, F1.out⟩
  · have NE : Hid (P ≠ []) := hP
    have c3 := T1.out.c3p hP
    have hpow := T1.out.pow hP
    have HPB : Hid (pb ≠ b ∧ (w.setCell ⟨b, 2, none⟩ (.int .i64 0)).heap[pb]? = some (.cells (cellsP P).toArray 62 (0, 0))) := ⟨Ne.symm (T1.out.bp hP), T1.out.hp hP⟩
    clear c31 hP
    by_cases h16 : P.length ≤ 16
    · have i1 : (P.length : Int) ≤ 16 := by omega
      have HN : Hid (clrN P.length = P.length) := if_pos h16
      have hcp := fun ty => run_clear_places (w.setCell ⟨b, 2, none⟩ (.int .i64 0)) ty pb P.length P.length _ HPB.out.2 (by simp [cellsP_length]; omega) (by omega)
      clear h16 hcl
      go_enter Try.func32, Try.ntmps32
      go_wp2
      go_end0
      rw [HN.out]
      have hfr := Fr.setRow (S := fun k => k = pb) (Fr.refl _ (w.setCell ⟨b, 2, none⟩ (.int .i64 0))) (g := pb) rfl (cellsP (List.replicate P.length none)).toArray
      refine ⟨rfl, ⟨?_, fun _ => ?_, maps_bare _, by rw [cnt_bare]; omega⟩, F1.out.setRow (.inr rfl) _⟩
      · rw [cnt_bare]
        refine ⟨?_, fun _ => setRow_heap _ _ _ _ _ _ HPB.out.2, fun i e hi => ?_, fun _ => by rw [List.length_replicate]; exact T1.out.hn NE.out, hW, hM⟩
        · rw [List.length_replicate]
          exact (hfr.block b T1.out.ltb (Ne.symm HPB.out.1)).trans T1.out.hb
        · rw [List.getElem?_replicate] at hi
          split at hi <;> cases hi
      · rw [List.length_replicate]
        exact Probe.bare _ (by omega)
    · have i1 : ¬ ((P.length : Int) ≤ 16) := by omega
      have HN : Hid (clrN P.length = 0) := if_neg h16
      clear h16
      go_enter Try.func32, Try.ntmps32
      go_wp2
      go_end0
      rw [HN.out]
      refine ⟨rfl, ⟨⟨?_, fun q => absurd rfl q, fun i e hi => by simp at hi, fun q => absurd rfl q, hW, hM⟩, fun q => absurd rfl q, maps_bare _, Nat.zero_le _⟩, F1.out.setCell (.inl rfl) _⟩
      have := heap_set_in T1.out.hb 3 (.slice none 0 0)
      simpa [plV, cnt] using this
end Go.Proofs.Ytmfljfedpdipiaa
