/-
  What grow does: the same entries in a list twice as long.
-/
import Derived.Test.YtmfljfedpdipiaaReads
import Derived.Test.YtmfljfedpdipiaaLast
namespace Go.Proofs.Ytmfljfedpdipiaa
open Go Go.RowKit
attribute [local go_sem] ext_cell

theorem size_place : (Try.prog.info? 62).map (fun i => (i.zero, i.size, i.bytes)) = some (some (.agg #[.slice none 0 0, .int .i64 0, .bool false]), 3, 40) := by kernel_rfl
theorem und_places : Try.prog.underlying 56 = some (.slice 62) := by kernel_rfl
theorem made_places (n : Nat) : madeCells #[.slice none 0 0, .int .i64 0, .bool false] (n * 3) = (cellsP (List.replicate n none)).toArray := by
  apply Array.ext
  · simp [madeCells, cellsP_length]; omega
  intro i h1 h2
  have hi : i < n * 3 := by simpa [madeCells] using h1
  have e := cellsP_get (P := List.replicate n none) (i := i / 3) (x := none) (by rw [List.getElem?_replicate, if_pos (by omega)]) (i % 3) (Nat.mod_lt _ (by decide))
  rw [show i / 3 * 3 + i % 3 = i by omega] at e
  have e2 : ((cellsP (List.replicate n none)).toArray)[i]? = (plC none)[i % 3]? := by simpa using e
  rw [Array.getElem?_eq_getElem h2] at e2
  have h3 : i % 3 < 3 := Nat.mod_lt _ (by decide)
  have e3 : (plC none)[i % 3]? = some (#[.slice none 0 0, .int .i64 0, .bool false][i % 3]'h3) := by
    generalize i % 3 = j at h3
    match j, h3 with
    | 0, _ => rfl
    | 1, _ => rfl
    | 2, _ => rfl
  rw [e3] at e2
  rw [Option.some.inj e2]
  simp [madeCells, h3]
theorem make_places (n : Nat) (h : n ≤ 10000000) (w : World) :
    (Instr.makeSlice 56 (.int .i64 (n : Int)) (.int .i64 (n : Int))).run Try.prog w = .ok (.slice (some ⟨w.heap.size, 0, none⟩) n n) (w.alloc (.cells (cellsP (List.replicate n none)).toArray 62)) := by
  obtain ⟨i0, hi, hz0, hz1, hz2⟩ := info_parts size_place
  have := run_make (P := Try.prog) w 56 62 i0 (.agg #[.slice none 0 0, .int .i64 0, .bool false]) und_places hi hz0 .i64 .i64 (n : Int) (n : Int) (by omega) (by omega) (by rw [hz2]; omega) (by omega)
  rw [hz1, show ((n : Int).toNat * 3) = n * 3 by simp] at this
  rw [← made_places]
  simpa [Value.cells] using this

/-- One place is written. -/
theorem TB.put3 {w : World} {b pb W M c : Nat} {P : Pl} (h : TB w b pb W M c P) {a : Nat} (ha : a < P.length) (y : Option Ent) (x0 x1 x2 : Value) (hy : plC y = [x0, x1, x2]) (hk : ∀ e, y = some e → KeyAt w e.kv e.key ∧ e.key.length = W) :
    TB (((w.setCell ⟨pb, a * 3, none⟩ x0).setCell ⟨pb, a * 3 + 1, none⟩ x1).setCell ⟨pb, a * 3 + 2, none⟩ x2) b pb W M c (P.set a y) := by
  have hP : P ≠ [] := fun e => by rw [e] at ha; simp at ha
  have hbp := h.bp hP
  have hpc := h.hp hP
  have fr : Fr (fun k => k = pb) w (((w.setCell ⟨pb, a * 3, none⟩ x0).setCell ⟨pb, a * 3 + 1, none⟩ x1).setCell ⟨pb, a * 3 + 2, none⟩ x2) :=
    (((Fr.refl (fun k => k = pb) w).setCell (p := ⟨pb, a * 3, none⟩) rfl x0).setCell (p := ⟨pb, a * 3 + 1, none⟩) rfl x1).setCell (p := ⟨pb, a * 3 + 2, none⟩) rfl x2
  have keyk : ∀ e : Ent, KeyAt w e.kv e.key → KeyAt (((w.setCell ⟨pb, a * 3, none⟩ x0).setCell ⟨pb, a * 3 + 1, none⟩ x1).setCell ⟨pb, a * 3 + 2, none⟩ x2) e.kv e.key := fun e q => q.fr fr (by
    rintro k cs rfl e
    rw [hpc] at e
    injection e with e
    injection e with _ e _
    exact absurd e (by decide))
  have hns : P.set a y ≠ [] := by simpa using hP
  refine ⟨?_, fun _ => ?_, fun i e hi => ?_, fun _ => by rw [List.length_set]; exact h.hn hP, h.hW, h.hM⟩
  · rw [List.length_set]
    exact (fr.block b h.ltb hbp).trans h.hb
  · have e1 := heap_set_in (heap_set_in (heap_set_in hpc (a * 3) x0) (a * 3 + 1) x1) (a * 3 + 2) x2
    rw [e1, cellsP_set ha, hy]
    simp
  · rw [set_get ha] at hi
    split at hi
    · cases hi
      exact ⟨keyk e (hk e rfl).1, (hk e rfl).2⟩
    · exact ⟨keyk e (h.hk i e hi).1, (h.hk i e hi).2⟩

/-- No entry at all. -/
theorem Probe.bare (n : Nat) (hn : 0 < n) : Probe (hmN n) (List.replicate n none) := by
  have no : ∀ (i : Nat) (e : Ent), (List.replicate n (none : Option Ent))[i]? = some (some e) → False := fun i e hi => by
    rw [List.getElem?_replicate] at hi
    split at hi
    · cases hi
    · cases hi
  exact ⟨fun k => by simpa using hmN_lt hn k, fun i e hi => (no i e hi).elim, fun i j e e' hi => (no i e hi).elim, by simp [cnt, List.countP_replicate]⟩

/-- Entries are those of the first k places. -/
def Moved (P : Pl) (k : Nat) (Q : Pl) : Prop := ∀ e : Ent, (∃ i : Nat, Q[i]? = some (some e)) ↔ ∃ j : Nat, j < k ∧ P[j]? = some (some e)
theorem Moved.maps {P Q : Pl} {m : List Int → Option Int} (h : Moved P P.length Q) (hm : Maps P m) : Maps Q m := fun k v => by
  rw [hm k v]
  constructor
  · rintro ⟨i, e, hi, h1, h2⟩
    obtain ⟨j, hj⟩ := (h e).2 ⟨i, get_lt hi, hi⟩
    exact ⟨j, e, hj, h1, h2⟩
  · rintro ⟨i, e, hi, h1, h2⟩
    obtain ⟨j, _, hj⟩ := (h e).1 ⟨i, hi⟩
    exact ⟨j, e, hj, h1, h2⟩
theorem Moved.skip {P Q : Pl} {k : Nat} (h : Moved P k Q) (hk : P[k]? = some none) : Moved P (k + 1) Q := fun e => by
  rw [h e]
  constructor
  · rintro ⟨j, hj, q⟩; exact ⟨j, by omega, q⟩
  · rintro ⟨j, hj, q⟩
    refine ⟨j, ?_, q⟩
    rcases Nat.lt_or_eq_of_le (Nat.le_of_lt_succ hj) with q' | rfl
    · exact q'
    · rw [hk] at q; cases q
theorem Moved.lay {P Q : Pl} {k a : Nat} {e0 : Ent} (h : Moved P k Q) (hk : P[k]? = some (some e0)) (ha : Q[a]? = some none) : Moved P (k + 1) (Q.set a (some e0)) := fun e => by
  have hal := get_lt ha
  constructor
  · rintro ⟨i, hi⟩
    rw [set_get hal] at hi
    split at hi
    · cases hi; exact ⟨k, by omega, hk⟩
    · obtain ⟨j, hj, q⟩ := (h e).1 ⟨i, hi⟩
      exact ⟨j, by omega, q⟩
  · rintro ⟨j, hj, q⟩
    rcases Nat.lt_or_eq_of_le (Nat.le_of_lt_succ hj) with q' | rfl
    · obtain ⟨i, hi⟩ := (h e).2 ⟨j, q', q⟩
      refine ⟨i, ?_⟩
      rw [set_get hal, if_neg (fun e' => by rw [e', hi] at ha; cases ha)]
      exact hi
    · rw [hk] at q
      cases q
      exact ⟨a, by rw [set_get hal, if_pos rfl]⟩
theorem Moved.new {P Q : Pl} {k : Nat} {e0 : Ent} {hm : List Int → Nat} (h : Moved P k Q) (hp : Probe hm P) (hk : P[k]? = some (some e0)) : ∀ (i : Nat) (e : Ent), Q[i]? = some (some e) → e.key ≠ e0.key := fun i e hi q => by
  obtain ⟨j, hj, hq⟩ := (h e).1 ⟨i, hi⟩
  have := hp.one j k e e0 hq hk q
  omega
theorem cnt_take_next {P : Pl} {k : Nat} {x : Option Ent} (h : P[k]? = some x) : cnt (P.take (k + 1)) = cnt (P.take k) + (if x.isSome then 1 else 0) := by
  have hl := get_lt h
  have e : P[k] = x := by rw [List.getElem?_eq_getElem hl] at h; exact Option.some.inj h
  unfold cnt
  rw [take_next P k hl, List.countP_append, e]
  cases x <;> simp
theorem cnt_le (P : Pl) : cnt P ≤ P.length := List.countP_le_length
theorem cnt_take_le (P : Pl) (k : Nat) : cnt (P.take k) ≤ cnt P := by
  unfold cnt
  exact (List.take_sublist k P).countP_le

/-- The new list, empty yet. -/
theorem TB.fresh {w : World} {b pb W M c : Nat} {P : Pl} (h : TB w b pb W M c P) (n : Nat) (hn : Pow2 n) (h0 : 0 < n) :
    TB ((w.alloc (.cells (cellsP (List.replicate n none)).toArray 62)).setCell ⟨b, 3, none⟩ (.slice (some ⟨w.heap.size, 0, none⟩) n n)) b w.heap.size W M c (List.replicate n none) := by
  have hlb := h.ltb
  refine ⟨?_, fun _ => ?_, fun i e hi => ?_, fun _ => by simpa using hn, h.hW, h.hM⟩
  · have e := plV_pos (pb := w.heap.size) (n := n) (by omega)
    rw [heap_set_in ((Below.heap_alloc _ _ _ hlb).trans h.hb), List.length_replicate, e]
    simp
  · rw [Below.heap_setCell _ _ _ _ (by simp; omega)]
    exact World.alloc_heap_new w _
  · rw [List.getElem?_replicate] at hi
    split at hi <;> cases hi

theorem pow2_next {P : Pl} {w : World} {b pb W M c : Nat} (h : TB w b pb W M c P) (hl : P.length ≤ 4000000) : Pow2 (max 16 (2 * P.length)) := by
  by_cases hP : P = []
  · subst hP; exact ⟨4, by decide, rfl⟩
  · obtain ⟨p, hp, e⟩ := h.hn hP
    rcases Nat.lt_or_ge p 4 with q | q
    · refine ⟨4, by decide, ?_⟩
      have : (2 : Nat) ^ p ≤ 2 ^ 3 := Nat.pow_le_pow_right (by decide) (by omega)
      have : (2 : Nat) ^ 3 = 8 := rfl
      have : (2 : Nat) ^ 4 = 16 := rfl
      omega
    · have h1 : (2 : Nat) ^ 4 ≤ 2 ^ p := Nat.pow_le_pow_right (by decide) q
      have h2 : (2 : Nat) ^ 4 = 16 := rfl
      have h3 : p < 23 := by
        rcases Nat.lt_or_ge p 23 with h | h
        · exact h
        · have : (2 : Nat) ^ 23 ≤ 2 ^ p := Nat.pow_le_pow_right (by decide) h
          have : (2 : Nat) ^ 23 = 8388608 := by decide
          omega
      refine ⟨p + 1, by omega, ?_⟩
      rw [Nat.pow_succ]
      omega

/-- A new key's search ends at a free place. -/
theorem Found.isgap {P : Pl} {W a : Nat} {k : List Int} {th : Bool} (h : Found P W k a th) (hn : ∀ (i : Nat) (e : Ent), P[i]? = some (some e) → e.key ≠ k) (hl : k.length = W) (hP : P ≠ []) :
    th = false ∧ P[a]? = some none ∧ ∃ d, d < P.length ∧ a = pos P.length (hmN P.length k) d ∧ ∀ x, x < d → ∃ e, P[pos P.length (hmN P.length k) x]? = some (some e) := by
  cases h with
  | there _ e ha hk => exact absurd hk (hn _ e ha)
  | nowhere h => rcases h with h | h
                 · exact absurd hl h
                 · exact absurd h hP
  | gap d hl hd hdl hf hn => exact ⟨rfl, hf, d, hdl, rfl, hd⟩

set_option maxRecDepth 100000 in
set_option maxHeartbeats 4000000 in
theorem grow_c {w : World} {b pb W M c : Nat} {P : Pl} (h : TB w b pb W M c P) (hp : P ≠ [] → Probe (hmN P.length) P) (hl : P.length ≤ 4000000) :
    Calls Try.prog 21 #[.pointer (some ⟨b, 0, none⟩)] w fun e w' => e = .returned (.tuple #[]) ∧ ∃ Q, TB w' b w.heap.size W M c Q ∧ Probe (hmN Q.length) Q ∧ Moved P P.length Q ∧ cnt Q = cnt P ∧ Q.length = max 16 (2 * P.length) ∧ Fr (fun k => k = b) w w' := by
  have H : Hid (TB w b pb W M c P) := h
  have HP : Hid (P ≠ [] → Probe (hmN P.length) P) := hp
  obtain ⟨q, cap, c3⟩ : ∃ q cap, w.cell? ⟨b, 3, none⟩ = some (.slice q P.length cap) := by
    by_cases hP : P = []
    · exact ⟨none, 0, by rw [h.c3, hP]; rfl⟩
    · exact ⟨_, _, h.c3p hP⟩
  have HQ : Hid (P ≠ [] → q = some ⟨pb, 0, none⟩) := fun hP => by
    have := h.c3p hP
    rw [c3] at this
    cases this
    rfl
  have HN : Hid (Pow2 (max 16 (2 * P.length))) := pow2_next h hl
  have fb := h.frb 3
  obtain ⟨n, hn⟩ : ∃ n, max 16 (2 * P.length) = n := ⟨_, rfl⟩
  have hmx : max (16 : Int) (2 * (P.length : Int)) = (n : Int) := by omega
  have hn0 : 16 ≤ n := by omega
  have hn1 : 2 * P.length ≤ n := by omega
  have hn2 : n ≤ 8000000 := by omega
  have m0 := make_places n (by omega)
  rw [hn] at HN
  have HE : Hid (max 16 (2 * P.length) = n) := hn
  clear h hp hn
  have F0 : Hid (TB ((w.alloc (.cells (cellsP (List.replicate n none)).toArray 62)).setCell ⟨b, 3, none⟩ (.slice (some ⟨w.heap.size, 0, none⟩) n n)) b w.heap.size W M c (List.replicate n none)) := H.out.fresh n HN.out (by omega)
  have FF : Hid (Fr (fun k => k = b) w ((w.alloc (.cells (cellsP (List.replicate n none)).toArray 62)).setCell ⟨b, 3, none⟩ (.slice (some ⟨w.heap.size, 0, none⟩) n n))) := ((Fr.refl (fun k => k = b) w).alloc _).setCell (p := ⟨b, 3, none⟩) rfl _
  have e3 := (World.cell?_of_block (a := ⟨b, 3, none⟩) (Below.heap_alloc w (.cells (cellsP (List.replicate n none)).toArray 62) b H.out.ltb)).trans c3
  have e4 := (World.frozen?_of_block (a := ⟨b, 3, none⟩) (Below.heap_alloc w (.cells (cellsP (List.replicate n none)).toArray 62) b H.out.ltb)).trans fb
  generalize (cellsP (List.replicate n none)).toArray = Z at m0 F0 FF e3 e4
  go_enter Try.func21, Try.ntmps21
  go_upto_region 1 with fail
  go_cut [11] (fun _ wx => TB wx b w.heap.size W M c (List.replicate n none) ∧ Fr (fun k => k = b) w wx)
  case first =>
    by_cases h16 : 2 * P.length ≤ 16
    · have m1 : ∀ w : World, (Instr.makeSlice 56 (.int .i64 16) (.int .i64 16)).run Try.prog w = .ok (.slice (some ⟨w.heap.size, 0, none⟩) n n) (w.alloc (.cells Z 62)) := fun w => by
        have := m0 w
        rw [show ((n : Nat) : Int) = 16 by omega] at this
        exact this
      have i1 : 2 * (P.length : Int) ≤ 16 := by omega
      clear m0 hmx
      go_wp2
      go_meet
      exact ⟨F0.out, FF.out⟩
    · have m1 : ∀ w : World, (Instr.makeSlice 56 (.int .i64 (2 * (P.length : Int))) (.int .i64 (2 * (P.length : Int)))).run Try.prog w = .ok (.slice (some ⟨w.heap.size, 0, none⟩) n n) (w.alloc (.cells Z 62)) := fun w => by
        have := m0 w
        rw [show ((n : Nat) : Int) = 2 * (P.length : Int) by omega] at this
        exact this
      have i1 : ¬ (2 * (P.length : Int) ≤ 16) := by omega
      have i2 : 16 < 2 * (P.length : Int) := by omega
      clear m0 hmx
      go_wp2
      go_meet
      exact ⟨F0.out, FF.out⟩
  case rest =>
    obtain ⟨hT, hF⟩ := hcut
    have T0 : Hid (TB wc b w.heap.size W M c (List.replicate n none)) := hT
    have F1 : Hid (Fr (fun k => k = b) w wc) := hF
    clear hT hF F0 FF m0 hmx e3 e4
    go_wp2
    go_loopw [21] (fun i wr => ∃ (k : Nat) (Q : Pl), k ≤ P.length ∧ i = .int .i64 k ∧ TB wr b w.heap.size W M c Q ∧ Probe (hmN Q.length) Q ∧ Moved P k Q ∧ cnt Q = cnt (P.take k) ∧ Q.length = n ∧ Fr (fun k => k = b) w wr) (fun i _ => P.length - (intOf i).toNat)
    case atStart =>
      refine ⟨0, List.replicate n none, Nat.zero_le _, rfl, T0.out, by simpa using Probe.bare n (by omega), fun e => ?_, by simp [cnt, List.countP_replicate], by simp, F1.out⟩
      constructor
      · rintro ⟨i, hi⟩
        rw [List.getElem?_replicate] at hi
        split at hi <;> cases hi
      · rintro ⟨j, hj, _⟩
        omega
    case round =>
      obtain ⟨k, Q, hk, rfl, hT, hPr, hMv, hcn, hQn, hFr⟩ := hrel
      have T : Hid (TB wr b w.heap.size W M c Q) := hT
      have PR : Hid (Probe (hmN Q.length) Q) := hPr
      have MV : Hid (Moved P k Q) := hMv
      have CN : Hid (cnt Q = cnt (P.take k)) := hcn
      have QN : Hid (Q.length = n) := hQn
      have FR : Hid (Fr (fun k => k = b) w wr) := hFr
      clear hT hPr hMv hcn hQn hFr T0 F1
      by_cases hlt : k < P.length
      · have i0 : (0 : Int) ≤ (k : Int) := by omega
        have i1 : (k : Int) < (P.length : Int) := by omega
        have NE : P ≠ [] := fun e => by rw [e] at hlt; simp at hlt
        obtain rfl := HQ.out NE
        have hpbl := H.out.ltp NE
        have OB : Hid (wr.heap[pb]? = w.heap[pb]?) := FR.out.block pb hpbl (Ne.symm (H.out.bp NE))
        rcases get_cases hlt with hg | ⟨e, hg⟩
        · have d0 := (World.cell?_of_block (a := ⟨pb, k * 3, none⟩) OB.out).trans (H.out.pf0 hg)
          have d1 := (World.cell?_of_block (a := ⟨pb, k * 3 + 1, none⟩) OB.out).trans (H.out.pf1 hg)
          have d2 := (World.cell?_of_block (a := ⟨pb, k * 3 + 2, none⟩) OB.out).trans (H.out.pf2 hg)
          have HG : Hid (P[k]? = some none) := hg
          clear hg
          go_wp2
          exact ⟨⟨k + 1, Q, by omega, by go_num, T.out.kept ((Below.refl _ _).alloc (Nat.le_refl _) _), PR.out, MV.out.skip HG.out, by rw [cnt_take_next HG.out, CN.out]; rfl, QN.out, FR.out.alloc _⟩, by simp [intOf]; omega⟩
        · obtain ⟨kv, key, val⟩ := e
          obtain ⟨⟨g, hkv, hgk⟩, hkl⟩ := H.out.hk k _ hg
          simp only at hkv hgk hkl
          subst hkv
          have d0 := (World.cell?_of_block (a := ⟨pb, k * 3, none⟩) OB.out).trans (H.out.pc0 hg)
          have d1 := (World.cell?_of_block (a := ⟨pb, k * 3 + 1, none⟩) OB.out).trans (H.out.pc1 hg)
          have d2 := (World.cell?_of_block (a := ⟨pb, k * 3 + 2, none⟩) OB.out).trans (H.out.pc2 hg)
          have HG : Hid (P[k]? = some (some ⟨.slice (some ⟨g, 0, none⟩) key.length key.length, key, val⟩)) := hg
          have KW : Hid (KeyAt wr (.slice (some ⟨g, 0, none⟩) key.length key.length) key) := ⟨g, rfl, (FR.out.block g (lt_of_heap hgk) (ne_type hgk H.out.hb (by decide))).trans hgk⟩
          have NW : Hid (∀ (i : Nat) (e : Ent), Q[i]? = some (some e) → e.key ≠ key) := MV.out.new (HP.out NE) hg
          have HKL : Hid (key.length = W) := hkl
          have hkb : key.length ≤ 128 := by have := H.out.hW; omega
          have QE : Hid (Q ≠ []) := fun e => by have := QN.out; rw [e] at this; simp at this; omega
          obtain ⟨V, hV⟩ : ∃ V, wr.alloc (.cells #[.slice (some ⟨g, 0, none⟩) key.length key.length, .int .i64 val, .bool true] 62) = V := ⟨_, rfl⟩
          have BV : Hid (Below wr.heap.size wr V) := hV ▸ (Below.refl _ _).alloc (Nat.le_refl _) _
          have VV : Hid (V.heap[wr.heap.size]? = some (.cells #[.slice (some ⟨g, 0, none⟩) key.length key.length, .int .i64 val, .bool true] 62 (0, 0))) := hV ▸ World.alloc_heap_new wr _
          have HV : Hid _ := hV
          have HFI : Hid (Calls Try.prog 20 #[.pointer (some ⟨b, 0, none⟩), .slice (some ⟨g, 0, none⟩) key.length key.length] V fun e w' => ∃ a th, e = .returned (.tuple #[.int .i64 (a : Nat), .bool th]) ∧ Found Q W key a th ∧ Below V.heap.size V w') := find_c (T.out.kept BV.out) (fun _ => PR.out) ((KW.out.kept BV.out).argI (by unfold maxLen; omega))
          rw [← hV] at HFI
          clear hg hgk hkl hV
          go_upto_region 7 with (go_at_call 20; refine HFI.out.mono ?_; rw [HV.out]; rintro e5 w5 ⟨a, th, rfl, hf, hb⟩; have B5 : Hid (Below V.heap.size V w5) := hb; have HF : Hid (Found Q W key a th) := hf; clear hb hf)
          obtain ⟨rfl, ha, d, hdl, hpd, hdt⟩ := HF.out.isgap NW.out HKL.out QE.out
          have HA : Hid (Q[a]? = some none) := ha
          have HD : Hid (d < Q.length ∧ a = pos Q.length (hmN Q.length key) d ∧ ∀ x, x < d → ∃ e, Q[pos Q.length (hmN Q.length key) x]? = some (some e)) := ⟨hdl, hpd, hdt⟩
          have hal := get_lt ha
          have B51 : Hid (Below wr.heap.size wr w5) := chain BV.out B5.out (Nat.le_refl _)
          have T5 : Hid (TB w5 b w.heap.size W M c Q) := T.out.kept B51.out
          have X5 : Hid (w5.heap[wr.heap.size]? = some (.cells #[.slice (some ⟨g, 0, none⟩) key.length key.length, .int .i64 val, .bool true] 62 (0, 0))) := (B5.out.block _ (lt_of_heap VV.out)).trans VV.out
          clear ha hdl hpd hdt HFI HV HF c3 d0 d1 d2 fb
          have c3 := T5.out.c3p QE.out
          have x0 := cell_row X5.out (i := 0) rfl
          have x1 := cell_row X5.out (i := 1) rfl
          have x2 := cell_row X5.out (i := 2) rfl
          have lb := T5.out.ltb
          have lx := lt_of_heap X5.out
          have j0 : (0 : Int) ≤ (a : Int) := by omega
          have j1 : (a : Int) < (Q.length : Int) := by omega
          have hQl : Q.length ≤ 8000000 := by have := QN.out; omega
          refine wp_region_last_lit (List.cons_ne_nil _ _) (by kernel_rfl) (by kernel_rfl) (by kernel_rfl) ?_
          dsimp only [List.dropLast, List.getLast]
          repeat (go_big_quiet_step (first | exact rfl))
          refine wpQuiet_nil ?_
          intro w6 hw
          have B6 : Hid (Below w5.heap.size w5 w6) := ext_of hw
          clear hw x0 x1 x2 c3
          have T6 : Hid (TB w6 b w.heap.size W M c Q) := T5.out.kept B6.out
          have y0 := T6.out.pf0 HA.out
          have y1 := T6.out.pf1 HA.out
          have y2 := T6.out.pf2 HA.out
          have z0 := T6.out.frp QE.out (a * 3)
          have z1 := T6.out.frp QE.out (a * 3 + 1)
          have z2 := T6.out.frp QE.out (a * 3 + 2)
          go_wp2
          have KW6 := (KW.out.kept B51.out).kept B6.out
          have FR6 : Fr (fun k => k = b) w w6 := (FR.out.then B51.out).then B6.out
          obtain ⟨h1, h2, h3⟩ := HD.out
          refine ⟨⟨k + 1, Q.set a (some ⟨.slice (some ⟨g, 0, none⟩) key.length key.length, key, val⟩), by omega, by go_num, ?_, ?_, MV.out.lay HG.out HA.out, ?_, by rw [List.length_set]; exact QN.out, ((FR6.setNew (Nat.le_refl _) _).setNew (Nat.le_refl _) _).setNew (Nat.le_refl _) _⟩, by simp [intOf]; omega⟩
          · exact T6.out.put3 hal _ _ _ _ rfl (fun e he => by cases he; exact ⟨KW6, HKL.out⟩)
          · rw [List.length_set, h2]
            have hc1 := CN.out
            have hc2 := cnt_take_next HG.out
            have hc3 := cnt_take_le P (k + 1)
            have hc4 := cnt_le P
            have hc5 := (HP.out NE).few
            simp at hc2
            exact PR.out.lay h3 h1 (h2 ▸ HA.out) NW.out (by have := QN.out; omega) _ _
          · have hc := cnt_set (y := some ⟨.slice (some ⟨g, 0, none⟩) key.length key.length, key, val⟩) HA.out
            have hc2 := cnt_take_next HG.out
            have hc1 := CN.out
            simp at hc hc2
            omega
      · have i1 : ¬ ((k : Int) < (P.length : Int)) := by omega
        have HK : Hid (k = P.length) := (by omega : k = P.length)
        go_wp2
        go_end0
        refine ⟨rfl, Q, T.out, PR.out, HK.out ▸ MV.out, ?_, by rw [QN.out, HE.out], FR.out⟩
        rw [CN.out, HK.out, List.take_length]
end Go.Proofs.Ytmfljfedpdipiaa
