/-
  The document's own table: Drop.
-/
import Derived.Test.YtmfljfedpdipiaaRefF
namespace Go.Proofs.Ytmfljfedpdipiaa
open Go Go.RowKit
attribute [local go_sem] Oper.semAt_some ext_cell

theorem hideR {P : Prop} (h : P) : Hid P := h
theorem row_new {w : World} {base n c : Nat} {t : TypeId} {size : Nat} {a : Addr} {xs : List Value} (h : w.ownsRow base t size (.slice (some a) n c) n xs) : base ≤ a.block := by
  obtain ⟨h1, ⟨q1, q2⟩ | ⟨g', cap', cur, q1, q2, q3⟩⟩ := h
  · cases q1
  · cases q1; exact q2
theorem RT.laid {base : Nat} {w w' : World} {b W M c : Nat} {q : Option Addr} {E : List Ent} {top : Nat} {cs : Array Value} {l : Nat} (hw : w.heap[b]? = some (.cells cs 41 (0, 0))) (hl : E.length = l) (hb : w'.heap[b]? = some (.cells #[.int .i64 W, .int .i64 M, .slice q l c, .int .i64 top] 41 (0, 0)))
    (N : w.ownsRow base 71 2 (.slice q l c) l (cellsR E)) (K : ∀ e ∈ E, w.ownsRow base 3 1 e.kv e.key.length (ints e.key) ∧ e.key.length = W) (few : l ≤ 1000000) (hf : Fr (fun r => r = b) w w') : RT base w' b W M q c E top := by
  subst hl
  exact ⟨hb, ownsRow_fr N hf (fun r cs' hr q => ne_type q hw (by decide) hr), fun e he => ⟨ownsRow_fr (K e he).1 hf (fun r cs' hr q => ne_type q hw (by decide) hr), (K e he).2⟩, few⟩

set_option maxRecDepth 100000 in
set_option maxHeartbeats 4000000 in
/-- A key that is there. -/
theorem rdrop_there {base : Nat} {w : World} {b W M : Nat} {q : Option Addr} {cap : Nat} {E : List Ent} {top : Nat} (h : RT base w b W M q cap E top) (hbase : base ≤ w.heap.size) {v : Value} {k : List Int} (hz : ArgI w v k) (hl : k.length = W) (ht : (atI k E).2 = true) :
    Calls Try.prog 31 #[.pointer (some ⟨b, 0, none⟩), v] w fun e w' => e = .returned (.bool true) ∧ ∃ q' cap', RT base w' b W M q' cap' (E.take (atI k E).1 ++ E.drop ((atI k E).1 + 1)) top ∧ qNew w.heap.size q' ∧ (E.length = 1 → q' = none ∧ cap' = 0) ∧ Fr (fun j => j = b) w w' := by
  obtain ⟨e, he, _⟩ := atI_at k E ht
  obtain ⟨g, rfl, hg, _, _⟩ := h.row _ e he
  have H : Hid (RT base w b W M (some ⟨g, 0, none⟩) cap E top) := h
  have HZ : Hid (ArgI w v k) := hz
  have HL : Hid (k.length = W) := hl
  have HT : Hid ((atI k E).2 = true) := ht
  have hfew := h.few
  have hroom : E.length ≤ cap ∧ cap ≤ maxLen := by
    obtain ⟨h1, ⟨q1, q2⟩ | ⟨g', cap', cur, q1, q2, q3, q4, q5, q6⟩⟩ := h.own
    · cases q1
    · cases q1; exact ⟨q4, q5⟩
  obtain ⟨hr1, hr2⟩ := hroom
  obtain ⟨j, hj⟩ : ∃ j, (atI k E).1 = j := ⟨_, rfl⟩
  rw [hj] at he ⊢
  have HJ : Hid ((atI k E).1 = j) := hj
  have hjl : j < E.length := (List.getElem?_eq_some_iff.1 he).1
  have HBS : Hid (base ≤ w.heap.size) := hbase
  clear ht hj he h hz hbase hl hg
  obtain ⟨i0, hi0, hi1, hi2, hi3⟩ := info_parts size_entry
  have IN2 : Hid (Try.prog.info? 71 = some i0 ∧ i0.zero = some (.agg #[.slice none 0 0, .int .i64 0]) ∧ i0.size = 2 ∧ i0.bytes = 32) := ⟨hi0, hi1, hi2, hi3⟩
  clear hi0 hi1 hi2 hi3
  have i0' : (0 : Int) ≤ (j : Int) := by omega
  have i1' : (j : Int) ≤ (cap : Int) := by omega
  have i2' : (j : Int) ≤ (E.length : Int) := by omega
  have i3' : (j : Int) + 1 ≤ (E.length : Int) := by omega
  have i4' : (E.length : Int) ≤ (cap : Int) := by omega
  go_enter Try.func31, Try.ntmps31
  by_cases hjc : cap = j + 1
  · have z1 : cap - (j + 1) = 0 := by omega
    have z2 : E.length - (j + 1) = 0 := by omega
    have HJC : Hid (cap = j + 1) := hjc
    have HD : Hid (cellsR (E.drop (j + 1)) = []) := (by rw [List.drop_of_length_le (by omega)]; rfl : cellsR (E.drop (j + 1)) = [])
    clear hjc
    go_wp2_with first | (go_at_call 44; (with_reducible refine (rat_c H.out HZ.out HL.out).mono ?_); rw [HT.out, HJ.out]; rintro e2 w5 ⟨rfl, hb⟩; have B5 : Hid (Below w.heap.size w w5) := hb; have H5 : Hid (RT base w5 b W M (some ⟨g, 0, none⟩) cap E top) := H.out.kept hb; clear hb; have c2 : w5.cell? ⟨b, 2, none⟩ = some (.slice (some ⟨g, 0, none⟩) E.length cap) := cell_row H5.out.hb (i := 2) rfl) | (at_builtin; refine wpList_append_own _ rfl _ _ 39 rfl w5.heap.size 71 i0 (.agg #[.slice none 0 0, .int .i64 0]) 2 32 und_entries IN2.out.1 IN2.out.2.1 IN2.out.2.2.1 IN2.out.2.2.2 rfl (by decide) (.slice q' j c') j (cellsR (E.take j)) rfl N6.out ⟨g, 0, none⟩ 0 0 [] rfl rfl (fun _ _ q => by simp at q) (fun _ q => by cases q) (by unfold maxLen; omega) (by omega) (by omega) ?_; intro v9 w9 hown' hgrow hnil; obtain ⟨q9, c9, rfl⟩ : ∃ q9 c9, v9 = .slice q9 (E.length - 1) c9 := (by have := ownsRow_shape hown'; rw [show j + 0 = E.length - 1 by omega] at this; exact this); have N9 : Hid (w9.ownsRow w5.heap.size 71 2 (.slice q9 (E.length - 1) c9) (E.length - 1) (cellsR (E.take j ++ E.drop (j + 1)))) := (by rw [show j + 0 = E.length - 1 by omega] at hown'; rw [cellsR_append, HD.out]; exact hown' : _); have GW9 : Hid (w6.grownBy w9 (Value.ownBlock (.slice q' j c'))) := hgrow; have Z9 := hideR hnil; clear hown' hgrow hnil; have G9 : Hid (Below w5.heap.size w5 w9) := G6.out.grown GW9.out hs6 (fun r hr => (World.ownsRow.lt N6.out r hr).1); have H9 : Hid (RT base w9 b W M (some ⟨g, 0, none⟩) cap E top) := H5.out.kept G9.out; have d2 : w9.cell? ⟨b, 2, none⟩ = some (.slice (some ⟨g, 0, none⟩) E.length cap) := cell_row H9.out.hb (i := 2) rfl; have fz2 := frz_row H9.out.hb 2) | (at_builtin; refine wpList_append_own _ rfl _ _ 39 rfl w5.heap.size 71 i0 (.agg #[.slice none 0 0, .int .i64 0]) 2 32 und_entries IN2.out.1 IN2.out.2.1 IN2.out.2.2.1 IN2.out.2.2.2 rfl (by decide) (.slice none 0 0) 0 [] rfl (World.ownsRow_nil _ _ _ _) ⟨g, 0, none⟩ j cap (((cellsR E).drop 0).take (j * 2)) rfl (by rw [List.length_take, List.length_drop, cellsR_length]; omega) (ownsRow_at H5.out.own 0 (j * 2)) (one_cells _ (fun u hu => List.mem_of_mem_drop (List.mem_of_mem_take hu)) H5.out.one) (by unfold maxLen; omega) (by omega) (Nat.le_refl _) ?_; intro v' w6 hown' hgrow hnil; obtain ⟨q', c', rfl⟩ : ∃ q' c', v' = .slice q' j c' := (by have := ownsRow_shape hown'; rw [Nat.zero_add] at this; exact this); have G6 : Hid (Below w5.heap.size w5 w6) := grown_below hgrow; have N6 : Hid (w6.ownsRow w5.heap.size 71 2 (.slice q' j c') j (cellsR (E.take j))) := (by rw [Nat.zero_add, List.nil_append] at hown'; rw [cellsR_take]; exact hown' : _); have Z6 := hideR hnil; clear hown' hgrow hnil; have H6 : Hid (RT base w6 b W M (some ⟨g, 0, none⟩) cap E top) := H5.out.kept G6.out; have hs6 := G6.out.size; have c26 : w6.cell? ⟨b, 2, none⟩ = some (.slice (some ⟨g, 0, none⟩) E.length cap) := cell_row H6.out.hb (i := 2) rfl)
    go_ret
    have hF : Fr (fun r => r = b) w9 (w9.setCell ⟨b, 2, none⟩ (.slice q9 (E.length - 1) c9)) := (Fr.refl (fun r => r = b) w9).setCell (S := fun r => r = b) (p := ⟨b, 2, none⟩) rfl _
    refine ⟨rfl, q9, c9, RT.laid H9.out.hb (by simp; omega) (heap_set_in H9.out.hb 2 _) (ownsRow_mono N9.out (Nat.le_trans HBS.out B5.out.size)) (fun e he => ?_) (by omega) hF, (fun a ha => Nat.le_trans B5.out.size (by subst ha; exact row_new N9.out)), (fun h1 => by have hz := Z9.out.2 ⟨Z6.out.2 ⟨(by first | trivial | rfl), (by first | trivial | omega)⟩, (by first | trivial | omega)⟩; injection hz with h2 h3 h4; exact ⟨h2, h4⟩), (Fr.of_below (chain B5.out G9.out (Nat.le_refl _))).trans hF⟩
    rcases List.mem_append.1 he with q | q
    · exact H9.out.keys e (List.mem_of_mem_take q)
    · exact H9.out.keys e (List.mem_of_mem_drop q)
  · have z1 : ¬ (cap - (j + 1) = 0) := by omega
    have z3 : ¬ (cap ≤ j + 1) := by omega
    have HD : Hid (cellsR (E.drop (j + 1)) = ((cellsR E).drop ((j + 1) * 2)).take ((E.length - (j + 1)) * 2)) := cellsR_drop E (j + 1)
    go_wp2_with first | (go_at_call 44; (with_reducible refine (rat_c H.out HZ.out HL.out).mono ?_); rw [HT.out, HJ.out]; rintro e2 w5 ⟨rfl, hb⟩; have B5 : Hid (Below w.heap.size w w5) := hb; have H5 : Hid (RT base w5 b W M (some ⟨g, 0, none⟩) cap E top) := H.out.kept hb; clear hb; have c2 : w5.cell? ⟨b, 2, none⟩ = some (.slice (some ⟨g, 0, none⟩) E.length cap) := cell_row H5.out.hb (i := 2) rfl) | (at_builtin; refine wpList_append_own _ rfl _ _ 39 rfl w5.heap.size 71 i0 (.agg #[.slice none 0 0, .int .i64 0]) 2 32 und_entries IN2.out.1 IN2.out.2.1 IN2.out.2.2.1 IN2.out.2.2.2 rfl (by decide) (.slice q' j c') j (cellsR (E.take j)) rfl N6.out ⟨g, (j + 1) * 2, none⟩ (E.length - (j + 1)) (cap - (j + 1)) (((cellsR E).drop ((j + 1) * 2)).take ((E.length - (j + 1)) * 2)) rfl (by rw [List.length_take, List.length_drop, cellsR_length]; omega) (ownsRow_at H6.out.own ((j + 1) * 2) ((E.length - (j + 1)) * 2)) (one_cells _ (fun u hu => List.mem_of_mem_drop (List.mem_of_mem_take hu)) H6.out.one) (by unfold maxLen; omega) (by omega) (by omega) ?_; intro v9 w9 hown' hgrow hnil; obtain ⟨q9, c9, rfl⟩ : ∃ q9 c9, v9 = .slice q9 (E.length - 1) c9 := (by have := ownsRow_shape hown'; rw [show j + (E.length - (j + 1)) = E.length - 1 by omega] at this; exact this); have N9 : Hid (w9.ownsRow w5.heap.size 71 2 (.slice q9 (E.length - 1) c9) (E.length - 1) (cellsR (E.take j ++ E.drop (j + 1)))) := (by rw [show j + (E.length - (j + 1)) = E.length - 1 by omega] at hown'; rw [cellsR_append, HD.out]; exact hown' : _); have GW9 : Hid (w6.grownBy w9 (Value.ownBlock (.slice q' j c'))) := hgrow; have Z9 := hideR hnil; clear hown' hgrow hnil; have G9 : Hid (Below w5.heap.size w5 w9) := G6.out.grown GW9.out hs6 (fun r hr => (World.ownsRow.lt N6.out r hr).1); have H9 : Hid (RT base w9 b W M (some ⟨g, 0, none⟩) cap E top) := H5.out.kept G9.out; have d2 : w9.cell? ⟨b, 2, none⟩ = some (.slice (some ⟨g, 0, none⟩) E.length cap) := cell_row H9.out.hb (i := 2) rfl; have fz2 := frz_row H9.out.hb 2) | (at_builtin; refine wpList_append_own _ rfl _ _ 39 rfl w5.heap.size 71 i0 (.agg #[.slice none 0 0, .int .i64 0]) 2 32 und_entries IN2.out.1 IN2.out.2.1 IN2.out.2.2.1 IN2.out.2.2.2 rfl (by decide) (.slice none 0 0) 0 [] rfl (World.ownsRow_nil _ _ _ _) ⟨g, 0, none⟩ j cap (((cellsR E).drop 0).take (j * 2)) rfl (by rw [List.length_take, List.length_drop, cellsR_length]; omega) (ownsRow_at H5.out.own 0 (j * 2)) (one_cells _ (fun u hu => List.mem_of_mem_drop (List.mem_of_mem_take hu)) H5.out.one) (by unfold maxLen; omega) (by omega) (Nat.le_refl _) ?_; intro v' w6 hown' hgrow hnil; obtain ⟨q', c', rfl⟩ : ∃ q' c', v' = .slice q' j c' := (by have := ownsRow_shape hown'; rw [Nat.zero_add] at this; exact this); have G6 : Hid (Below w5.heap.size w5 w6) := grown_below hgrow; have N6 : Hid (w6.ownsRow w5.heap.size 71 2 (.slice q' j c') j (cellsR (E.take j))) := (by rw [Nat.zero_add, List.nil_append] at hown'; rw [cellsR_take]; exact hown' : _); have Z6 := hideR hnil; clear hown' hgrow hnil; have H6 : Hid (RT base w6 b W M (some ⟨g, 0, none⟩) cap E top) := H5.out.kept G6.out; have hs6 := G6.out.size; have c26 : w6.cell? ⟨b, 2, none⟩ = some (.slice (some ⟨g, 0, none⟩) E.length cap) := cell_row H6.out.hb (i := 2) rfl)
    go_ret
    have hF : Fr (fun r => r = b) w9 (w9.setCell ⟨b, 2, none⟩ (.slice q9 (E.length - 1) c9)) := (Fr.refl (fun r => r = b) w9).setCell (S := fun r => r = b) (p := ⟨b, 2, none⟩) rfl _
    refine ⟨rfl, q9, c9, RT.laid H9.out.hb (by simp; omega) (heap_set_in H9.out.hb 2 _) (ownsRow_mono N9.out (Nat.le_trans HBS.out B5.out.size)) (fun e he => ?_) (by omega) hF, (fun a ha => Nat.le_trans B5.out.size (by subst ha; exact row_new N9.out)), (fun h1 => by have hz := Z9.out.2 ⟨Z6.out.2 ⟨(by first | trivial | rfl), (by first | trivial | omega)⟩, (by first | trivial | omega)⟩; injection hz with h2 h3 h4; exact ⟨h2, h4⟩), (Fr.of_below (chain B5.out G9.out (Nat.le_refl _))).trans hF⟩
    rcases List.mem_append.1 he with q | q
    · exact H9.out.keys e (List.mem_of_mem_take q)
    · exact H9.out.keys e (List.mem_of_mem_drop q)

set_option maxRecDepth 100000 in
set_option maxHeartbeats 4000000 in
/-- A key that is not there. -/
theorem rdrop_not {base : Nat} {w : World} {b W M : Nat} {q : Option Addr} {cap : Nat} {E : List Ent} {top : Nat} (h : RT base w b W M q cap E top) {v : Value} {k : List Int} (hz : ArgI w v k) (hn : k.length = W → (atI k E).2 = false) :
    Calls Try.prog 31 #[.pointer (some ⟨b, 0, none⟩), v] w fun e w' => e = .returned (.bool false) ∧ Below w.heap.size w w' := by
  have H : Hid (RT base w b W M q cap E top) := h
  have HZ : Hid (ArgI w v k) := hz
  clear h hz
  by_cases hl : k.length = W
  · have HL : Hid (k.length = W) := hl
    have HT : Hid ((atI k E).2 = false) := hn hl
    clear hl hn
    go_enter Try.func31, Try.ntmps31
    go_wp2_with (go_at_call 44; (with_reducible refine (rat_c H.out HZ.out HL.out).mono ?_); rw [HT.out]; rintro e w2 ⟨rfl, hb⟩; have B2 : Hid (Below w.heap.size w w2) := hb; clear hb)
    go_ret
    exact ⟨rfl, B2.out⟩
  · have HL : Hid (k.length ≠ W) := hl
    clear hl hn
    go_enter Try.func31, Try.ntmps31
    go_wp2_with (go_at_call 44; (with_reducible refine (rat_wide H.out HZ.out HL.out).mono ?_); rintro e w2 ⟨rfl, hb⟩; subst w2)
    go_ret
    exact ⟨rfl, Below.refl _ _⟩
end Go.Proofs.Ytmfljfedpdipiaa
