/-
  The document's own table: Put of a new key.
-/
import Derived.Test.YtmfljfedpdipiaaRefL
namespace Go.Proofs.Ytmfljfedpdipiaa
open Go Go.RowKit
attribute [local go_sem] Oper.semAt_some ext_cell

theorem ownsRow_at {w : World} {base : Nat} {t : TypeId} {size n g cap : Nat} {xs : List Value} (h : w.ownsRow base t size (.slice (some ⟨g, 0, none⟩) n cap) n xs) (o m : Nat) (j : Nat) (u : Value) (hj : ((xs.drop o).take m)[j]? = some u) : w.cell? ((⟨g, o, none⟩ : Addr).add j) = some u := by
  rw [Addr.add_lit]
  have hjm : j < m := by
    have := (List.getElem?_eq_some_iff.1 hj).1
    rw [List.length_take] at this
    omega
  rw [List.getElem?_take_of_lt hjm, List.getElem?_drop] at hj
  have hlt : o + j < xs.length := (List.getElem?_eq_some_iff.1 hj).1
  rw [World.ownsRow.cellAt h (o + j) (by rw [← h.1]; exact hlt)]
  exact hj

theorem one_cells {E : List Ent} (xs : List Value) (h : ∀ u ∈ xs, u ∈ cellsR E) (hk : ∀ e ∈ E, e.kv.oneCell' = true) : ∀ u ∈ xs, u.oneCell' = true := by
  have : ∀ (E : List Ent), (∀ e ∈ E, e.kv.oneCell' = true) → ∀ u ∈ cellsR E, u.oneCell' = true := by
    intro E
    induction E with
    | nil => intro _ u hu; cases hu
    | cons e r ih =>
      intro hk u hu
      simp only [cellsR, List.mem_cons] at hu
      rcases hu with rfl | rfl | hu
      · exact hk e (by simp)
      · rfl
      · exact ih (fun e he => hk e (by simp [he])) u hu
  exact fun u hu => this E hk u (h u hu)
theorem cellsR_take : ∀ (E : List Ent) (j : Nat), cellsR (E.take j) = ((cellsR E).drop 0).take (j * 2)
  | _, 0 => by simp [cellsR]
  | [], j + 1 => by simp [cellsR]
  | e :: r, j + 1 => by
    have := cellsR_take r j
    rw [show (j + 1) * 2 = j * 2 + 1 + 1 by omega]
    simpa [cellsR] using this
theorem cellsR_drop : ∀ (E : List Ent) (j : Nat), cellsR (E.drop j) = ((cellsR E).drop (j * 2)).take ((E.length - j) * 2)
  | E, 0 => by
    rw [List.drop_zero, Nat.zero_mul, List.drop_zero, List.take_of_length_le (by rw [cellsR_length]; omega)]
  | [], j + 1 => by simp [cellsR]
  | e :: r, j + 1 => by
    have := cellsR_drop r j
    rw [show (j + 1) * 2 = j * 2 + 1 + 1 by omega]
    simpa [cellsR] using this
theorem cellsR_ins (A B : List Ent) (e : Ent) : cellsR (A ++ e :: B) = cellsR (A ++ [e]) ++ cellsR B := by
  rw [← cellsR_append]; simp
theorem ownsRow_heap {w : World} {base : Nat} {t : TypeId} {size n g cap : Nat} {xs : List Value} (h : w.ownsRow base t size (.slice (some ⟨g, 0, none⟩) n cap) n xs) : ∃ cur, w.heap[g]? = some (.cells cur t (0, 0)) := by
  obtain ⟨h1, ⟨q1, q2⟩ | ⟨g', cap', cur, q1, q2, q3, q4⟩⟩ := h
  · cases q1
  · cases q1; exact ⟨cur, q3⟩
theorem ownsRow_mono {w : World} {base base' : Nat} {t : TypeId} {size n : Nat} {v : Value} {xs : List Value} (h : w.ownsRow base t size v n xs) (hb : base' ≤ base) : w.ownsRow base' t size v n xs := by
  obtain ⟨h1, h2 | ⟨g', cap', cur, q1, q2, q4⟩⟩ := h
  · exact ⟨h1, .inl h2⟩
  · exact ⟨h1, .inr ⟨g', cap', cur, q1, Nat.le_trans hb q2, q4⟩⟩
theorem arg_cells {w : World} {ad : Addr} {capk : Nat} {k : List Int} (hz : ArgI w (.slice (some ad) k.length capk) k) (j : Nat) (u : Value) (hj : (ints k)[j]? = some u) : w.cell? (ad.add j) = some u := by
  obtain ⟨q, cap, e1, _, hc⟩ := hz.slice
  injection e1 with e1 _ _
  have hjl : j < k.length := by have := (List.getElem?_eq_some_iff.1 hj).1; rwa [ints_length] at this
  obtain ⟨g, off, e2, _, hcell⟩ := hc j _ (List.getElem?_eq_getElem hjl)
  rw [← e1] at e2
  cases e2
  rw [ints_get (List.getElem?_eq_getElem hjl)] at hj
  cases hj
  rw [Addr.add_lit]
  exact hcell
/-- A list that lies in new memory, or is none. -/
def qNew (n : Nat) (q : Option Addr) : Prop := ∀ a, q = some a → n ≤ a.block
/-- A key that lies in new memory, or is none. -/
def kNew (n : Nat) (v : Value) : Prop := ∀ a l c, v = .slice (some a) l c → n ≤ a.block
theorem kNew_row {w : World} {base base' n : Nat} {t : TypeId} {size : Nat} {v : Value} {xs : List Value} (h : w.ownsRow base t size v n xs) (hb : base' ≤ base) : kNew base' v := fun a l c e => by
  subst e
  obtain ⟨h1, ⟨q1, q2⟩ | ⟨g', cap', cur, q1, q2, q3⟩⟩ := h
  · cases q1
  · cases q1; exact Nat.le_trans hb q2
theorem RT.one {base : Nat} {w : World} {rb W M : Nat} {q : Option Addr} {cap : Nat} {E : List Ent} {top : Nat} (h : RT base w rb W M q cap E top) : ∀ e ∈ E, e.kv.oneCell' = true := fun e he => by
  obtain ⟨q', c', e1⟩ := ownsRow_shape (h.keys e he).1
  rw [e1]
  rfl

theorem RT.ins {base : Nat} {w w' : World} {b W M g c : Nat} {E : List Ent} {top : Nat} {cs : Array Value} {l : Nat} (hw : w.heap[b]? = some (.cells cs 41 (0, 0))) (hl : E.length = l) (hb : w'.heap[b]? = some (.cells #[.int .i64 W, .int .i64 M, .slice (some ⟨g, 0, none⟩) l c, .int .i64 top] 41 (0, 0)))
    (N : w.ownsRow base 71 2 (.slice (some ⟨g, 0, none⟩) l c) l (cellsR E)) (K : ∀ e ∈ E, w.ownsRow base 3 1 e.kv e.key.length (ints e.key) ∧ e.key.length = W) (few : l ≤ 1000000) (hf : Fr (fun r => r = b) w w') : RT base w' b W M (some ⟨g, 0, none⟩) c E top := by
  subst hl
  exact ⟨hb, ownsRow_fr N hf (fun r cs' hr q => ne_type q hw (by decide) hr), fun e he => ⟨ownsRow_fr (K e he).1 hf (fun r cs' hr q => ne_type q hw (by decide) hr), (K e he).2⟩, few⟩

set_option maxRecDepth 100000 in
set_option maxHeartbeats 4000000 in
/-- A new key. -/
theorem rput_ins {base : Nat} {w : World} {b W M g : Nat} {cap : Nat} {E : List Ent} {top : Nat} (h : RT base w b W M (some ⟨g, 0, none⟩) cap E top) (hbase : base ≤ w.heap.size) {ad : Addr} {capk : Nat} {k : List Int} (hz : ArgI w (.slice (some ad) k.length capk) k) (hl : k.length = W) (hW : W ≤ 128) (x : Int) (ht : (atI k E).2 = false) (hM : E.length < M) (hM2 : M ≤ 1000000) :
    Calls Try.prog 29 #[.pointer (some ⟨b, 0, none⟩), .slice (some ad) k.length capk, .int .i64 x] w fun e w' => e = .returned (.int .i64 0) ∧ ∃ q' cap' kv, RT base w' b W M q' cap' (E.take (atI k E).1 ++ ⟨kv, k, x⟩ :: E.drop (atI k E).1) (max top (E.length + 1)) ∧ qNew w.heap.size q' ∧ kNew w.heap.size kv ∧ Fr (fun j => j = b) w w' := by
  have H : Hid (RT base w b W M (some ⟨g, 0, none⟩) cap E top) := h
  have hkl : k.length ≤ 128 := by omega
  have HZ : Hid (ArgI w (.slice (some ad) k.length capk) k) := hz
  have HT : Hid ((atI k E).2 = false) := ht
  have hfew := h.few
  have c0 : w.cell? ⟨b, 0, none⟩ = some (.int .i64 W) := cell_row h.hb (i := 0) rfl
  have hroom : E.length ≤ cap ∧ cap ≤ maxLen := by
    obtain ⟨h1, ⟨q1, q2⟩ | ⟨g', cap', cur, q1, q2, q3, q4, q5, q6⟩⟩ := h.own
    · cases q1
    · cases q1; exact ⟨q4, q5⟩
  have hjl := atI_le k E
  obtain ⟨j, hj⟩ : ∃ j, (atI k E).1 = j := ⟨_, rfl⟩
  have HJ : Hid ((atI k E).1 = j) := hj
  rw [hj] at hjl ⊢
  have HM : Hid (E.length < M ∧ M ≤ 1000000) := ⟨hM, hM2⟩
  have HBS : Hid (base ≤ w.heap.size) := hbase
  clear ht h hz hj hbase
  subst hl
  obtain ⟨hr1, hr2⟩ := hroom
  have e0 : ((k.length : Int) != (k.length : Int)) = false := by simp
  obtain ⟨j0, hj0, hj1, hj2, hj3⟩ := info_parts size_int
  obtain ⟨i0, hi0, hi1, hi2, hi3⟩ := info_parts size_entry
  have INF : Hid (Try.prog.info? 3 = some j0 ∧ j0.zero = some (.int .i64 0) ∧ j0.size = 1 ∧ j0.bytes = 8) := ⟨hj0, hj1, hj2, hj3⟩
  have IN2 : Hid (Try.prog.info? 71 = some i0 ∧ i0.zero = some (.agg #[.slice none 0 0, .int .i64 0]) ∧ i0.size = 2 ∧ i0.bytes = 32) := ⟨hi0, hi1, hi2, hi3⟩
  clear hj0 hj1 hj2 hj3 hi0 hi1 hi2 hi3
  go_enter Try.func29, Try.ntmps29
  go_wp2_with (go_at_call 44; (with_reducible refine (rat_c H.out HZ.out rfl).mono ?_); rw [HT.out, HJ.out]; rintro e2 w2 ⟨rfl, hb⟩; have B2 : Hid (Below w.heap.size w w2) := hb; have H2 : Hid (RT base w2 b k.length M (some ⟨g, 0, none⟩) cap E top) := H.out.kept hb; clear hb; have c1 : w2.cell? ⟨b, 1, none⟩ = some (.int .i64 M) := cell_row H2.out.hb (i := 1) rfl; have c2 : w2.cell? ⟨b, 2, none⟩ = some (.slice (some ⟨g, 0, none⟩) E.length cap) := cell_row H2.out.hb (i := 2) rfl; have hbl := lt_of_heap H2.out.hb)
  refine wp_region_ext (by kernel_rfl) (by kernel_rfl) ?_
  repeat (go_big_quiet_step (first | exact rfl))
  refine wpQuiet_nil ?_
  intro w5 hw
  have B5 : Hid (Below w.heap.size w w5) := chain B2.out (ext_of hw) (Nat.le_refl _)
  clear hw c0 c1 c2
  have H5 : Hid (RT base w5 b k.length M (some ⟨g, 0, none⟩) cap E top) := H.out.kept B5.out
  have K5 : Hid (ArgI w5 (.slice (some ad) k.length capk) k) := HZ.out.below B5.out rfl
  have c2 : w5.cell? ⟨b, 2, none⟩ = some (.slice (some ⟨g, 0, none⟩) E.length cap) := cell_row H5.out.hb (i := 2) rfl
  have e1 : decide (M ≤ E.length) = false := by simp; omega
  have i0' : (0 : Int) ≤ (j : Int) := by omega
  have i1' : (j : Int) ≤ (cap : Int) := by omega
  have i2' : (j : Int) ≤ (E.length : Int) := by omega
  go_upto_region 10 with fail
  go_upto_region 11 with (at_builtin; refine wpList_append_own _ rfl _ _ 39 rfl w5.heap.size 71 i0 (.agg #[.slice none 0 0, .int .i64 0]) 2 32 und_entries IN2.out.1 IN2.out.2.1 IN2.out.2.2.1 IN2.out.2.2.2 rfl (by decide) (.slice none 0 0) 0 [] rfl (World.ownsRow_nil _ _ _ _) ⟨g, 0, none⟩ j cap (((cellsR E).drop 0).take (j * 2)) rfl (by rw [List.length_take, List.length_drop, cellsR_length]; omega) (ownsRow_at H5.out.own 0 (j * 2)) (one_cells _ (fun u hu => List.mem_of_mem_drop (List.mem_of_mem_take hu)) H5.out.one) (by unfold maxLen; omega) (by omega) (Nat.le_refl _) ?_; intro v' w6 hown' hgrow hnil; obtain ⟨q', c', rfl⟩ : ∃ q' c', v' = .slice q' j c' := (by have := ownsRow_shape hown'; rw [Nat.zero_add] at this; exact this); have G6 : Hid (Below w5.heap.size w5 w6) := grown_below hgrow; have N6 : Hid (w6.ownsRow w5.heap.size 71 2 (.slice q' j c') j (cellsR (E.take j))) := (by rw [Nat.zero_add, List.nil_append] at hown'; rw [cellsR_take]; exact hown' : _); clear hown' hgrow hnil)
  clear c2
  have K6 : Hid (ArgI w6 (.slice (some ad) k.length capk) k) := K5.out.below G6.out rfl
  have hs6 := G6.out.size
  go_upto_region 12 with first | (at_builtin; refine wpList_append_own _ rfl _ _ 44 rfl w5.heap.size 3 j0 (.int .i64 0) 1 8 und_ints INF.out.1 INF.out.2.1 INF.out.2.2.1 INF.out.2.2.2 rfl (by decide) (.slice none 0 0) 0 [] rfl (World.ownsRow_nil _ _ _ _) ad k.length capk (ints k) rfl (by simp [ints_length]) (arg_cells K6.out) (ints_one _) (by unfold maxLen; omega) (by omega) (by omega) ?_; intro v' w7 hown' hgrow hnil; obtain ⟨qy, cy, rfl⟩ : ∃ qy cy, v' = .slice qy k.length cy := (by have := ownsRow_shape hown'; rw [Nat.zero_add] at this; exact this); have G7 : Hid (Below w5.heap.size w5 w7) := chain G6.out (grown_below hgrow) (Nat.le_refl _); have Y7 : Hid (w7.ownsRow w5.heap.size 3 1 (.slice qy k.length cy) k.length (ints k)) := (by rw [Nat.zero_add, List.nil_append] at hown'; exact hown' : _); have N7 : Hid (w7.ownsRow w5.heap.size 71 2 (.slice q' j c') j (cellsR (E.take j))) := ownsRow_below N6.out (grown_below hgrow); have hs7 := G7.out.size; clear hown' hgrow hnil) | (at_builtin; refine wpList_append_own _ rfl _ _ 39 rfl w5.heap.size 71 i0 (.agg #[.slice none 0 0, .int .i64 0]) 2 32 und_entries IN2.out.1 IN2.out.2.1 IN2.out.2.2.1 IN2.out.2.2.2 rfl (by decide) (.slice q' j c') j (cellsR (E.take j)) rfl (World.ownsRow.alloc N7.out _) ⟨w7.heap.size, 0, none⟩ 1 1 [.slice qy k.length cy, .int .i64 x] rfl rfl (cell_two_new _ _ _ _) (by simp [Value.oneCell']) (by unfold maxLen; omega) (by omega) (by simp; omega) ?_; intro v'' w8 hown' hgrow hnil; obtain ⟨g8, c8, rfl⟩ : ∃ g8 c8, v'' = .slice (some ⟨g8, 0, none⟩) (j + 1) c8 := ownsRow_some hown' (fun q => absurd (hnil.1 q).2 (by decide)); have GW : Hid (w7.grownBy w8 (Value.ownBlock (.slice q' j c'))) := (World.grownBy_alloc _ _ _).trans hgrow; have N8 : Hid (w8.ownsRow w5.heap.size 71 2 (.slice (some ⟨g8, 0, none⟩) (j + 1) c8) (j + 1) (cellsR (E.take j ++ [⟨.slice qy k.length cy, k, x⟩]))) := (by rw [cellsR_append]; exact hown' : _); clear hown' hgrow hnil)
  have RB : Hid (∀ r, Value.ownBlock (.slice q' j c') = some r → w5.heap.size ≤ r) := fun r hr => (World.ownsRow.lt N7.out r hr).1
  have G8 : Hid (Below w5.heap.size w5 w8) := G7.out.grown GW.out hs7 RB.out
  have FR8 : Hid (Fr (fun r => Value.ownBlock (.slice q' j c') = some r) w7 w8) := (Fr.refl (fun r => Value.ownBlock (.slice q' j c') = some r) w7).grown GW.out (fun r hr => hr)
  have Y8 : Hid (w8.ownsRow w5.heap.size 3 1 (.slice qy k.length cy) k.length (ints k)) := ownsRow_fr Y7.out FR8.out (fun r cs hr q => by
    obtain ⟨_, ⟨q1, _⟩ | ⟨g', cap', cur, q1, q2, q3, _⟩⟩ := N7.out
    · rw [q1] at hr; cases hr
    · rw [q1] at hr; cases hr; exact ne_type q q3 (by decide) rfl)
  have H8 : Hid (RT base w8 b k.length M (some ⟨g, 0, none⟩) cap E top) := H5.out.kept G8.out
  have c2 : w8.cell? ⟨b, 2, none⟩ = some (.slice (some ⟨g, 0, none⟩) E.length cap) := cell_row H8.out.hb (i := 2) rfl
  have f2 := frz_row H8.out.hb 2
  clear RB FR8 GW Y7 N7 N6 G6 G7 K6
  have k1 : (j : Int) ≤ (E.length : Int) := by omega
  have k2 : (E.length : Int) ≤ (cap : Int) := by omega
  have hs8 := G8.out.size
  by_cases hjc : cap = j
  · have z1 : cap - j = 0 := by omega
    have z2 : E.length - j = 0 := by omega
    have HD : Hid (cellsR (E.drop j) = []) := (by rw [List.drop_of_length_le (by omega)]; rfl : cellsR (E.drop j) = [])
    go_upto_region 13 with (at_builtin; (refine wpList_append_own _ rfl _ _ 39 rfl w5.heap.size 71 i0 (.agg #[.slice none 0 0, .int .i64 0]) 2 32 und_entries IN2.out.1 IN2.out.2.1 IN2.out.2.2.1 IN2.out.2.2.2 rfl (by decide) (.slice (some ⟨g8, 0, none⟩) (j + 1) c8) (j + 1) (cellsR (E.take j ++ [⟨.slice qy k.length cy, k, x⟩])) rfl N8.out ⟨g, 0, none⟩ 0 0 [] rfl rfl (fun _ _ q => by simp at q) (fun _ q => by cases q) (by unfold maxLen; omega) (by omega) (by omega) ?_); intro v9 w9 hown' hgrow hnil; obtain ⟨g9, c9, rfl⟩ : ∃ g9 c9, v9 = .slice (some ⟨g9, 0, none⟩) (E.length + 1) c9 := (by have := ownsRow_some hown' (fun q => by have := (hnil.1 q).1; cases this); rw [show j + 1 + 0 = E.length + 1 by omega] at this; exact this); have N9 : Hid (w9.ownsRow w5.heap.size 71 2 (.slice (some ⟨g9, 0, none⟩) (E.length + 1) c9) (E.length + 1) (cellsR (E.take j ++ ⟨.slice qy k.length cy, k, x⟩ :: E.drop j))) := (by rw [show j + 1 + 0 = E.length + 1 by omega] at hown'; rw [cellsR_ins, HD.out]; exact hown' : _); have GW9 : Hid (w8.grownBy w9 (some g8)) := hgrow; clear hown' hgrow hnil; have G9 : Hid (Below w5.heap.size w5 w9) := G8.out.grown GW9.out hs8 (fun r hr => by cases hr; exact (World.ownsRow.lt N8.out g8 rfl).1); have H9 : Hid (RT base w9 b k.length M (some ⟨g, 0, none⟩) cap E top) := H5.out.kept G9.out; have Y9 : Hid (w9.ownsRow w5.heap.size 3 1 (.slice qy k.length cy) k.length (ints k)) := ownsRow_fr Y8.out ((Fr.refl (fun r => r = g8) w8).grown GW9.out (fun r hr => by cases hr; rfl)) (fun r cs hr q => by obtain ⟨cur, hc⟩ := ownsRow_heap N8.out; exact ne_type q hc (by decide) hr); have d2 : w9.cell? ⟨b, 2, none⟩ = some (.slice (some ⟨g, 0, none⟩) E.length cap) := cell_row H9.out.hb (i := 2) rfl; have fz2 := frz_row H9.out.hb 2)
    have W10 : Hid ((w9.setCell ⟨b, 2, none⟩ (.slice (some ⟨g9, 0, none⟩) (E.length + 1) c9)).heap[b]? = some (.cells #[.int .i64 k.length, .int .i64 M, .slice (some ⟨g9, 0, none⟩) (E.length + 1) c9, .int .i64 top] 41 (0, 0))) := heap_set_in H9.out.hb 2 _
    have F10 : Hid (Fr (fun r => r = b) w9 (w9.setCell ⟨b, 2, none⟩ (.slice (some ⟨g9, 0, none⟩) (E.length + 1) c9))) := (Fr.refl (fun r => r = b) w9).setCell (S := fun r => r = b) (p := ⟨b, 2, none⟩) rfl _
    generalize (w9.setCell ⟨b, 2, none⟩ (.slice (some ⟨g9, 0, none⟩) (E.length + 1) c9)) = w10 at W10 F10 ⊢
    clear c2 f2 d2 fz2
    have d2 : w10.cell? ⟨b, 2, none⟩ = some (.slice (some ⟨g9, 0, none⟩) (E.length + 1) c9) := cell_row W10.out (i := 2) rfl
    have d3 : w10.cell? ⟨b, 3, none⟩ = some (.int .i64 top) := cell_row W10.out (i := 3) rfl
    have f3 := frz_row W10.out 3
    have KX : Hid (∀ e ∈ E.take j ++ ⟨.slice qy k.length cy, k, x⟩ :: E.drop j, w9.ownsRow base 3 1 e.kv e.key.length (ints e.key) ∧ e.key.length = k.length) := fun e he => by
      simp only [List.mem_append, List.mem_cons] at he
      rcases he with he | rfl | he
      · exact H9.out.keys e (List.mem_of_mem_take he)
      · exact ⟨ownsRow_mono Y9.out (Nat.le_trans HBS.out B5.out.size), rfl⟩
      · exact H9.out.keys e (List.mem_of_mem_drop he)
    have LX : Hid ((E.take j ++ (⟨.slice qy k.length cy, k, x⟩ : Ent) :: E.drop j).length = E.length + 1) := (by simp; omega : (E.take j ++ (⟨.slice qy k.length cy, k, x⟩ : Ent) :: E.drop j).length = E.length + 1)
    go_region_with fail
    all_goals go_wp2
    all_goals go_ret
    all_goals
      have hmx : (max (top : Int) ((E.length : Int) + 1)) = ((max top (E.length + 1) : Nat) : Int) := by omega
      have hF : Fr (fun r => r = b) w9 (w10.setCell ⟨b, 3, none⟩ (.int .i64 (max (top : Int) ((E.length : Int) + 1)))).drew := (F10.out.setCell (S := fun r => r = b) (p := ⟨b, 3, none⟩) rfl _).then (Below.refl _ _).drew
      refine ⟨rfl, _, _, _, RT.ins H9.out.hb LX.out ?_ (ownsRow_mono N9.out (Nat.le_trans HBS.out B5.out.size)) KX.out (by have := HM.out; omega) hF, (fun a ha => by cases ha; exact Nat.le_trans B5.out.size (World.ownsRow.lt N9.out g9 rfl).1), kNew_row Y9.out B5.out.size, (Fr.of_below (chain B5.out G9.out (Nat.le_refl _))).trans hF⟩
      rw [← hmx]
      exact heap_set_in W10.out 3 _
  · have z1 : ¬ (cap - j = 0) := by omega
    have z3 : ¬ (cap ≤ j) := by omega
    have HD : Hid (cellsR (E.drop j) = ((cellsR E).drop (j * 2)).take ((E.length - j) * 2)) := cellsR_drop E j
    go_upto_region 13 with (at_builtin; refine wpList_append_own _ rfl _ _ 39 rfl w5.heap.size 71 i0 (.agg #[.slice none 0 0, .int .i64 0]) 2 32 und_entries IN2.out.1 IN2.out.2.1 IN2.out.2.2.1 IN2.out.2.2.2 rfl (by decide) (.slice (some ⟨g8, 0, none⟩) (j + 1) c8) (j + 1) (cellsR (E.take j ++ [⟨.slice qy k.length cy, k, x⟩])) rfl N8.out ⟨g, j * 2, none⟩ (E.length - j) (cap - j) (((cellsR E).drop (j * 2)).take ((E.length - j) * 2)) rfl (by rw [List.length_take, List.length_drop, cellsR_length]; omega) (ownsRow_at H8.out.own (j * 2) ((E.length - j) * 2)) (one_cells _ (fun u hu => List.mem_of_mem_drop (List.mem_of_mem_take hu)) H8.out.one) (by unfold maxLen; omega) (by omega) (by omega) ?_; intro v9 w9 hown' hgrow hnil; obtain ⟨g9, c9, rfl⟩ : ∃ g9 c9, v9 = .slice (some ⟨g9, 0, none⟩) (E.length + 1) c9 := (by have := ownsRow_some hown' (fun q => by have := (hnil.1 q).1; cases this); rw [show j + 1 + (E.length - j) = E.length + 1 by omega] at this; exact this); have N9 : Hid (w9.ownsRow w5.heap.size 71 2 (.slice (some ⟨g9, 0, none⟩) (E.length + 1) c9) (E.length + 1) (cellsR (E.take j ++ ⟨.slice qy k.length cy, k, x⟩ :: E.drop j))) := (by rw [show j + 1 + (E.length - j) = E.length + 1 by omega] at hown'; rw [cellsR_ins, HD.out]; exact hown' : _); have GW9 : Hid (w8.grownBy w9 (some g8)) := hgrow; clear hown' hgrow hnil; have G9 : Hid (Below w5.heap.size w5 w9) := G8.out.grown GW9.out hs8 (fun r hr => by cases hr; exact (World.ownsRow.lt N8.out g8 rfl).1); have H9 : Hid (RT base w9 b k.length M (some ⟨g, 0, none⟩) cap E top) := H5.out.kept G9.out; have Y9 : Hid (w9.ownsRow w5.heap.size 3 1 (.slice qy k.length cy) k.length (ints k)) := ownsRow_fr Y8.out ((Fr.refl (fun r => r = g8) w8).grown GW9.out (fun r hr => by cases hr; rfl)) (fun r cs hr q => by obtain ⟨cur, hc⟩ := ownsRow_heap N8.out; exact ne_type q hc (by decide) hr); have d2 : w9.cell? ⟨b, 2, none⟩ = some (.slice (some ⟨g, 0, none⟩) E.length cap) := cell_row H9.out.hb (i := 2) rfl; have fz2 := frz_row H9.out.hb 2)
    have W10 : Hid ((w9.setCell ⟨b, 2, none⟩ (.slice (some ⟨g9, 0, none⟩) (E.length + 1) c9)).heap[b]? = some (.cells #[.int .i64 k.length, .int .i64 M, .slice (some ⟨g9, 0, none⟩) (E.length + 1) c9, .int .i64 top] 41 (0, 0))) := heap_set_in H9.out.hb 2 _
    have F10 : Hid (Fr (fun r => r = b) w9 (w9.setCell ⟨b, 2, none⟩ (.slice (some ⟨g9, 0, none⟩) (E.length + 1) c9))) := (Fr.refl (fun r => r = b) w9).setCell (S := fun r => r = b) (p := ⟨b, 2, none⟩) rfl _
    generalize (w9.setCell ⟨b, 2, none⟩ (.slice (some ⟨g9, 0, none⟩) (E.length + 1) c9)) = w10 at W10 F10 ⊢
    clear c2 f2 d2 fz2
    have d2 : w10.cell? ⟨b, 2, none⟩ = some (.slice (some ⟨g9, 0, none⟩) (E.length + 1) c9) := cell_row W10.out (i := 2) rfl
    have d3 : w10.cell? ⟨b, 3, none⟩ = some (.int .i64 top) := cell_row W10.out (i := 3) rfl
    have f3 := frz_row W10.out 3
    have KX : Hid (∀ e ∈ E.take j ++ ⟨.slice qy k.length cy, k, x⟩ :: E.drop j, w9.ownsRow base 3 1 e.kv e.key.length (ints e.key) ∧ e.key.length = k.length) := fun e he => by
      simp only [List.mem_append, List.mem_cons] at he
      rcases he with he | rfl | he
      · exact H9.out.keys e (List.mem_of_mem_take he)
      · exact ⟨ownsRow_mono Y9.out (Nat.le_trans HBS.out B5.out.size), rfl⟩
      · exact H9.out.keys e (List.mem_of_mem_drop he)
    have LX : Hid ((E.take j ++ (⟨.slice qy k.length cy, k, x⟩ : Ent) :: E.drop j).length = E.length + 1) := (by simp; omega : (E.take j ++ (⟨.slice qy k.length cy, k, x⟩ : Ent) :: E.drop j).length = E.length + 1)
    go_region_with fail
    all_goals go_wp2
    all_goals go_ret
    all_goals
      have hmx : (max (top : Int) ((E.length : Int) + 1)) = ((max top (E.length + 1) : Nat) : Int) := by omega
      have hF : Fr (fun r => r = b) w9 (w10.setCell ⟨b, 3, none⟩ (.int .i64 (max (top : Int) ((E.length : Int) + 1)))).drew := (F10.out.setCell (S := fun r => r = b) (p := ⟨b, 3, none⟩) rfl _).then (Below.refl _ _).drew
      refine ⟨rfl, _, _, _, RT.ins H9.out.hb LX.out ?_ (ownsRow_mono N9.out (Nat.le_trans HBS.out B5.out.size)) KX.out (by have := HM.out; omega) hF, (fun a ha => by cases ha; exact Nat.le_trans B5.out.size (World.ownsRow.lt N9.out g9 rfl).1), kNew_row Y9.out B5.out.size, (Fr.of_below (chain B5.out G9.out (Nat.le_refl _))).trans hF⟩
      rw [← hmx]
      exact heap_set_in W10.out 3 _
end Go.Proofs.Ytmfljfedpdipiaa
