/-
  The document's own table with entries: At, Get.
-/
import Derived.Test.YtmfljfedpdipiaaRefT
import Derived.Test.YtmfljfedpdipiaaCmp
import Derived.Test.YtmfljfedpdipiaaSorted
import Derived.Laws.OwnMore
namespace Go.Proofs.Ytmfljfedpdipiaa
open Go Go.RowKit
attribute [local go_sem] Oper.semAt_some ext_cell

/-- Where a key stands or would stand among entries; is it there? -/
def atI (key : List Int) : List Ent → Nat × Bool
  | [] => (0, false)
  | e :: r => if lexC e.key key < 0 then ((atI key r).1 + 1, (atI key r).2) else (0, lexC e.key key == 0)
theorem atI_lt {key : List Int} {e : Ent} {r : List Ent} (h : lexC e.key key < 0) : atI key (e :: r) = ((atI key r).1 + 1, (atI key r).2) := if_pos h
theorem atI_ge {key : List Int} {e : Ent} {r : List Ent} (h : 0 ≤ lexC e.key key) : atI key (e :: r) = (0, lexC e.key key == 0) := if_neg (by omega)
theorem atI_le (key : List Int) : ∀ E : List Ent, (atI key E).1 ≤ E.length
  | [] => Nat.le_refl _
  | e :: r => by
    unfold atI
    split
    · have := atI_le key r; simp; omega
    · exact Nat.zero_le _

/-- The cells of entries. -/
def cellsR : List Ent → List Value
  | [] => []
  | e :: r => e.kv :: .int .i64 e.val :: cellsR r
theorem cellsR_length : ∀ E : List Ent, (cellsR E).length = E.length * 2
  | [] => rfl
  | e :: r => by simp [cellsR, cellsR_length r]; omega
theorem cellsR_append : ∀ E R : List Ent, cellsR (E ++ R) = cellsR E ++ cellsR R
  | [], _ => rfl
  | e :: r, R => by simp [cellsR, cellsR_append r R]
theorem cellsR_get : ∀ {E : List Ent} {i : Nat} {e : Ent}, E[i]? = some e → (cellsR E)[i * 2]? = some e.kv ∧ (cellsR E)[i * 2 + 1]? = some (.int .i64 e.val)
  | [], _, _, h => by simp at h
  | e :: r, 0, e', h => by simp at h; subst h; exact ⟨rfl, rfl⟩
  | e :: r, i + 1, e', h => by
    have := cellsR_get (E := r) (i := i) (e := e') (by simpa using h)
    rw [show (i + 1) * 2 = i * 2 + 1 + 1 by omega]
    simpa [cellsR] using this
theorem cellsR_set : ∀ (E : List Ent) (i : Nat) (e : Ent) (x : Int), E[i]? = some e → cellsR (E.set i ⟨e.kv, e.key, x⟩) = (cellsR E).set (i * 2 + 1) (.int .i64 x)
  | [], _, _, _, h => by simp at h
  | e :: r, 0, e', x, h => by simp at h; subst h; rfl
  | e :: r, i + 1, e', x, h => by
    have := cellsR_set r i e' x (by simpa using h)
    rw [show (i + 1) * 2 + 1 = (i * 2 + 1) + 1 + 1 by omega]
    simp [cellsR, this]
theorem ownsRow_below {w w' : World} {base : Nat} {t : TypeId} {size n : Nat} {v : Value} {xs : List Value} (h : w.ownsRow base t size v n xs) (hb : Below w.heap.size w w') : w'.ownsRow base t size v n xs := by
  obtain ⟨h1, h2 | ⟨g, cap, cur, q1, q2, q3, q4⟩⟩ := h
  · exact ⟨h1, .inl h2⟩
  · exact ⟨h1, .inr ⟨g, cap, cur, q1, q2, (hb.block _ (lt_of_heap q3)).trans q3, q4⟩⟩
theorem ownsRow_fr {S : Nat → Prop} {w w' : World} {base : Nat} {t : TypeId} {size n : Nat} {v : Value} {xs : List Value} (h : w.ownsRow base t size v n xs) (hf : Fr S w w') (hs : ∀ k cs, S k → w.heap[k]? ≠ some (.cells cs t (0, 0))) : w'.ownsRow base t size v n xs := by
  obtain ⟨h1, h2 | ⟨g, cap, cur, q1, q2, q3, q4⟩⟩ := h
  · exact ⟨h1, .inl h2⟩
  · exact ⟨h1, .inr ⟨g, cap, cur, q1, q2, (hf.block _ (lt_of_heap q3) (fun e => hs g cur e q3)).trans q3, q4⟩⟩
theorem ownsRow_arg {w : World} {base : Nat} {v : Value} {k : List Int} (h : w.ownsRow base 3 1 v k.length (ints k)) : ArgI w v k := by
  obtain ⟨h1, ⟨q1, q2⟩ | ⟨g, cap, cur, q1, q2, q3, q4, q5, q6, q7⟩⟩ := h
  · exact .inl ⟨none, 0, q1, by simpa using q2⟩
  · refine .inr ⟨g, 0, cap, q1, lt_of_heap q3, q4, q5, fun i x hx => ?_⟩
    have hi : i < k.length := (List.getElem?_eq_some_iff.1 hx).1
    have e1 := ints_get hx
    rw [← q7, List.getElem?_take_of_lt (by omega)] at e1
    rw [Nat.zero_add]
    exact cell_row q3 (by simpa using e1)

/-- The document's table in memory. -/
structure RT (base : Nat) (w : World) (rb W M : Nat) (q : Option Addr) (cap : Nat) (E : List Ent) (top : Nat) : Prop where
  hb : w.heap[rb]? = some (.cells #[.int .i64 W, .int .i64 M, .slice q E.length cap, .int .i64 top] 41 (0, 0))
  own : w.ownsRow base 71 2 (.slice q E.length cap) E.length (cellsR E)
  keys : ∀ e ∈ E, w.ownsRow base 3 1 e.kv e.key.length (ints e.key) ∧ e.key.length = W
  few : E.length ≤ 1000000
theorem RT.row {base : Nat} {w : World} {rb W M : Nat} {q : Option Addr} {cap : Nat} {E : List Ent} {top : Nat} (h : RT base w rb W M q cap E top) (i : Nat) (e : Ent) (he : E[i]? = some e) : ∃ g, q = some ⟨g, 0, none⟩ ∧ g < w.heap.size ∧ w.cell? ⟨g, i * 2, none⟩ = some e.kv ∧ w.cell? ⟨g, i * 2 + 1, none⟩ = some (.int .i64 e.val) := by
  have hi : i < E.length := (List.getElem?_eq_some_iff.1 he).1
  obtain ⟨g, cap', e1⟩ := ownsRow_some h.own (fun q => by injection q with _ q _; omega)
  injection e1 with e1 _ _
  subst e1
  obtain ⟨c1, c2⟩ := cellsR_get he
  exact ⟨g, rfl, (World.ownsRow.lt h.own g rfl).2, (World.ownsRow.cellAt h.own (i * 2) (by omega)).trans c1, (World.ownsRow.cellAt h.own (i * 2 + 1) (by omega)).trans c2⟩
theorem RT.heap {base : Nat} {w : World} {rb W M g : Nat} {cap : Nat} {E : List Ent} {top : Nat} (h : RT base w rb W M (some ⟨g, 0, none⟩) cap E top) : ∃ cur, w.heap[g]? = some (.cells cur 71 (0, 0)) := by
  obtain ⟨h1, ⟨q1, q2⟩ | ⟨g', cap', cur, q1, q2, q3, q4⟩⟩ := h.own
  · cases q1
  · cases q1; exact ⟨cur, q3⟩
theorem RT.key {base : Nat} {w : World} {rb W M : Nat} {q : Option Addr} {cap : Nat} {E : List Ent} {top : Nat} (h : RT base w rb W M q cap E top) (i : Nat) (e : Ent) (he : E[i]? = some e) : ArgI w e.kv e.key ∧ e.key.length = W :=
  ⟨ownsRow_arg (h.keys e (List.mem_of_getElem? he)).1, (h.keys e (List.mem_of_getElem? he)).2⟩
theorem RT.kept {base : Nat} {w w' : World} {rb W M : Nat} {q : Option Addr} {cap : Nat} {E : List Ent} {top : Nat} (h : RT base w rb W M q cap E top) (hb : Below w.heap.size w w') : RT base w' rb W M q cap E top :=
  ⟨(hb.block _ (lt_of_heap h.hb)).trans h.hb, ownsRow_below h.own hb, fun e he => ⟨ownsRow_below (h.keys e he).1 hb, (h.keys e he).2⟩, h.few⟩

set_option maxRecDepth 100000 in
set_option maxHeartbeats 2000000 in
theorem rat_c {base : Nat} {w : World} {b W M : Nat} {q : Option Addr} {cap : Nat} {E : List Ent} {top : Nat} (h : RT base w b W M q cap E top) {v : Value} {k : List Int} (hz : ArgI w v k) (hl : k.length = W) :
    Calls Try.prog 44 #[.pointer (some ⟨b, 0, none⟩), v] w fun e w' => e = .returned (.tuple #[.int .i64 (atI k E).1, .bool (atI k E).2]) ∧ Below w.heap.size w w' := by
  have H : Hid (RT base w b W M q cap E top) := h
  have HZ : Hid (ArgI w v k) := hz
  obtain ⟨qk, capk, rfl, hlen, _⟩ := hz.slice
  have hfew := h.few
  have c0 : w.cell? ⟨b, 0, none⟩ = some (.int .i64 W) := cell_row h.hb (i := 0) rfl
  have c2 : w.cell? ⟨b, 2, none⟩ = some (.slice q E.length cap) := cell_row h.hb (i := 2) rfl
  clear hz h
  subst hl
  have e0 : ((k.length : Int) != (k.length : Int)) = false := by simp
  go_enter Try.func44, Try.ntmps44
  go_wp2
  go_loopw [6] (fun i wx => ∃ j : Nat, i = .int .i64 (j : Nat) ∧ j ≤ E.length ∧ (atI k E).1 = j + (atI k (E.drop j)).1 ∧ (atI k E).2 = (atI k (E.drop j)).2 ∧ Below w.heap.size w wx) (fun i _ => E.length - (intOf i).toNat)
  case atStart => exact ⟨0, rfl, Nat.zero_le _, by simp, by simp, Below.refl _ _⟩
  case round =>
    obtain ⟨j, rfl, hj, hA1, hA2, hB⟩ := hrel
    have B : Hid (Below w.heap.size w wr) := hB
    have A12 : Hid ((atI k E).1 = j + (atI k (E.drop j)).1 ∧ (atI k E).2 = (atI k (E.drop j)).2) := ⟨hA1, hA2⟩
    have HR : Hid (RT base wr b k.length M q cap E top) := H.out.kept hB
    clear hA1 hA2 hB c0 c2
    have c2 : wr.cell? ⟨b, 2, none⟩ = some (.slice q E.length cap) := cell_row HR.out.hb (i := 2) rfl
    by_cases hlt : j < E.length
    · obtain ⟨e, he⟩ : ∃ e, E[j]? = some e := ⟨_, List.getElem?_eq_getElem hlt⟩
      obtain ⟨g, rfl, hg, ck, cv⟩ := HR.out.row j e he
      have HK : Hid (ArgI wr e.kv e.key ∧ e.key.length = k.length) := HR.out.key j e he
      have HZ2 : Hid (ArgI wr (.slice qk k.length capk) k) := HZ.out.below B.out rfl
      have HD : Hid (E.drop j = e :: E.drop (j + 1)) := (by
        rw [List.drop_eq_getElem_cons hlt]
        rw [List.getElem?_eq_getElem hlt] at he
        cases he
        rfl : E.drop j = e :: E.drop (j + 1))
      clear he cv
      have i0 : (0 : Int) ≤ (j : Int) := by omega
      have i1 : (j : Int) < (E.length : Int) := by omega
      by_cases hc : lexC e.key k < 0
      · have d1 : decide (0 ≤ lexC e.key k) = false := by simp; omega
        have d2 : ¬ (0 ≤ lexC e.key k) := by omega
        go_wp2_with (go_at_call 43; (with_reducible refine (compare_c HK.out.1 HZ2.out HK.out.2).mono ?_); rintro e2 w2 ⟨rfl, hb⟩; have B2 : Hid (Below w.heap.size w w2) := chain B.out hb (Nat.le_refl _); clear hb)
        go_roundw
        case rel => exact ⟨j + 1, by go_num, by omega, by have := A12.out.1; rw [HD.out, atI_lt hc] at this; simp only at this; omega, by have := A12.out.2; rw [HD.out, atI_lt hc] at this; exact this, B2.out⟩
        case measure => simp [intOf]; omega
      · have d2 : 0 ≤ lexC e.key k := by omega
        go_wp2_with (go_at_call 43; (with_reducible refine (compare_c HK.out.1 HZ2.out HK.out.2).mono ?_); rintro e2 w2 ⟨rfl, hb⟩; have B2 : Hid (Below w.heap.size w w2) := chain B.out hb (Nat.le_refl _); clear hb)
        go_ret2
        refine ⟨?_, B2.out⟩
        obtain ⟨a1, a2⟩ := A12.out
        rw [HD.out, atI_ge d2] at a1 a2
        rw [a1, a2]
        rfl
    · have i1 : ¬ ((j : Int) < (E.length : Int)) := by omega
      have HD : Hid (E.drop j = []) := (List.drop_of_length_le (by omega) : E.drop j = [])
      obtain rfl : j = E.length := by omega
      go_wp2
      go_ret2
      refine ⟨?_, B.out⟩
      obtain ⟨a1, a2⟩ := A12.out
      rw [HD.out] at a1 a2
      rw [a1, a2]
      rfl

set_option maxRecDepth 100000 in
set_option maxHeartbeats 2000000 in
theorem rat_wide {base : Nat} {w : World} {b W M : Nat} {q : Option Addr} {cap : Nat} {E : List Ent} {top : Nat} (h : RT base w b W M q cap E top) {v : Value} {k : List Int} (hz : ArgI w v k) (hl : k.length ≠ W) :
    Calls Try.prog 44 #[.pointer (some ⟨b, 0, none⟩), v] w fun e w' => e = .returned (.tuple #[.int .i64 0, .bool false]) ∧ w' = w := by
  obtain ⟨qk, capk, rfl, hlen, _⟩ := hz.slice
  have c0 : w.cell? ⟨b, 0, none⟩ = some (.int .i64 W) := cell_row h.hb (i := 0) rfl
  clear hz h
  have e0 : ((k.length : Int) != (W : Int)) = true := by simp; omega
  have e1 : (k.length != W) = true := by simp; omega
  go_enter Try.func44, Try.ntmps44
  go_wp2
  go_ret2
  exact ⟨rfl, rfl⟩

/-- What the document's table tells of a key. -/
def rgetV (W : Nat) (k : List Int) (E : List Ent) : Option Int := if k.length = W ∧ (atI k E).2 = true then (E[(atI k E).1]?).map Ent.val else none
theorem atI_at (key : List Int) : ∀ E : List Ent, (atI key E).2 = true → ∃ e, E[(atI key E).1]? = some e ∧ lexC e.key key = 0
  | [] => fun h => by cases h
  | e :: r => fun h => by
    by_cases hc : lexC e.key key < 0
    · rw [atI_lt hc] at h ⊢
      simpa using atI_at key r h
    · rw [atI_ge (by omega)] at h ⊢
      exact ⟨e, rfl, by simpa using h⟩

set_option maxRecDepth 100000 in
set_option maxHeartbeats 2000000 in
theorem rget_c {base : Nat} {w : World} {b W M : Nat} {q : Option Addr} {cap : Nat} {E : List Ent} {top : Nat} (h : RT base w b W M q cap E top) {v : Value} {k : List Int} (hz : ArgI w v k) :
    Calls Try.prog 30 #[.pointer (some ⟨b, 0, none⟩), v] w fun e w' => e = .returned (.tuple #[.int .i64 (getV (rgetV W k E)), .bool (rgetV W k E).isSome]) ∧ Below w.heap.size w w' := by
  have H : Hid (RT base w b W M q cap E top) := h
  have HZ : Hid (ArgI w v k) := hz
  have hfew := h.few
  clear h hz
  by_cases hl : k.length = W
  · have HL : Hid (k.length = W) := hl
    cases ht : (atI k E).2 with
    | false =>
      have HV : Hid (rgetV W k E = none) := (if_neg (by rw [ht]; simp) : rgetV W k E = none)
      have HT : Hid ((atI k E).2 = false) := ht
      rw [HV.out]
      clear ht hl
      go_enter Try.func30, Try.ntmps30
      go_wp2_with (go_at_call 44; (with_reducible refine (rat_c H.out HZ.out HL.out).mono ?_); rw [HT.out]; rintro e w2 ⟨rfl, hb⟩; have B2 : Hid (Below w.heap.size w w2) := hb; clear hb)
      go_ret2
      exact ⟨rfl, B2.out⟩
    | true =>
      obtain ⟨e, he, _⟩ := atI_at k E ht
      have HV : Hid (rgetV W k E = some e.val) := (by unfold rgetV; rw [if_pos ⟨hl, ht⟩, he]; rfl : rgetV W k E = some e.val)
      have HT : Hid ((atI k E).2 = true) := ht
      rw [HV.out]
      obtain ⟨j, hj⟩ : ∃ j, (atI k E).1 = j := ⟨_, rfl⟩
      rw [hj] at he
      have HJ : Hid ((atI k E).1 = j) := hj
      have hjl : j < E.length := (List.getElem?_eq_some_iff.1 he).1
      have HE : Hid (E[j]? = some e) := he
      have i0 : (0 : Int) ≤ (j : Int) := by omega
      have i1 : (j : Int) < (E.length : Int) := by omega
      clear ht hl hj he
      go_enter Try.func30, Try.ntmps30
      go_wp2_with (go_at_call 44; (with_reducible refine (rat_c H.out HZ.out HL.out).mono ?_); rw [HT.out, HJ.out]; rintro e2 w2 ⟨rfl, hb⟩; have B2 : Hid (Below w.heap.size w w2) := hb; have H2 : Hid (RT base w2 b W M q cap E top) := H.out.kept hb; clear hb; obtain ⟨g, rfl, hg, ck, cv⟩ := H2.out.row j e HE.out; have c2 : w2.cell? ⟨b, 2, none⟩ = some (.slice (some ⟨g, 0, none⟩) E.length cap) := cell_row H2.out.hb (i := 2) rfl)
      go_ret2
      exact ⟨rfl, B2.out⟩
  · have HL : Hid (k.length ≠ W) := hl
    have HV : Hid (rgetV W k E = none) := (if_neg (fun q => hl q.1) : rgetV W k E = none)
    rw [HV.out]
    clear hl
    go_enter Try.func30, Try.ntmps30
    go_wp2_with (go_at_call 44; (with_reducible refine (rat_wide H.out HZ.out HL.out).mono ?_); rintro e w2 ⟨rfl, hb⟩; subst w2)
    go_ret2
    exact ⟨rfl, Below.refl _ _⟩

set_option maxRecDepth 100000 in
set_option maxHeartbeats 2000000 in
theorem rclear_c {base : Nat} {w : World} {b W M : Nat} {q : Option Addr} {cap : Nat} {E : List Ent} {top : Nat} (h : RT base w b W M q cap E top) :
    Calls Try.prog 33 #[.pointer (some ⟨b, 0, none⟩)] w fun e w' => e = .returned (.tuple #[]) ∧ RT base w' b W M none 0 [] 0 ∧ Fr (fun j => j = b) w w' := by
  have H : Hid (RT base w b W M q cap E top) := h
  have f2 := frz_row h.hb 2
  have f3 := frz_row h.hb 3
  have c2 : w.cell? ⟨b, 2, none⟩ = some (.slice q E.length cap) := cell_row h.hb (i := 2) rfl
  have c3 : w.cell? ⟨b, 3, none⟩ = some (.int .i64 top) := cell_row h.hb (i := 3) rfl
  clear h
  go_enter Try.func33, Try.ntmps33
  go_wp2
  go_end0
  refine ⟨rfl, ⟨heap_set_in (heap_set_in H.out.hb 2 _) 3 _, World.ownsRow_nil _ _ _ _, fun e he => by simp at he, Nat.zero_le _⟩, ?_⟩
  exact ((Fr.refl (fun j => j = b) w).setCell (S := fun j => j = b) (p := ⟨b, 2, none⟩) rfl _).setCell (S := fun j => j = b) (p := ⟨b, 3, none⟩) rfl _

set_option maxRecDepth 100000 in
set_option maxHeartbeats 2000000 in
/-- A key that is there. -/
theorem rput_old {base : Nat} {w : World} {b W M : Nat} {q : Option Addr} {cap : Nat} {E : List Ent} {top : Nat} (h : RT base w b W M q cap E top) {v : Value} {k : List Int} (hz : ArgI w v k) (hl : k.length = W) (x : Int) (ht : (atI k E).2 = true) :
    Calls Try.prog 29 #[.pointer (some ⟨b, 0, none⟩), v, .int .i64 x] w fun e w' => e = .returned (.int .i64 0) ∧ ∃ g e0, q = some ⟨g, 0, none⟩ ∧ E[(atI k E).1]? = some e0 ∧ RT base w' b W M q cap (E.set (atI k E).1 ⟨e0.kv, e0.key, x⟩) top ∧ Fr (fun j => j = g) w w' := by
  have H : Hid (RT base w b W M q cap E top) := h
  have HZ : Hid (ArgI w v k) := hz
  have HL : Hid (k.length = W) := hl
  have HT : Hid ((atI k E).2 = true) := ht
  obtain ⟨e, he, _⟩ := atI_at k E ht
  obtain ⟨j, hj⟩ : ∃ j, (atI k E).1 = j := ⟨_, rfl⟩
  rw [hj] at he ⊢
  have HJ : Hid ((atI k E).1 = j) := hj
  have hjl : j < E.length := (List.getElem?_eq_some_iff.1 he).1
  have HE : Hid (E[j]? = some e) := he
  have hfew := h.few
  have i0 : (0 : Int) ≤ (j : Int) := by omega
  have i1 : (j : Int) < (E.length : Int) := by omega
  obtain ⟨qk, capk, rfl, hlen, _⟩ := hz.slice
  have c0 : w.cell? ⟨b, 0, none⟩ = some (.int .i64 W) := cell_row h.hb (i := 0) rfl
  clear ht hj he h hz
  subst hl
  have e0 : ((k.length : Int) != (k.length : Int)) = false := by simp
  go_enter Try.func29, Try.ntmps29
  go_wp2_with (go_at_call 44; (with_reducible refine (rat_c H.out HZ.out rfl).mono ?_); rw [HT.out, HJ.out]; rintro e2 w2 ⟨rfl, hb⟩; have B2 : Hid (Below w.heap.size w w2) := hb; have H2 : Hid (RT base w2 b k.length M q cap E top) := H.out.kept hb; clear hb; obtain ⟨g, rfl, hg, ck, cv⟩ := H2.out.row j e HE.out; have c2 : w2.cell? ⟨b, 2, none⟩ = some (.slice (some ⟨g, 0, none⟩) E.length cap) := cell_row H2.out.hb (i := 2) rfl; have fz := World.ownsRow.frozenAt H2.out.own (j * 2 + 1))
  go_ret
  obtain ⟨cur, hcur⟩ := H2.out.heap
  have hf : Fr (fun j => j = g) w2 (w2.setCell ⟨g, j * 2 + 1, none⟩ (.int .i64 x)) := (Fr.refl (fun j => j = g) w2).setCell (S := fun j => j = g) (p := ⟨g, j * 2 + 1, none⟩) rfl _
  refine ⟨rfl, g, e, rfl, HE.out, ⟨?_, ?_, ?_, ?_⟩, (Fr.of_below B2.out).trans hf⟩
  · rw [List.length_set]
    exact (hf.block _ (lt_of_heap H2.out.hb) (fun q => ne_type H2.out.hb hcur (by decide) q)).trans H2.out.hb
  · rw [List.length_set, cellsR_set _ _ _ _ HE.out]
    exact (World.ownsRow.stored H2.out.own _ _).1
  · intro e' he'
    have hk : ∀ e' ∈ E, (w2.setCell ⟨g, j * 2 + 1, none⟩ (.int .i64 x)).ownsRow base 3 1 e'.kv e'.key.length (ints e'.key) ∧ e'.key.length = k.length := fun e' he' =>
      ⟨ownsRow_fr (H2.out.keys e' he').1 hf (fun k' cs hk' q => ne_type q hcur (by decide) hk'), (H2.out.keys e' he').2⟩
    rcases List.mem_or_eq_of_mem_set he' with q | rfl
    · exact hk e' q
    · exact hk e (List.mem_of_getElem? HE.out)
  · rw [List.length_set]; exact H2.out.few

set_option maxRecDepth 100000 in
set_option maxHeartbeats 2000000 in
/-- A key of another width. -/
theorem rput_wide {base : Nat} {w : World} {b W M : Nat} {q : Option Addr} {cap : Nat} {E : List Ent} {top : Nat} (h : RT base w b W M q cap E top) {v : Value} {k : List Int} (hz : ArgI w v k) (hl : k.length ≠ W) (x : Int) :
    Calls Try.prog 29 #[.pointer (some ⟨b, 0, none⟩), v, .int .i64 x] w fun e w' => e = .returned (.int .i64 11) ∧ w' = w := by
  obtain ⟨qk, capk, rfl, hlen, _⟩ := hz.slice
  have c0 : w.cell? ⟨b, 0, none⟩ = some (.int .i64 W) := cell_row h.hb (i := 0) rfl
  clear hz h
  have e0 : ((k.length : Int) != (W : Int)) = true := by simp; omega
  have e1 : (k.length != W) = true := by simp; omega
  go_enter Try.func29, Try.ntmps29
  go_wp2
  go_ret
  exact ⟨rfl, rfl⟩

set_option maxRecDepth 100000 in
set_option maxHeartbeats 2000000 in
/-- No room. -/
theorem rput_full {base : Nat} {w : World} {b W M : Nat} {q : Option Addr} {cap : Nat} {E : List Ent} {top : Nat} (h : RT base w b W M q cap E top) {v : Value} {k : List Int} (hz : ArgI w v k) (hl : k.length = W) (x : Int) (ht : (atI k E).2 = false) (hM : M ≤ E.length) :
    Calls Try.prog 29 #[.pointer (some ⟨b, 0, none⟩), v, .int .i64 x] w fun e w' => e = .returned (.int .i64 10) ∧ Below w.heap.size w w' := by
  have H : Hid (RT base w b W M q cap E top) := h
  have HZ : Hid (ArgI w v k) := hz
  have HT : Hid ((atI k E).2 = false) := ht
  have hfew := h.few
  obtain ⟨qk, capk, rfl, hlen, _⟩ := hz.slice
  have c0 : w.cell? ⟨b, 0, none⟩ = some (.int .i64 W) := cell_row h.hb (i := 0) rfl
  clear ht h hz
  subst hl
  have e0 : ((k.length : Int) != (k.length : Int)) = false := by simp
  obtain ⟨j, hj⟩ : ∃ j, (atI k E).1 = j := ⟨_, rfl⟩
  have HJ : Hid ((atI k E).1 = j) := hj
  clear hj
  go_enter Try.func29, Try.ntmps29
  go_wp2_with (go_at_call 44; (with_reducible refine (rat_c H.out HZ.out rfl).mono ?_); rw [HT.out, HJ.out]; rintro e2 w2 ⟨rfl, hb⟩; have B2 : Hid (Below w.heap.size w w2) := hb; have H2 : Hid (RT base w2 b k.length M q cap E top) := H.out.kept hb; clear hb; have c1 : w2.cell? ⟨b, 1, none⟩ = some (.int .i64 M) := cell_row H2.out.hb (i := 1) rfl; have c2 : w2.cell? ⟨b, 2, none⟩ = some (.slice q E.length cap) := cell_row H2.out.hb (i := 2) rfl; have hbl := lt_of_heap H2.out.hb)
  refine wp_region_ext (by kernel_rfl) (by kernel_rfl) ?_
  repeat (go_big_quiet_step (first | exact rfl))
  refine wpQuiet_nil ?_
  intro w5 hw
  have B5 : Hid (Below w.heap.size w w5) := chain B2.out (ext_of hw) (Nat.le_refl _)
  clear hw c0 c1 c2
  have e1 : decide (M ≤ E.length) = true := by simp; omega
  go_wp2
  go_ret
  exact ⟨rfl, B5.out⟩
end Go.Proofs.Ytmfljfedpdipiaa
