/-
  Places and Decode: contracts.
-/
import Derived.Test.YtihmnibopeljaaaDoorUnits2
namespace Go.Proofs.YtihmnibopeljaaaDoor
open Go Go.RowKit

theorem news1 (W : World) (a : Value) (t : TypeId) : ∀ (j : Nat) (u : Value), [a][j]? = some u → (W.alloc (.cells #[a] t)).cell? ((⟨W.heap.size, 0, none⟩ : Addr).add j) = some u := by
  intro j u h
  match j, h with
  | 0, h => simp at h; subst h; simp [Addr.add]

/-- A text that is gone through beside a list of one's own (cells of the type e). -/
structure RI (s : ByteArray) (w : World) (k pos : Nat) (e : TypeId) (v : Value) (n : Nat) (L : List Value) (wr : World) : Prop where
  lo : w.heap.size ≤ k
  it : wr.heap[k]? = some (.stringIter s pos)
  own : wr.ownsRow w.heap.size e 1 v n L
  bel : Below w.heap.size w wr
theorem RI.len {s : ByteArray} {w wr : World} {k pos n : Nat} {e : TypeId} {v : Value} {L : List Value} (h : RI s w k pos e v n L wr) : w.heap.size ≤ wr.heap.size := h.bel.size
theorem own_iterAt {wr : World} {base k p p' n : Nat} {e : TypeId} {s : ByteArray} {v : Value} {L : List Value} (h : wr.ownsRow base e 1 v n L) (hk : wr.heap[k]? = some (.stringIter s p)) : (wr.iterAt k s p').ownsRow base e 1 v n L := by
  obtain ⟨h1, h2 | ⟨g, cap, cur, q1, q2, q3, q4⟩⟩ := h
  · exact ⟨h1, .inl h2⟩
  · refine ⟨h1, .inr ⟨g, cap, cur, q1, q2, ?_, q4⟩⟩
    rw [Lib.iterAt_other _ _ _ _ _ (fun q => by rw [q, hk] at q3; cases q3)]
    exact q3
theorem RI.next {s : ByteArray} {w wr : World} {k pos n : Nat} {e : TypeId} {v : Value} {L : List Value} (h : RI s w k pos e v n L wr) (p : Nat) : RI s w k p e v n L (wr.iterAt k s p) :=
  ⟨h.lo, Lib.iterAt_heap wr k s pos p h.it, own_iterAt h.own h.it, iter_below h.bel h.lo p⟩
theorem RI.app {s : ByteArray} {w wr w6 : World} {k pos n m : Nat} {e : TypeId} {v v' : Value} {L M : List Value} {o : Obj} (h : RI s w k pos e v n L wr) (hown : w6.ownsRow w.heap.size e 1 v' m M) (hg : (wr.alloc o).grownBy w6 v.ownBlock) : RI s w k pos e v' m M w6 := by
  have hk := lt_of_heap h.it
  refine ⟨h.lo, ?_, hown, ?_⟩
  · rw [hg.block k (by simp; omega) ?_, Below.heap_alloc _ _ _ hk]
    · exact h.it
    · intro q
      obtain ⟨_, _, cur, hc⟩ := ownsRow_at h.own q.symm
      rw [h.it] at hc; cases hc
  · exact chainF h.bel (((Fr.refl (fun z => v.ownBlock = some z) wr).alloc _).grown hg (fun z hz => hz)) (Nat.le_refl _) (fun z hz => (ownsRow_at h.own hz).1)
theorem RI.app0 {s : ByteArray} {w wr w6 : World} {k pos n m : Nat} {e : TypeId} {v v' : Value} {L M : List Value} (h : RI s w k pos e v n L wr) (hown : w6.ownsRow w.heap.size e 1 v' m M) (hg : wr.grownBy w6 v.ownBlock) : RI s w k pos e v' m M w6 := by
  have hk := lt_of_heap h.it
  refine ⟨h.lo, ?_, hown, ?_⟩
  · rw [hg.block k hk ?_]
    · exact h.it
    · intro q
      obtain ⟨_, _, cur, hc⟩ := ownsRow_at h.own q.symm
      rw [h.it] at hc; cases hc
  · exact chainF h.bel ((Fr.refl (fun z => v.ownBlock = some z) wr).grown hg (fun z hz => hz)) (Nat.le_refl _) (fun z hz => (ownsRow_at h.own hz).1)

/-- The places, and the characters, of units. -/
def plc (l : List (Nat × Int)) : List Int := l.map fun u => (u.1 : Int)
def chs (l : List (Nat × Int)) : List Int := l.map fun u => u.2
theorem plc_len (l : List (Nat × Int)) : (plc l).length = l.length := by simp [plc]
theorem chs_len (l : List (Nat × Int)) : (chs l).length = l.length := by simp [chs]

set_option maxHeartbeats 4000000 in
set_option maxRecDepth 1000000 in
theorem places_c (s : ByteArray) (w : World) (hs : s.size ≤ 1099511627776) :
    Calls Tryd.prog 21 #[.string s] w fun e w' => ∃ v, e = .returned v ∧ w'.ownsRow w.heap.size 3 1 v ((us s).length + 1) (ints (plc (us s) ++ [(s.size : Int)])) ∧ Below w.heap.size w w' := by
  obtain ⟨t0, hi, hz0, hz1, hz2⟩ := info_parts size_int
  go_enter Tryd.func21, Tryd.ntmps21
  go_wp2
  go_loopw [3] (fun t wr => ∃ (pos f : Nat) (acc : List (Nat × Int)), RI s w w.heap.size pos 3 t acc.length (ints (plc acc)) wr ∧ acc ++ uFrom s f pos = us s ∧ s.size ≤ pos + f ∧ acc.length ≤ pos) (fun _ wr => s.size - wr.iterPos w.heap.size)
  case atStart => exact ⟨0, s.size, [], ⟨Nat.le_refl _, World.iter_heap w s 0, World.ownsRow_nil _ _ _ _, (Below.refl _ w).alloc (Nat.le_refl _) _⟩, rfl, by omega, by simp⟩
  case round =>
    obtain ⟨pos, f, acc, hR, hacc, hfu, hap⟩ := hrel
    obtain ⟨q, c, rfl⟩ := ownsRow_shape hR.own
    have R : Hid _ := hR
    have A : Hid (acc ++ uFrom s f pos = us s) := hacc
    have hit := hR.it
    have hsz := hR.len
    clear hR hacc
    by_cases hp : pos < s.size
    · obtain ⟨W2, hW2⟩ : ∃ W2, wr.iterAt w.heap.size s (pos + wd s pos) = W2 := ⟨_, rfl⟩
      have hnx : ∀ ty, (Instr.next (.pointer (some ⟨w.heap.size, 0, none⟩)) true ty).run Tryd.prog wr = .ok (.tuple #[.bool true, .int .i64 (pos : Int), .int .i32 ((Utf8.decode s pos).1 : Int)]) W2 := fun ty => by rw [← hW2]; exact Lib.run_next_any_at wr w.heap.size s pos ty hit hp
      have R2 : Hid (RI s w w.heap.size (pos + wd s pos) 3 (.slice q acc.length c) acc.length (ints (plc acc)) W2) := by rw [← hW2]; exact R.out.next (pos + wd s pos)
      clear hW2
      obtain ⟨f, rfl⟩ : ∃ g, f = g + 1 := ⟨f - 1, by omega⟩
      have A2 := A.out
      rw [uFrom_more s f pos hp] at A2
      have A3 : Hid (acc ++ ((pos, ch s pos) :: uFrom s f (pos + wd s pos)) = us s) := A2
      have hw := wd_pos s pos
      have hwd := (wd_le s pos hp).2
      have I : Hid (wr.heap[w.heap.size]? = some (.stringIter s pos)) := hit
      clear A2 hit
      have hsz2 := R2.out.len
      go_wp2_with (at_builtin; refine wpList_append_own_at _ rfl _ _ 22 rfl w.heap.size 3 t0 (.int .i64 0) 1 8 und_ints hi hz0 hz1 hz2 rfl (by decide) (.slice q acc.length c) acc.length (ints (plc acc)) rfl (World.ownsRow.alloc R2.out.own (.cells #[.int .i64 (pos : Int)] 3)) ⟨W2.heap.size, 0, none⟩ 1 1 [.int .i64 (pos : Int)] rfl rfl (news1 _ _ _) (by simp [Value.oneCell']) (by unfold maxLen; omega) (by omega) (by simp; omega) ?_; intro v' w6 hown' hgrow _ hblk; obtain ⟨g6, cap6, rfl⟩ := ownsRow_some hown' (Nat.succ_pos _); have R6 : Hid (RI s w w.heap.size (pos + wd s pos) 3 (.slice (some ⟨g6, 0, none⟩) (acc.length + 1) cap6) (acc.length + 1) (ints (plc acc) ++ [.int .i64 (pos : Int)]) w6) := R2.out.app hown' hgrow; clear hown' hgrow hblk)
      go_roundw
      case rel =>
        refine ⟨pos + wd s pos, f, acc ++ [(pos, ch s pos)], ?_, by rw [← A3.out]; simp, by omega, by simp; omega⟩
        have := R6.out
        rw [List.length_append, List.length_singleton, plc, List.map_append, ints_append]
        exact this
      case measure =>
        simp only [World.iterPos, R6.out.it, I.out]
        omega
    · have hnx : ∀ ty, (Instr.next (.pointer (some ⟨w.heap.size, 0, none⟩)) true ty).run Tryd.prog wr = _ := fun ty => Lib.run_next_end_at wr w.heap.size s pos ty hit hp
      have hl := us_length s
      have A2 := A.out
      rw [uFrom_end s f pos hp, List.append_nil] at A2
      rw [← A2] at hl
      have A3 : Hid (acc = us s) := A2
      clear hit A2
      go_wp2_with (at_builtin; refine wpList_append_own_at _ rfl _ _ 22 rfl w.heap.size 3 t0 (.int .i64 0) 1 8 und_ints hi hz0 hz1 hz2 rfl (by decide) (.slice q acc.length c) acc.length (ints (plc acc)) rfl (World.ownsRow.alloc R.out.own (.cells #[.int .i64 (s.size : Int)] 3)) ⟨wr.heap.size, 0, none⟩ 1 1 [.int .i64 (s.size : Int)] rfl rfl (news1 _ _ _) (by simp [Value.oneCell']) (by unfold maxLen; omega) (by omega) (by simp; omega) ?_; intro v' w6 hown' hgrow _ hblk; obtain ⟨g6, cap6, rfl⟩ := ownsRow_some hown' (Nat.succ_pos _); have R6 : Hid (RI s w w.heap.size pos 3 (.slice (some ⟨g6, 0, none⟩) (acc.length + 1) cap6) (acc.length + 1) (ints (plc acc) ++ [.int .i64 (s.size : Int)]) w6) := R.out.app hown' hgrow; clear hown' hgrow hblk)
      go_ret
      refine ⟨_, rfl, ?_, R6.out.bel⟩
      rw [← A3.out, ints_append]
      exact R6.out.own

/-- Are all units characters? -/
def good (l : List (Nat × Int)) : Bool := l.all fun u => decide (0 ≤ u.2)
def dErr (l : List (Nat × Int)) : Int := if good l then 0 else 20
def dList (l : List (Nat × Int)) : List Int := if good l then chs l else []
set_option maxHeartbeats 4000000 in
set_option maxRecDepth 1000000 in
theorem decode_c (s : ByteArray) (w : World) (hs : s.size ≤ 1099511627776) :
    Calls Tryd.prog 17 #[.string s] w fun e w' => ∃ v, e = .returned (.tuple #[v, .int .i64 (dErr (us s))]) ∧ w'.ownsRow w.heap.size 3 1 v (dList (us s)).length (ints (dList (us s))) ∧ Below w.heap.size w w' := by
  obtain ⟨t0, hi, hz0, hz1, hz2⟩ := info_parts size_int
  go_enter Tryd.func17, Tryd.ntmps17
  go_wp2
  go_loopw [4] (fun t wr => ∃ (pos f : Nat) (acc : List (Nat × Int)), RI s w w.heap.size pos 3 t acc.length (ints (chs acc)) wr ∧ acc ++ uFrom s f pos = us s ∧ good acc = true ∧ s.size ≤ pos + f ∧ acc.length ≤ pos) (fun _ wr => s.size - wr.iterPos w.heap.size)
  case atStart => exact ⟨0, s.size, [], ⟨Nat.le_refl _, World.iter_heap w s 0, World.ownsRow_nil _ _ _ _, (Below.refl _ w).alloc (Nat.le_refl _) _⟩, rfl, rfl, by omega, by simp⟩
  case round =>
    obtain ⟨pos, f, acc, hR, hacc, hgd, hfu, hap⟩ := hrel
    obtain ⟨q, c, rfl⟩ := ownsRow_shape hR.own
    have R : Hid _ := hR
    have A : Hid (acc ++ uFrom s f pos = us s) := hacc
    have G : Hid (good acc = true) := hgd
    have hit := hR.it
    have hsz := hR.len
    clear hR hacc hgd
    by_cases hp : pos < s.size
    · obtain ⟨W2, hW2⟩ : ∃ W2, wr.iterAt w.heap.size s (pos + wd s pos) = W2 := ⟨_, rfl⟩
      have hnx : ∀ ty, (Instr.next (.pointer (some ⟨w.heap.size, 0, none⟩)) true ty).run Tryd.prog wr = .ok (.tuple #[.bool true, .int .i64 (pos : Int), .int .i32 ((Utf8.decode s pos).1 : Int)]) W2 := fun ty => by rw [← hW2]; exact Lib.run_next_any_at wr w.heap.size s pos ty hit hp
      have R2 : Hid (RI s w w.heap.size (pos + wd s pos) 3 (.slice q acc.length c) acc.length (ints (chs acc)) W2) := by rw [← hW2]; exact R.out.next (pos + wd s pos)
      clear hW2
      obtain ⟨f, rfl⟩ : ∃ g, f = g + 1 := ⟨f - 1, by omega⟩
      have A2 := A.out
      rw [uFrom_more s f pos hp] at A2
      have A3 : Hid (acc ++ ((pos, ch s pos) :: uFrom s f (pos + wd s pos)) = us s) := A2
      have hw := wd_pos s pos
      have hwd := (wd_le s pos hp).2
      have I : Hid (wr.heap[w.heap.size]? = some (.stringIter s pos)) := hit
      have hc := broken_c s pos
      have hdl := dec_le s pos
      clear A2 hit
      have hsz2 := R2.out.len
      rcases hb : bad s pos with _ | _
      · have e1 : Hid (ch s pos = (Utf8.decode s pos).1) := ch_good hb
        obtain ⟨r, hr⟩ : ∃ r, (Utf8.decode s pos).1 = r := ⟨_, rfl⟩
        rw [hr] at hnx hc hdl
        have e2' : ch s pos = (r : Int) := by rw [e1.out, hr]
        have e2 : Hid (ch s pos = (r : Int)) := e2'
        clear e2'
        clear hr
        have hwr : IntKind.wrap .i64 (r : Int) = (r : Int) := wrap_small _ (by omega) (by omega)
        go_wp2_with first
          | (go_at_call 34; (with_reducible refine (hc _ hp).mono ?_); rw [hb]; rintro e w5 ⟨rfl, h5⟩; subst w5)
          | (at_builtin; refine wpList_append_own_at _ rfl _ _ 22 rfl w.heap.size 3 t0 (.int .i64 0) 1 8 und_ints hi hz0 hz1 hz2 rfl (by decide) (.slice q acc.length c) acc.length (ints (chs acc)) rfl (World.ownsRow.alloc R2.out.own (.cells #[.int .i64 (r : Int)] 3)) ⟨W2.heap.size, 0, none⟩ 1 1 [.int .i64 (r : Int)] rfl rfl (news1 _ _ _) (by simp [Value.oneCell']) (by unfold maxLen; omega) (by omega) (by simp; omega) ?_; intro v' w6 hown' hgrow _ hblk; obtain ⟨g6, cap6, rfl⟩ := ownsRow_some hown' (Nat.succ_pos _); have R6 : Hid (RI s w w.heap.size (pos + wd s pos) 3 (.slice (some ⟨g6, 0, none⟩) (acc.length + 1) cap6) (acc.length + 1) (ints (chs acc) ++ [.int .i64 (r : Int)]) w6) := R2.out.app hown' hgrow; clear hown' hgrow hblk)
        go_roundw
        case rel =>
          refine ⟨pos + wd s pos, f, acc ++ [(pos, ch s pos)], ?_, by rw [← A3.out]; simp, ?_, by omega, by simp; omega⟩
          · have := R6.out
            rw [List.length_append, List.length_singleton, chs, List.map_append, ints_append]
            simp only [List.map_cons, List.map_nil, e2.out]
            exact this
          · have := G.out
            simp only [good, List.all_append, Bool.and_eq_true] at this ⊢
            refine ⟨this, ?_⟩
            simp [e2.out]
        case measure =>
          simp only [World.iterPos, R6.out.it, I.out]
          omega
      · have e1 : Hid _ := ch_bad hb
        go_wp2_with (go_at_call 34; (with_reducible refine (hc _ hp).mono ?_); rw [hb]; rintro e w5 ⟨rfl, h5⟩; subst w5)
        go_ret2
        have hn : good (us s) = false := by
          rw [← A3.out]
          simp [good, e1.out.1]
        have d1 : dErr (us s) = 20 := by rw [dErr, hn]; rfl
        have d2 : dList (us s) = [] := by rw [dList, hn]; rfl
        rw [d1, d2]
        exact ⟨_, rfl, World.ownsRow_nil _ _ _ _, R2.out.bel⟩
    · have hnx : ∀ ty, (Instr.next (.pointer (some ⟨w.heap.size, 0, none⟩)) true ty).run Tryd.prog wr = _ := fun ty => Lib.run_next_end_at wr w.heap.size s pos ty hit hp
      have A2 := A.out
      rw [uFrom_end s f pos hp, List.append_nil] at A2
      have A3 : Hid (acc = us s) := A2
      clear hit A2
      go_wp2
      go_ret2
      have hG : good (us s) = true := by rw [← A3.out]; exact G.out
      have d1 : dErr (us s) = 0 := by rw [dErr, hG]; rfl
      have d2 : dList (us s) = chs acc := by rw [dList, hG, ← A3.out]; rfl
      rw [d1, d2, chs_len]
      exact ⟨_, rfl, R.out.own, R.out.bel⟩
end Go.Proofs.YtihmnibopeljaaaDoor
