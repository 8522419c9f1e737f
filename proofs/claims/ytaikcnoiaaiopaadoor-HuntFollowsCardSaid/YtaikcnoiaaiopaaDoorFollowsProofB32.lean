/-
  Parts of the proof.
-/
import Derived.Test.YtaikcnoiaaiopaaDoorFollowsProofB31
import Derived.Test.YtaikcnoiaaiopaaDoorFollowsProofB13
set_option linter.unusedSimpArgs false
namespace Go.Proofs.YtaikcnoiaaiopaaDoor
open Go Go.RowKit Go.Shelf
def fstO : Option (Nat × Nat) → Int × Int
  | none => (-1, -1)
  | some x => ((x.1 : Int), (x.2 : Int))
def fst' (l : List (Nat × Nat)) (m : Nat) : Int × Int := fstO (l.find? fun x => decide (m ≤ x.1))
def lst (l : List (Nat × Nat)) : Int × Int := fstO l.getLast?
def cnt (l : List (Nat × Nat)) (k : Nat) : Nat := l.countP fun x => decide (x.2 = k)
def cntC (l : List (Nat × Nat)) (n : Nat) : List Value := (List.range n).map fun k => .int .i64 (cnt l k : Int)
theorem lst_nil : lst [] = (-1, -1) := rfl
theorem fst_nil (m : Nat) : fst' [] m = (-1, -1) := rfl
theorem lst_snoc (l : List (Nat × Nat)) (x : Nat × Nat) : lst (l ++ [x]) = ((x.1 : Int), (x.2 : Int)) := by simp [lst, fstO]
theorem fst_neg {l : List (Nat × Nat)} {m : Nat} : (fst' l m).1 < 0 ↔ l.find? (fun x => decide (m ≤ x.1)) = none := by
  unfold fst'
  generalize l.find? (fun x => decide (m ≤ x.1)) = o
  rcases o with _ | x
  · simp [fstO]
  · simp [fstO]
theorem fst_snoc_new {l : List (Nat × Nat)} {m : Nat} (h : (fst' l m).1 < 0) {x : Nat × Nat} (hx : m ≤ x.1) : fst' (l ++ [x]) m = ((x.1 : Int), (x.2 : Int)) := by
  rw [fst_neg] at h
  unfold fst'
  rw [List.find?_append, h]
  simp [hx, fstO]
theorem fst_snoc_low {l : List (Nat × Nat)} {m : Nat} {x : Nat × Nat} (hx : ¬ m ≤ x.1) : fst' (l ++ [x]) m = fst' l m := by
  unfold fst'
  rw [List.find?_append]
  simp [hx]
theorem fst_snoc_old {l : List (Nat × Nat)} {m : Nat} (h : ¬ (fst' l m).1 < 0) (x : Nat × Nat) : fst' (l ++ [x]) m = fst' l m := by
  rw [fst_neg] at h
  unfold fst'
  rw [List.find?_append]
  obtain ⟨y, h2⟩ := Option.ne_none_iff_exists'.1 h
  rw [h2]; rfl
theorem cnt_snoc (l : List (Nat × Nat)) (p k j : Nat) : cnt (l ++ [(p, k)]) j = cnt l j + if k = j then 1 else 0 := by
  unfold cnt
  rw [List.countP_append]
  simp only [List.countP_cons, List.countP_nil, decide_eq_true_eq]
  omega
theorem cnt_le (l : List (Nat × Nat)) (k : Nat) : cnt l k ≤ l.length := List.countP_le_length
theorem cntC_len (l : List (Nat × Nat)) (n : Nat) : (cntC l n).length = n := by simp [cntC]
theorem cntC_get (l : List (Nat × Nat)) {n k : Nat} (h : k < n) : (cntC l n)[k]? = some (.int .i64 (cnt l k : Int)) := by
  unfold cntC
  rw [List.getElem?_map, List.getElem?_range h]; rfl
theorem cntC_snoc (l : List (Nat × Nat)) {p k n : Nat} (h : k < n) : cntC (l ++ [(p, k)]) n = (cntC l n).set k (.int .i64 ((cnt l k : Int) + 1)) := by
  refine List.ext_getElem? fun j => ?_
  rw [List.getElem?_set, cntC_len]
  by_cases hj : j < n
  · rw [cntC_get _ hj]
    by_cases hk : k = j
    · subst hk
      rw [if_pos rfl, if_pos h, cnt_snoc, if_pos rfl]
      push_cast; rfl
    · rw [if_neg hk, cntC_get _ hj, cnt_snoc, if_neg hk]; rfl
  · have h1 : (cntC (l ++ [(p, k)]) n)[j]? = none := List.getElem?_eq_none (by rw [cntC_len]; omega)
    have h2 : (cntC l n)[j]? = none := List.getElem?_eq_none (by rw [cntC_len]; omega)
    rw [h1, h2, if_neg (by omega)]
theorem cntC_nil (n : Nat) : cntC [] n = List.replicate n (.int .i64 0) := by
  refine List.ext_getElem? fun j => ?_
  by_cases hj : j < n
  · rw [cntC_get _ hj, List.getElem?_replicate, if_pos hj]; rfl
  · rw [List.getElem?_eq_none (by rw [cntC_len]; omega), List.getElem?_replicate, if_neg hj]
section
variable {ws : List ByteArray} {line : ByteArray} {l : List (Nat × Nat)} {p k : Nat}
theorem ext_bytes {a b : ByteArray} (h1 : a.size = b.size) (h2 : ∀ (i : Nat) (ha : i < a.size) (hb : i < b.size), a[i] = b[i]) : a = b := by
  obtain ⟨a⟩ := a
  obtain ⟨b⟩ := b
  have : a = b := Array.ext h1 (fun i ha hb => h2 i ha hb)
  rw [this]
theorem sd_extract {s : ByteArray} (h : cL false s <+: (cL false line).drop p) (h1 : 1 ≤ s.size) : line.extract p (p + s.size) = s := by
  have hl := sd_len h h1
  refine ext_bytes (by rw [ByteArray.size_extract]; omega) (fun i ha hb => ?_)
  rw [ByteArray.getElem_extract]
  obtain ⟨t, ht⟩ := h
  have h3 := cL_get false s hb
  have h4 := cL_get false line (i := p + i) (by omega)
  have h5 : ((cL false line).drop p)[i]? = (cL false line)[p + i]? := by rw [List.getElem?_drop]
  rw [← ht, List.getElem?_append_left (by rw [cL_len]; exact hb), h3, h4] at h5
  injection h5 with h5
  simp only [cB, Bool.false_eq_true, false_and, if_false] at h5
  exact (UInt8.toNat_inj.1 h5).symm
theorem round_facts (hok : mayB ws = true) (h : l ++ [(p, k)] <+: allM false ws line line.size) :
    ∃ s, ws[k]? = some s ∧ 1 ≤ s.size ∧ p + s.size ≤ line.size ∧ line.extract p (p + s.size) = s ∧ (lst l).1 ≤ (p : Int) ∧ ((lst l).1 = (p : Int) → (lst l).2 < (k : Int)) := by
  have hm : (p, k) ∈ allM false ws line line.size := h.subset (by simp)
  obtain ⟨_, s, hs, hp⟩ := allM_mem.1 hm
  have h1 := ((mayB_of hok).1 s (List.mem_of_getElem? hs)).1
  refine ⟨s, hs, h1, sd_len hp h1, sd_extract hp h1, ?_⟩
  have hr := (allM_rises (f := false) (ws := ws) (line := line) line.size).sublist h.sublist
  rw [List.pairwise_append] at hr
  unfold lst
  rcases h9 : l.getLast? with _ | x
  · exact ⟨by show (-1 : Int) ≤ _; omega, fun q => by have : (-1 : Int) = (p : Int) := q; omega⟩
  · have hb := hr.2.2 x (List.mem_of_getLast? h9) (p, k) (by simp)
    rcases hb with hb | ⟨hb, hc⟩
    · simp only at hb
      refine ⟨by show (x.1 : Int) ≤ _; omega, fun q => ?_⟩
      have q' : (x.1 : Int) = (p : Int) := q
      omega
    · simp only at hb hc
      exact ⟨by show (x.1 : Int) ≤ _; omega, fun _ => by show (x.2 : Int) < _; omega⟩
theorem told_len (h : l <+: allM false ws line line.size) (hok : mayB ws = true) : l.length ≤ line.size * 100 := by
  refine Nat.le_trans h.length_le (Nat.le_trans (allM_few _) ?_)
  exact Nat.mul_le_mul_left _ (mayB_of hok).2.2
def ones (ws : List ByteArray) (line : ByteArray) (k i : Nat) : Nat := (List.range i).countP fun p => sdB false ws line p k
theorem ones_next (ws : List ByteArray) (line : ByteArray) (k i : Nat) : ones ws line k (i + 1) = ones ws line k i + if sdB false ws line i k = true then 1 else 0 := by
  unfold ones
  rw [List.range_succ, List.countP_append]
  simp only [List.countP_cons, List.countP_nil]
  omega
theorem ones_le (ws : List ByteArray) (line : ByteArray) (k i : Nat) : ones ws line k i ≤ i := by
  unfold ones
  refine Nat.le_trans List.countP_le_length ?_
  simp
theorem ones_all (ws : List ByteArray) (line : ByteArray) (k : Nat) : cnt (allM false ws line line.size) k = ones ws line k line.size := allM_count k line.size
end
end Go.Proofs.YtaikcnoiaaiopaaDoor
namespace Go.Proofs.YtaikcnoiaaiopaaDoor
open Go Go.RowKit
def pk (c : Int) (n : Int) : Int := (if c < 0 then -(c + 1) else c).tmod n
theorem pk_range {c : Int} {n : Nat} (hn : 0 < n) : 0 ≤ pk c n ∧ pk c n < n := by
  unfold pk
  have h0 : 0 ≤ (if c < 0 then -(c + 1) else c) := by split <;> omega
  rw [Int.tmod_eq_emod_of_nonneg h0]
  exact ⟨Int.emod_nonneg _ (by omega), Int.emod_lt_of_pos _ (by omega)⟩
theorem wf_range {x : Int} (h : (Lit.int .i64 x).wf = true) : -9223372036854775808 ≤ x ∧ x ≤ 9223372036854775807 := by
  simp [Lit.wf, IntKind.min, IntKind.max, IntKind.signed, IntKind.bits] at h
  omega
set_option maxHeartbeats 1000000 in
theorem pick_c (c : Int) (n : Nat) (hn : 0 < n) (hs : n ≤ 1000000000000000000) (hc : (Lit.int .i64 c).wf = true) (w : World) :
    Calls Tryd.prog 18 #[.int .i64 c, .int .i64 n] w fun e w' => (∃ m : Nat, e = .returned (.int .i64 (m : Int)) ∧ m < n) ∧ w' = w := by
  have hr := wf_range hc
  have hq := pk_range (c := c) hn
  have hz : ¬ ((n : Int) = 0) := by omega
  by_cases h0 : c < 0
  · have e1 : IntKind.i64.wrap (c + 1) = c + 1 := by rw [IntKind.wrap_i64]; omega
    have e2 : IntKind.i64.wrap (-(c + 1)) = -(c + 1) := by rw [IntKind.wrap_i64]; omega
    have e4 : pk c n = (-(c + 1)).tmod n := by unfold pk; rw [if_pos h0]
    have e3 : IntKind.i64.wrap ((-(c + 1)).tmod n) = (-(c + 1)).tmod n := by rw [← e4, IntKind.wrap_i64]; omega
    have HE : Hid _ := e4
    have HQ : Hid _ := hq
    clear e4 hq
    go_enter Tryd.func18, Tryd.ntmps18
    go_wp2
    go_ret
    refine ⟨⟨(pk c n).toNat, ?_, ?_⟩, rfl⟩
    · have := HQ.out
      rw [Int.toNat_of_nonneg this.1, HE.out, Int.neg_tmod]; rfl
    · have := HQ.out; omega
  · have e4 : pk c n = c.tmod n := by unfold pk; rw [if_neg h0]
    have e3 : IntKind.i64.wrap (c.tmod n) = c.tmod n := by rw [← e4, IntKind.wrap_i64]; omega
    have HE : Hid _ := e4
    have HQ : Hid _ := hq
    clear e4 hq
    go_enter Tryd.func18, Tryd.ntmps18
    go_wp2
    go_ret
    refine ⟨⟨(pk c n).toNat, ?_, ?_⟩, rfl⟩
    · have := HQ.out
      rw [Int.toNat_of_nonneg this.1, HE.out, Int.tmod_eq_emod_of_nonneg h0]; rfl
    · have := HQ.out; omega
end Go.Proofs.YtaikcnoiaaiopaaDoor
