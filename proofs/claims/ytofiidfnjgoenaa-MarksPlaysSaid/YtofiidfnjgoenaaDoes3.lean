/-
  One call on a set and on the document's: does, Rising; all kinds.
-/
import Derived.Test.YtofiidfnjgoenaaDoes2
namespace Go.Proofs.Ytofiidfnjgoenaa
open Go Go.RowKit
attribute [local go_sem] ext_cell

theorem RowG.own {W : World} {g cap : Nat} {l : List Int} (h : RowG W g cap l) (hc : cap ≤ maxLen) (n : Nat) (hn : n = l.length) : OwnI W 0 (.slice (some ⟨g, 0, none⟩) n cap) l := by
  have hl := h.len
  obtain ⟨cur, h1, h2, h3⟩ := h
  subst hn
  exact ⟨by simp [ints_length], .inr ⟨g, cap, cur, rfl, Nat.zero_le _, h1, hl, hc, by simp [h2], by simpa using h3⟩⟩
theorem outs_choose {W : World} {ov : Value} {vs : List Value} (h : OutAt W ov vs) : ∃ f : Nat → Nat, ∀ (i : Nat) (v : Value), vs[i]? = some v → OwnI W 0 v (marked i (f i)) := by
  classical
  refine ⟨fun i => if q : ∃ n, ∀ v, vs[i]? = some v → OwnI W 0 v (marked i n) then q.choose else 0, fun i v hv => ?_⟩
  have q : ∃ n, ∀ v, vs[i]? = some v → OwnI W 0 v (marked i n) := by
    obtain ⟨n, _, ho⟩ := h.lists i v hv
    exact ⟨n, fun v' hv' => by rw [hv] at hv'; cases hv'; exact ho⟩
  simp only [dif_pos q]
  exact q.choose_spec v hv

theorem moved_le {v v' : Value} {n m : Nat} (h : moved v v' n) (hm : m ≤ n) : moved v v' m := by
  rcases h with h | h | ⟨g, hg, h⟩
  · exact .inl h
  · exact .inr (.inl h)
  · exact .inr (.inr ⟨g, Nat.le_trans hm hg, h⟩)
theorem Nx.le {n m : Nat} {s s' : St} (h : Nx n s s') (hm : m ≤ n) : Nx m s s' := ⟨h.b, h.o, h.p, h.rb, h.ab, h.room, h.vs, fun k => moved_le (h.v k) hm, moved_le h.ov hm⟩
theorem rising_owns {w5 : World} {wb n1 n2 N : Nat} {s : St} {l : List Int} (h : WS w5 wb s) (hvl : s.vs.length ≤ 9000) (hP : RowG w5 n1 N l) (hQ : RowG w5 n2 N l) (hN : N = l.length) (hN2 : N ≤ 100000) (h12 : n1 < n2)
    (ho : ∀ j, s.o j < n1 ∧ s.p j < n1) (hv : ∀ k g, (s.v k).ownBlock = some g → g < n1) (hu : ∀ u ∈ s.vs, ∀ g, u.ownBlock = some g → g < n1) :
    Calls Try.prog 36 #[.pointer (some ⟨wb, 0, none⟩), .slice (some ⟨w5.heap.size, 0, none⟩) 2 2] (w5.alloc (.cells #[.slice (some ⟨n1, 0, none⟩) N N, .slice (some ⟨n2, 0, none⟩) N N] 41)) fun e w' => e = .returned (.tuple #[]) ∧ ∃ s', WS w' wb s' ∧ s'.R = s.R ∧ s'.L = s.L ∧ Nx w5.heap.size s s' ∧ Fr (fun z => z = wb ∨ s.ov.ownBlock = some z ∨ n1 ≤ z) w5 w' := by
  have hal : Below w5.heap.size w5 (w5.alloc (.cells #[.slice (some ⟨n1, 0, none⟩) N N, .slice (some ⟨n2, 0, none⟩) N N] 41)) := (Below.refl _ _).alloc (Nat.le_refl _) _
  have hnew := World.alloc_heap_new w5 (.cells #[.slice (some ⟨n1, 0, none⟩) N N, .slice (some ⟨n2, 0, none⟩) N N] 41)
  have hsz : (w5.alloc (.cells #[.slice (some ⟨n1, 0, none⟩) N N, .slice (some ⟨n2, 0, none⟩) N N] 41)).heap.size = w5.heap.size + 1 := by simp
  generalize w5.alloc (.cells #[.slice (some ⟨n1, 0, none⟩) N N, .slice (some ⟨n2, 0, none⟩) N N] 41) = U at hal hnew hsz ⊢
  have SU := h.kept hal
  have OA := (hP.kept hal).own (by unfold maxLen; omega) N hN
  have OB := (hQ.kept hal).own (by unfold maxLen; omega) N hN
  obtain ⟨f, hf⟩ := outs_choose SU.out
  have hls : U.ownsRow 0 41 1 (.slice (some ⟨w5.heap.size, 0, none⟩) [Value.slice (some ⟨n1, 0, none⟩) N N, .slice (some ⟨n2, 0, none⟩) N N].length 2) [Value.slice (some ⟨n1, 0, none⟩) N N, .slice (some ⟨n2, 0, none⟩) N N].length [Value.slice (some ⟨n1, 0, none⟩) N N, .slice (some ⟨n2, 0, none⟩) N N] :=
    ⟨rfl, .inr ⟨w5.heap.size, 2, _, rfl, Nat.zero_le _, hnew, Nat.le_refl _, by unfold maxLen; omega, rfl, rfl⟩⟩
  have hne : s.ov.ownBlock ≠ some w5.heap.size := fun e => by
    obtain ⟨c, hc⟩ := rowL_blk h.out.row e
    have := lt_of_heap hc
    omega
  have hsep : Sep (s.vs ++ [Value.slice (some ⟨n1, 0, none⟩) N N, .slice (some ⟨n2, 0, none⟩) N N]) := by
    intro i j u u' hi hj hij g hg hg'
    by_cases h1 : i < s.vs.length
    · rw [List.getElem?_append_left h1] at hi
      have q1 := hu u (List.mem_of_getElem? hi) g hg
      by_cases h2 : j < s.vs.length
      · rw [List.getElem?_append_left h2] at hj
        exact h.ap.uu i j u u' hi hj hij g hg hg'
      · rw [List.getElem?_append_right (by omega)] at hj
        rcases hz : j - s.vs.length with _ | _ | m
        · rw [hz] at hj; cases hj; simp [Value.ownBlock] at hg'; omega
        · rw [hz] at hj; cases hj; simp [Value.ownBlock] at hg'; omega
        · rw [hz] at hj; simp at hj
    · rw [List.getElem?_append_right (by omega)] at hi
      have q1 : (i = s.vs.length ∧ g = n1) ∨ (i = s.vs.length + 1 ∧ g = n2) := by
        rcases hz : i - s.vs.length with _ | _ | m
        · rw [hz] at hi; cases hi; simp [Value.ownBlock] at hg; left; omega
        · rw [hz] at hi; cases hi; simp [Value.ownBlock] at hg; right; omega
        · rw [hz] at hi; simp at hi
      by_cases h2 : j < s.vs.length
      · rw [List.getElem?_append_left h2] at hj
        have := hu u' (List.mem_of_getElem? hj) g hg'
        omega
      · rw [List.getElem?_append_right (by omega)] at hj
        rcases hz : j - s.vs.length with _ | _ | m
        · rw [hz] at hj; cases hj; simp [Value.ownBlock] at hg'; omega
        · rw [hz] at hj; cases hj; simp [Value.ownBlock] at hg'; omega
        · rw [hz] at hj; simp at hj
  have key := owns_c (c := fun i => if i < s.vs.length then marked i (f i) else l) SU.hb SU.out.row hls hne (fun i u hi => by
    by_cases h1 : i < s.vs.length
    · rw [List.getElem?_append_left h1] at hi
      simp only [if_pos h1]
      exact ⟨hf i u hi, fun q => by omega⟩
    · rw [List.getElem?_append_right (by omega)] at hi
      simp only [if_neg h1]
      refine ⟨?_, fun _ => by omega⟩
      rcases hz : i - s.vs.length with _ | _ | m
      · rw [hz] at hi; cases hi; exact OA
      · rw [hz] at hi; cases hi; exact OB
      · rw [hz] at hi; simp at hi) hsep (by omega) (by simp) (fun u hu' => by
    simp at hu'
    rcases hu' with rfl | rfl
    · exact ⟨n1, rfl⟩
    · exact ⟨n2, rfl⟩)
  refine key.mono ?_
  rintro e w' ⟨ov', us, rfl, hb', hrow', ⟨hlen', hls'⟩, hmv', hmo', hsep', hfr'⟩
  refine ⟨rfl, _, SU.setOut hb' hrow' hlen' hls' hmv' hsep' hfr' (fun u hu' g hg => ?_), rfl, rfl, ⟨rfl, rfl, rfl, rfl, rfl, rfl, by simp [hlen'], fun _ => .inl rfl, moved_le hmo' (by omega)⟩, ?_⟩
  · have hg2 : (g = n1 ∨ g = n2) ∧ ∃ c, U.heap[g]? = some (.cells c 3 (0, 0)) := by
      simp at hu'
      rcases hu' with rfl | rfl
      · exact ⟨.inl (by simp [Value.ownBlock] at hg; exact hg.symm), OA.heap hg⟩
      · exact ⟨.inr (by simp [Value.ownBlock] at hg; exact hg.symm), OB.heap hg⟩
    refine ⟨hg2.2, fun j => by have := ho j; omega, fun k q => by have := hv k g q; omega, fun x hx q => by have := hu x hx g q; omega⟩
  · refine (Fr.of_below hal).then hfr' (fun z _ hz => ?_)
    rcases hz with hz | hz | ⟨u, hu', hz⟩
    · exact .inl hz
    · exact .inr (.inl hz)
    · simp at hu'
      rcases hu' with rfl | rfl
      · simp [Value.ownBlock] at hz; right; right; omega
      · simp [Value.ownBlock] at hz; right; right; omega

set_option maxRecDepth 100000 in
set_option maxHeartbeats 1600000 in
theorem does_rising {w : World} {wb : Nat} {s : St} (h : WS w wb s) (heq : s.R = s.L) (hvl : s.vs.length ≤ 9000) (k : Bool) (n : Int) :
    Calls Try.prog 31 #[.pointer (some ⟨wb, 0, none⟩), .int .i64 (kN k : Int), .int .i64 7, .int .i64 n] w fun e w' => e = .returned (.bool true) ∧ ∃ s', WS w' wb s' ∧ s'.R = s'.L ∧ Nx w.heap.size s s' ∧ Fr (s.foot wb) w w' := by
  have H : Hid (WS w wb s) := h
  have HE : Hid (s.R = s.L) := heq
  have cm := h.cm k
  have cr := h.cr k
  have kl := kN_lt k
  have i0 : (0 : Int) ≤ (kN k : Int) := by omega
  have i1 : (kN k : Int) < 2 := by omega
  have HPT : Hid (s.R k = s.L k) := (show s.R k = s.L k from by rw [heq])
  have hll := (h.m k).len
  have hrr := (h.m k).hr
  have SL : Hid ((sortI (s.L k)).length = (s.L k).length) := sortI_length _
  clear h heq
  go_enter Try.func31, Try.ntmps31
  go_upto_region 25 with first | (go_at_call 35; (with_reducible refine (rrising_c (H.out.r k)).mono ?_); rw [HPT.out]; rintro e w1 ⟨wv, rfl, ho, hb⟩; have S1 : Hid (WS w1 wb s) := H.out.kept hb; have O1 : Hid (OwnI w1 0 wv (sortI (s.L k))) := ho.base (Nat.zero_le _); have B1 : Hid (Below w.heap.size w w1) := hb; clear ho hb) | (go_at_call 20; (with_reducible refine (rising_c (S2.out.m k)).mono ?_); rintro e w3 ⟨rfl, hrow, hb⟩; have S3 : Hid (WS w3 wb s) := S2.out.kept hb; have O3 : Hid (OwnI w3 0 wv (sortI (s.L k))) := O2.out.kept hb; have P3 : Hid (RowG w3 w1.heap.size (s.L k).length (sortI (s.L k))) := P2.out.kept hb; have Q3 : Hid (RowG w3 w2.heap.size (s.L k).length (sortI (s.L k))) := hrow; have B3 : Hid (Below w.heap.size w w3) := chain B2.out hb (Nat.le_refl _); clear hrow hb) | (go_at_call 20; (with_reducible refine (rising_c (S1.out.m k)).mono ?_); rintro e w2 ⟨rfl, hrow, hb⟩; have S2 : Hid (WS w2 wb s) := S1.out.kept hb; have O2 : Hid (OwnI w2 0 wv (sortI (s.L k))) := O1.out.kept hb; have P2 : Hid (RowG w2 w1.heap.size (s.L k).length (sortI (s.L k))) := hrow; have B2 : Hid (Below w.heap.size w w2) := chain B1.out hb (Nat.le_refl _); have L2 : Hid (w1.heap.size < w2.heap.size) := hrow.lt; clear hrow hb) | (go_at_call 24; refine (sameL_c (Q4.out.sees (by rw [SL.out]; unfold maxLen; omega) SL.out.symm _) (O4.out.sees (by rw [SL.out]; unfold maxLen; omega))).mono ?_; rw [show decide (sortI (s.L k) = sortI (s.L k)) = true from decide_eq_true rfl]; rintro e w5 ⟨rfl, hb⟩; have S5 : Hid (WS w5 wb s) := S4.out.kept hb; have P5 : Hid (RowG w5 w1.heap.size (s.L k).length (sortI (s.L k))) := P4.out.kept hb; have Q5 : Hid (RowG w5 w2.heap.size (s.L k).length (sortI (s.L k))) := Q4.out.kept hb; have B5 : Hid (Below w.heap.size w w5) := chain B4.out hb (Nat.le_refl _); clear hb) | (go_at_call 24; refine (sameL_c (P3.out.sees (by rw [SL.out]; unfold maxLen; omega) SL.out.symm _) (O3.out.sees (by rw [SL.out]; unfold maxLen; omega))).mono ?_; rw [show decide (sortI (s.L k) = sortI (s.L k)) = true from decide_eq_true rfl]; rintro e w4 ⟨rfl, hb⟩; have S4 : Hid (WS w4 wb s) := S3.out.kept hb; have O4 : Hid (OwnI w4 0 wv (sortI (s.L k))) := O3.out.kept hb; have P4 : Hid (RowG w4 w1.heap.size (s.L k).length (sortI (s.L k))) := P3.out.kept hb; have Q4 : Hid (RowG w4 w2.heap.size (s.L k).length (sortI (s.L k))) := Q3.out.kept hb; have B4 : Hid (Below w.heap.size w w4) := chain B3.out hb (Nat.le_refl _); clear hb)
  have bs := B1.out.size
  have A1 : Hid (∀ j, s.o j < w1.heap.size ∧ s.p j < w1.heap.size) := fun j => ⟨Nat.lt_of_lt_of_le (H.out.m j).lto bs, Nat.lt_of_lt_of_le (H.out.m j).ltp bs⟩
  have A2 : Hid (∀ j g, (s.v j).ownBlock = some g → g < w1.heap.size) := fun j g hg => Nat.lt_of_lt_of_le ((H.out.r j).ho.lt g hg).2 bs
  have A3 : Hid (∀ u ∈ s.vs, ∀ g, u.ownBlock = some g → g < w1.heap.size) := fun u hu g hg => by
    obtain ⟨i, hi⟩ := List.getElem?_of_mem hu
    obtain ⟨m, _, ho⟩ := H.out.out.lists i u hi
    exact Nat.lt_of_lt_of_le (ho.lt g hg).2 bs
  go_wp2_with (go_at_call 36; refine (rising_owns S5.out hvl P5.out Q5.out SL.out.symm (by omega) L2.out A1.out A2.out A3.out).mono ?_; rintro e w6 ⟨rfl, s', hs', hR', hL', hnx, hfr⟩; have S6 : Hid (WS w6 wb s') := hs'; have R6 : Hid (s'.R = s.R ∧ s'.L = s.L) := ⟨hR', hL'⟩; have N6 : Hid (Nx w5.heap.size s s') := hnx; have F6 : Hid (Fr (fun z => z = wb ∨ s.ov.ownBlock = some z ∨ w1.heap.size ≤ z) w5 w6) := hfr; clear hs' hR' hL' hnx hfr)
  go_ret
  exact ⟨rfl, s', S6.out, by rw [R6.out.1, R6.out.2]; exact HE.out, N6.out.le B5.out.size, (Fr.of_below B5.out).then F6.out (fun z hz h => by
    rcases h with h | h | h
    · exact .inl h
    · exact .inr (.inr (.inr (.inr h)))
    · omega)⟩

/-- **does, whatever the kind.** -/
theorem does_c {w : World} {wb : Nat} {s : St} (h : WS w wb s) (heq : s.R = s.L) (hvl : s.vs.length ≤ 9000) (k : Bool) (kind n : Int) :
    Calls Try.prog 31 #[.pointer (some ⟨wb, 0, none⟩), .int .i64 (kN k : Int), .int .i64 kind, .int .i64 n] w fun e w' => e = .returned (.bool true) ∧ ∃ s', WS w' wb s' ∧ s'.R = s'.L ∧ Nx w.heap.size s s' ∧ Fr (s.foot wb) w w' := by
  by_cases h1 : kind = 1
  · subst h1; exact does_put h heq k n
  by_cases h2 : kind = 2
  · subst h2; exact does_has h heq k n
  by_cases h3 : kind = 3
  · subst h3; exact does_at h heq k n
  by_cases h4 : kind = 4
  · subst h4; exact does_clear h heq k n
  by_cases h7 : kind = 7
  · subst h7; exact does_rising h heq hvl k n
  by_cases h10 : kind = 10
  · subst h10; exact does_anew h heq k n
  exact does_none h heq k kind n (by simpa using h1) (by simpa using h2) (by simpa using h3) (by simpa using h4) (by simpa using h7) (by simpa using h10)
end Go.Proofs.Ytofiidfnjgoenaa
