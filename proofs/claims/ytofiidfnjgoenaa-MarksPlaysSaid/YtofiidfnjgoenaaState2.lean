/-
  The script's world, when the document's set or the lists that are out have changed.
-/
import Derived.Test.YtofiidfnjgoenaaState
namespace Go.Proofs.Ytofiidfnjgoenaa
open Go Go.RowKit

theorem moved_ne {W : World} {v v' : Value} {x : Nat} (h : moved v v' W.heap.size) (hx : x < W.heap.size) (hv : v.ownBlock ≠ some x) : v'.ownBlock ≠ some x := fun q => hv (moved_in h hx q)

/-- The document's k-th set has changed: all else is as it was. -/
theorem WS.setR {W W' : World} {wb : Nat} {s : St} (h : WS W wb s) (k : Bool) {v' : Value} {R' : List Int} (hm : RAt W' (s.rb k) (s.room k) v' R') (hv : moved (s.v k) v' W.heap.size) (hf : Fr (fun z => z = s.rb k ∨ (s.v k).ownBlock = some z) W W') :
    WS W' wb { s with R := fun j => if j = k then R' else s.R j, v := fun j => if j = k then v' else s.v j } := by
  have hbk := (h.r k).hb
  have T : ∀ {x : Nat} {c : Array Value} {t : TypeId} {f : Nat × Nat}, W.heap[x]? = some (.cells c t f) → t ≠ 43 → t ≠ 3 → ¬ (x = s.rb k ∨ (s.v k).ownBlock = some x) := fun hx h1 h2 q => by
    rcases q with q | q
    · exact ne_type hx hbk h1 q
    · obtain ⟨c, hc⟩ := (h.r k).ho.heap q
      exact ne_type hx hc h2 rfl
  have I : ∀ {g : Nat}, (∃ c, W.heap[g]? = some (.cells c 3 (0, 0))) → (s.v k).ownBlock ≠ some g → ¬ (g = s.rb k ∨ (s.v k).ownBlock = some g) := fun hg h1 q => by
    obtain ⟨c, hg⟩ := hg
    rcases q with q | q
    · exact ne_type hg hbk (by decide) q
    · exact h1 q
  have lt : ∀ {g : Nat} {v : Value} {l : List Int}, OwnI W 0 v l → v.ownBlock = some g → g < W.heap.size := fun ho hg => (ho.lt _ hg).2
  have ltu : ∀ u ∈ s.vs, ∀ g, u.ownBlock = some g → g < W.heap.size := fun u hu g hg => by
    obtain ⟨i, hi⟩ := List.getElem?_of_mem hu
    obtain ⟨n, _, ho⟩ := h.out.lists i u hi
    exact lt ho hg
  refine ⟨(hf.block wb (lt_of_heap h.hb) (T h.hb (by decide) (by decide))).trans h.hb, fun j => ?_, fun j => ?_, fun j => boxed_fr (h.a j) hf (T (h.a j) (by decide) (by decide)), ⟨rowL_fr h.out.row hf (fun g hg => ?_), fun i u hu => ?_⟩, ⟨h.ap.oo, h.ap.op, h.ap.po, h.ap.pp, fun j i => ?_, ?_, h.ap.uo, fun u hu j g hg => ?_, h.ap.uu⟩, h.nb, h.nr⟩
  · exact (h.m j).fr hf (T (h.m j).hb (by decide) (by decide)) (I (h.m j).heapo (h.ap.vo k j).1) (I (h.m j).heapp (h.ap.vo k j).2)
  · by_cases hj : j = k
    · subst hj
      simp only [if_true]
      exact hm
    · simp only [if_neg hj]
      refine (h.r j).fr hf (fun q => ?_) (fun g hg => I ((h.r j).ho.heap hg) (fun e => h.ap.v2 hj g hg e))
      rcases q with q | q
      · exact (h.b2 hj).2 q
      · obtain ⟨c, hc⟩ := (h.r k).ho.heap q
        exact ne_type (h.r j).hb hc (by decide) rfl
  · obtain ⟨c, hc⟩ := rowL_blk h.out.row hg
    exact T hc (by decide) (by decide)
  · obtain ⟨n, hn, hown⟩ := h.out.lists i u hu
    exact ⟨n, hn, hown.fr hf (fun g hg => I (hown.heap hg) (fun e => h.ap.uv u (List.mem_of_getElem? hu) k g e hg))⟩
  · by_cases hj : j = k
    · subst hj
      simp only [if_true]
      exact ⟨moved_ne hv (h.m i).lto (h.ap.vo j i).1, moved_ne hv (h.m i).ltp (h.ap.vo j i).2⟩
    · simp only [if_neg hj]
      exact h.ap.vo j i
  · intro g h1 h2
    cases k with
    | false =>
      simp only [if_true] at h1
      simp only [Bool.true_eq_false, if_false] at h2
      exact h.ap.vv g (moved_in hv (lt (h.r true).ho h2) h1) h2
    | true =>
      simp only [Bool.false_eq_true, if_false] at h1
      simp only [if_true] at h2
      exact h.ap.vv g h1 (moved_in hv (lt (h.r false).ho h1) h2)
  · by_cases hj : j = k
    · subst hj
      simp only [if_true] at hg
      intro q
      exact h.ap.uv u hu j g (moved_in hv (ltu u hu g q) hg) q
    · simp only [if_neg hj] at hg
      exact h.ap.uv u hu j g hg

/-- The lists that are out have become more. -/
theorem WS.setOut {W W' : World} {wb : Nat} {s : St} (h : WS W wb s) {ov' : Value} {ls us : List Value}
    (hb : W'.heap[wb]? = some (.cells #[s.mv false, s.mv true, s.rv false, s.rv true, s.av false, s.av true, ov'] 39 (0, 0))) (hrow : W'.ownsRow 0 41 1 ov' (s.vs ++ us).length (s.vs ++ us))
    (hlen : us.length = ls.length) (hls : ∀ (j : Nat) (u : Value), us[j]? = some u → ∃ n, n ≤ 200000 ∧ OwnI W' 0 u (marked (s.vs.length + j) n)) (hmv : ∀ (j : Nat) (u u' : Value), ls[j]? = some u → us[j]? = some u' → moved u u' W.heap.size)
    (hsep : Sep (s.vs ++ us)) (hf : Fr (ownsS wb s.ov ls) W W')
    (hl : ∀ u ∈ ls, ∀ g, u.ownBlock = some g → (∃ c, W.heap[g]? = some (.cells c 3 (0, 0))) ∧ (∀ j, g ≠ s.o j ∧ g ≠ s.p j) ∧ (∀ k, (s.v k).ownBlock ≠ some g) ∧ ∀ x ∈ s.vs, x.ownBlock ≠ some g) :
    WS W' wb { s with ov := ov', vs := s.vs ++ us } := by
  have T : ∀ {x : Nat} {c : Array Value} {t : TypeId} {f : Nat × Nat}, W.heap[x]? = some (.cells c t f) → t ≠ 39 → t ≠ 41 → t ≠ 3 → ¬ ownsS wb s.ov ls x := fun hx h1 h2 h3 q => by
    rcases q with q | q | ⟨u, hu, q⟩
    · exact ne_type hx h.hb h1 q
    · obtain ⟨c, hc⟩ := rowL_blk h.out.row q
      exact ne_type hx hc h2 rfl
    · obtain ⟨c, hc⟩ := (hl u hu _ q).1
      exact ne_type hx hc h3 rfl
  have I : ∀ {g : Nat}, (∃ c, W.heap[g]? = some (.cells c 3 (0, 0))) → (∀ u ∈ ls, u.ownBlock ≠ some g) → ¬ ownsS wb s.ov ls g := fun hg h1 q => by
    obtain ⟨c, hg⟩ := hg
    rcases q with q | q | ⟨u, hu, q⟩
    · exact ne_type hg h.hb (by decide) q
    · obtain ⟨c, hc⟩ := rowL_blk h.out.row q
      exact ne_type hg hc (by decide) rfl
    · exact h1 u hu q
  have usl : ∀ u ∈ us, ∀ g, g < W.heap.size → u.ownBlock = some g → ∃ x ∈ ls, x.ownBlock = some g := fun u hu g hg q => by
    obtain ⟨i, hi⟩ := List.getElem?_of_mem hu
    have hil : i < ls.length := by rw [← hlen]; exact (List.getElem?_eq_some_iff.1 hi).1
    exact ⟨_, List.getElem_mem hil, moved_in (hmv i _ u (List.getElem?_eq_getElem hil) hi) hg q⟩
  refine ⟨hb, fun j => (h.m j).fr hf (T (h.m j).hb (by decide) (by decide) (by decide)) (I (h.m j).heapo (fun u hu e => ((hl u hu _ e).2.1 j).1 rfl)) (I (h.m j).heapp (fun u hu e => ((hl u hu _ e).2.1 j).2 rfl)),
    fun j => (h.r j).fr hf (T (h.r j).hb (by decide) (by decide) (by decide)) (fun g hg => I ((h.r j).ho.heap hg) (fun u hu e => (hl u hu g e).2.2.1 j hg)),
    fun j => boxed_fr (h.a j) hf (T (h.a j) (by decide) (by decide) (by decide)), ⟨hrow, fun i u hu => ?_⟩, ⟨h.ap.oo, h.ap.op, h.ap.po, h.ap.pp, h.ap.vo, h.ap.vv, fun u hu j => ?_, fun u hu k g hg q => ?_, hsep⟩, h.nb, h.nr⟩
  · by_cases hi : i < s.vs.length
    · rw [show (s.vs ++ us)[i]? = s.vs[i]? from List.getElem?_append_left hi] at hu
      obtain ⟨n, hn, hown⟩ := h.out.lists i u hu
      exact ⟨n, hn, hown.fr hf (fun g hg => I (hown.heap hg) (fun x hx e => (hl x hx g e).2.2.2 u (List.mem_of_getElem? hu) hg))⟩
    · rw [show (s.vs ++ us)[i]? = us[i - s.vs.length]? from List.getElem?_append_right (by omega)] at hu
      have := hls _ u hu
      rwa [show s.vs.length + (i - s.vs.length) = i by omega] at this
  · rcases List.mem_append.1 hu with hu | hu
    · exact h.ap.uo u hu j
    · refine ⟨fun q => ?_, fun q => ?_⟩
      · obtain ⟨x, hx, e⟩ := usl u hu _ (h.m j).lto q
        exact ((hl x hx _ e).2.1 j).1 rfl
      · obtain ⟨x, hx, e⟩ := usl u hu _ (h.m j).ltp q
        exact ((hl x hx _ e).2.1 j).2 rfl
  · rcases List.mem_append.1 hu with hu | hu
    · exact h.ap.uv u hu k g hg q
    · obtain ⟨x, hx, e⟩ := usl u hu g ((h.r k).ho.lt g hg).2 q
      exact (hl x hx g e).2.2.1 k hg
end Go.Proofs.Ytofiidfnjgoenaa
