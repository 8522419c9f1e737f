/-
  An iterator is gone over, with a call in its midst.
-/
import Derived.Test.YtofiidfnjgoenaaFoot
namespace Go.Proofs.Ytofiidfnjgoenaa
open Go Go.RowKit Go.Shelf
attribute [local go_sem] Oper.semAt_some ext_cell
attribute [local go_sem] fn_nil

theorem OwnI.setInt {W : World} {base B : Nat} {v : Value} {l : List Int} {z : Int} (h : OwnI W base v l) (hB : Boxed W B 3 (.int .i64 z)) (hz : ∀ y ∈ l, y ≠ z) (u : Value) : OwnI (W.setCell ⟨B, 0, none⟩ u) base v l := by
  rcases h.2 with ⟨rfl, h0⟩ | ⟨g, cap, cur, rfl, hb, hg, hc1, hc2, hsz, ht⟩
  · exact ⟨h.1, .inl ⟨rfl, h0⟩⟩
  · by_cases hgB : g = B
    · subst hgB
      have e : cur = #[.int .i64 z] := by
        have q : W.heap[g]? = _ := hB
        rw [hg] at q
        injection q with q
        injection q
      subst e
      have hl : l = [] := by
        cases l with
        | nil => rfl
        | cons y t =>
          exfalso
          simp [ints] at ht
          exact hz y (by simp) ht.1.symm
      subst hl
      exact ⟨h.1, .inr ⟨g, cap, #[u], rfl, hb, boxed_set hB u, hc1, hc2, by simpa using hsz, by simp [ints]⟩⟩
    · exact ⟨h.1, .inr ⟨g, cap, cur, rfl, hb, (Below.heap_setCell _ _ _ _ hgB).trans hg, hc1, hc2, hsz, ht⟩⟩

theorem WS.setInt {W : World} {wb B : Nat} {s : St} {z : Int} (h : WS W wb s) (hB : Boxed W B 3 (.int .i64 z)) (hz : 0 ≤ z) (h1 : ∀ k, s.o k ≠ B ∧ s.p k ≠ B) (h2 : ∀ k, (s.v k).ownBlock ≠ some B) (u : Value) : WS (W.setCell ⟨B, 0, none⟩ u) wb s := by
  have hf : Fr (fun j => j = B) W (W.setCell ⟨B, 0, none⟩ u) := Fr.setCell (S := fun j => j = B) (p := ⟨B, 0, none⟩) (Fr.refl _ _) rfl _
  have T : ∀ {x : Nat} {c : Array Value} {t : TypeId} {f : Nat × Nat}, W.heap[x]? = some (.cells c t f) → t ≠ 3 → ¬ x = B := fun hx ht => ne_type hx hB ht
  refine ⟨(hf.block wb (lt_of_heap h.hb) (T h.hb (by decide))).trans h.hb, fun k => (h.m k).fr hf (T (h.m k).hb (by decide)) (h1 k).1 (h1 k).2, fun k => (h.r k).fr hf (T (h.r k).hb (by decide)) (fun g hg e => h2 k (by rw [hg, e])), fun k => boxed_fr (h.a k) hf (T (h.a k) (by decide)),
    ⟨rowL_fr h.out.row hf (fun g hg => by obtain ⟨c, e⟩ := h.out.heap hg; exact T e (by decide)), fun i u hu => by
      obtain ⟨n, hn, ho⟩ := h.out.lists i u hu
      exact ⟨n, hn, ho.setInt hB (fun y hy => by simp [marked] at hy; omega) _⟩⟩, h.ap, h.nb, h.nr⟩

theorem WS.setBool {W : World} {wb B : Nat} {s : St} {v : Value} (h : WS W wb s) (hB : Boxed W B 4 v) (u : Value) : WS (W.setCell ⟨B, 0, none⟩ u) wb s := by
  have hf : Fr (fun j => j = B) W (W.setCell ⟨B, 0, none⟩ u) := Fr.setCell (S := fun j => j = B) (p := ⟨B, 0, none⟩) (Fr.refl _ _) rfl _
  have T : ∀ {x : Nat} {c : Array Value} {t : TypeId} {f : Nat × Nat}, W.heap[x]? = some (.cells c t f) → t ≠ 4 → ¬ x = B := fun hx ht => ne_type hx hB ht
  refine h.same hf (T h.hb (by decide)) (fun k => ⟨T (h.m k).hb (by decide), ?_, ?_⟩) (fun k => T (h.r k).hb (by decide)) (fun k g q => ?_) (fun k => T (h.a k) (by decide)) (fun g q => ?_) (fun u hu g q => ?_)
  · obtain ⟨c, e⟩ := (h.m k).heapo; exact T e (by decide)
  · obtain ⟨c, e⟩ := (h.m k).heapp; exact T e (by decide)
  · obtain ⟨c, e⟩ := (h.r k).ho.heap q; exact T e (by decide)
  · obtain ⟨c, e⟩ := h.out.heap q; exact T e (by decide)
  · obtain ⟨i, hi⟩ := List.mem_iff_getElem?.1 hu
    obtain ⟨n, _, ho⟩ := h.out.lists i u hi
    obtain ⟨c, e⟩ := ho.heap q
    exact T e (by decide)

theorem grown_put (W : World) (D : Nat) (o : Obj) : W.grownBy (W.putObj D o) (some D) := ⟨rfl, rfl, rfl, by simp [World.putObj], fun k _ hne => World.putObj_heap_other (fun e => hne (by rw [e]))⟩
theorem Nx.down {n n' : Nat} {s s' : St} (h : Nx n s s') (hn : n' ≤ n) : Nx n' s s' :=
  ⟨h.b, h.o, h.p, h.rb, h.ab, h.room, h.vs, fun k => (h.v k).imp id (fun q => q.imp id (fun ⟨g, a, b⟩ => ⟨g, Nat.le_trans hn a, b⟩)), h.ov.imp id (fun q => q.imp id (fun ⟨g, a, b⟩ => ⟨g, Nat.le_trans hn a, b⟩))⟩
/-- What the state has become. -/
def Now (W : World) (wb n : Nat) (s : St) (c : Prop) : Prop := ∃ s', WS W wb s' ∧ s'.R = s'.L ∧ Nx n s s' ∧ (c → s' = s)
end Go.Proofs.Ytofiidfnjgoenaa
