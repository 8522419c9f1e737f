/-
  Parts of the proof.
-/
import Derived.Test.YtaikcnoiaaiopaaDoorPlaysProofB36
import Derived.Laws.AppendOwnNone
set_option linter.unusedSimpArgs false
namespace Go.Proofs.YtaikcnoiaaiopaaDoor
open Go Go.RowKit Go.Shelf
attribute [local go_sem] Oper.semAt_some
def flt (k : Nat) (l : List (Nat × Nat)) : List (Nat × Nat) := l.filter fun x => decide (x.2 ≠ k)
theorem flt_in {k p j : Nat} {l : List (Nat × Nat)} (h : j ≠ k) : flt k (l ++ [(p, j)]) = flt k l ++ [(p, j)] := by
  unfold flt
  rw [List.filter_append]
  simp [h]
theorem flt_out {k p : Nat} {l : List (Nat × Nat)} : flt k (l ++ [(p, k)]) = flt k l := by
  unfold flt
  rw [List.filter_append]
  simp
theorem flt_len (k : Nat) (l : List (Nat × Nat)) : (flt k l).length ≤ l.length := List.length_filter_le _ _
section
variable {f : Bool} {ws : List ByteArray} {word line : ByteArray}
theorem sd_more {p k : Nat} (hk : k < ws.length) : Sd f (ws ++ [word]) line p k ↔ Sd f ws line p k := by
  unfold Sd
  rw [List.getElem?_append_left hk]
open Classical in
theorem allAt_more (p : Nat) : (allAt f (ws ++ [word]) line p).filter (fun k => decide (k ≠ ws.length)) = allAt f ws line p := by
  unfold allAt
  rw [List.length_append, List.length_cons, List.length_nil, List.filter_filter, show ws.length + (0 + 1) = ws.length + 1 by omega, List.range_succ, List.filter_append]
  have e1 : (List.range ws.length).filter (fun k => decide (k ≠ ws.length) && decide (Sd f (ws ++ [word]) line p k)) = (List.range ws.length).filter fun k => decide (Sd f ws line p k) := by
    refine List.filter_congr (fun k hk => ?_)
    have hk := List.mem_range.1 hk
    rw [decide_eq_true (by omega : k ≠ ws.length), Bool.true_and]
    exact decide_eq_decide.2 (sd_more hk)
  rw [e1]
  simp
theorem allM_more (n : Nat) : flt ws.length (allM f (ws ++ [word]) line n) = allM f ws line n := by
  induction n with
  | zero => simp [allM, flt]
  | succ n ih =>
    rw [allM_next, allM_next]
    have e : flt ws.length (allM f (ws ++ [word]) line n ++ (allAt f (ws ++ [word]) line n).map fun k => (n, k)) = flt ws.length (allM f (ws ++ [word]) line n) ++ flt ws.length ((allAt f (ws ++ [word]) line n).map fun k => (n, k)) := by
      unfold flt
      rw [List.filter_append]
    rw [e, ih]
    congr 1
    unfold flt
    rw [List.filter_map]
    exact congrArg (List.map fun k => (n, k)) (allAt_more n)
end
theorem two (w : World) (a b : Obj) : ∃ W1, W1 = (w.alloc a).alloc b ∧ Below w.heap.size w W1 ∧ W1.heap.size = w.heap.size + 2 ∧ W1.heap[w.heap.size]? = some a ∧ W1.heap[w.heap.size + 1]? = some b := by
  refine ⟨_, rfl, ?_, by simp, ?_, ?_⟩
  · exact ((Below.refl _ _).alloc (Nat.le_refl _) _).alloc (by simp only [World.size_alloc]; omega) _
  · exact (Below.heap_alloc _ _ _ (by simp only [World.size_alloc]; omega)).trans (World.alloc_heap_new w _)
  · have := World.alloc_heap_new (w.alloc a) b
    simpa only [World.size_alloc] using this
theorem wpListIn_append_words {F : Fence} {nF : Nat} {w : World} {ops : Array Oper} {rest : List Oper} {o : Oper} {a : Act} {Q : Exit → Act → World → Prop} (hgd : o.guard = none) (s x : Operand)
    (ho : o.op = .call { callee := .builtin .append, args := #[s, x], argTypes := #[22, 22] }) (v : Value) (ws : List ByteArray) (hs : a.eval s = .slice none 0 0) (hx : a.eval x = v) (hv : ArgW w v ws) (hv0 : v = .slice none 0 0 ∨ ∃ ad l c, v = .slice (some ad) l c) (hl : ws.length ≤ 1048576)
    (h : ∀ v' w', w'.ownsRow w.heap.size 9 1 v' ws.length (strC ws) → Below w.heap.size w w' → wpListIn F nF Tryd.prog ops Q rest (a.put o.dst v') w') : wpListIn F nF Tryd.prog ops Q (o :: rest) a w := by
  obtain ⟨t0, hi0, hz0, hz1, hz2⟩ := info_parts size_str
  have hnil := World.ownsRow_nil w w.heap.size 9 1
  have hmx : maxLen = 9223372036854775807 := rfl
  have some_ : ∀ (ad : Addr) (c : Nat), v = .slice (some ad) ws.length c → (∀ j u, (strC ws)[j]? = some u → w.cell? (ad.add j) = some u) → wpListIn F nF Tryd.prog ops Q (o :: rest) a w := fun ad c e hn => by
    refine wpListIn_append_own_at _ hgd s x 22 ho w.heap.size 9 t0 (.string ⟨#[]⟩) 1 16 und_strs hi0 hz0 hz1 hz2 rfl (by decide) (.slice none 0 0) 0 [] hs hnil ad ws.length c (strC ws) (hx.trans e) (by simp [strC]) hn (fun u hu => by
      obtain ⟨y, _, rfl⟩ := List.mem_map.1 hu; rfl) (by omega) (by omega) (Nat.le_refl _) ?_
    intro v' w' h1 h2 _ _
    refine h v' w' (by simpa using h1) ⟨h2.os, h2.tape, h2.output, h2.size, fun k hk => h2.block k hk (by simp [Value.ownBlock])⟩
  rcases hv with ⟨p, cap, rfl, rfl⟩ | ⟨g, off, cap, rfl, hg, _, _, hc⟩
  · rcases hv0 with e | ⟨ad, l, c, e⟩
    · injection e with e1 _ e2
      subst e1 e2
      refine wpListIn_plain hgd fun K hK => ?_
      have hrun := run_append_owned_none (P := Tryd.prog) (w := w) w.heap.size 22 o.type 9 t0 1 und_strs hi0 (.slice none 0 0) 0 [] hnil
      unfold Oper.wpIn
      refine ⟨by simp [Oper.about, ho, resolve, Target.leads, Sem.run_pure], ?_⟩
      rw [Oper.semAt_plain F _ _ (by rw [ho]; intro c hc'; cases hc')]
      simp [execOp, ho, resolve, invoke, builtin, hs, hx, hrun, Result.andThen]
      exact hK _ _ (h _ w (by simpa [strC] using hnil) (Below.refl _ _))
    · injection e with e1 _ e2
      subst e1 e2
      exact some_ ad cap rfl (fun j u hu => by simp [strC] at hu)
  · refine some_ ⟨g, off, none⟩ cap rfl (fun j u hu => ?_)
    rw [strC, List.getElem?_map] at hu
    obtain ⟨y, hy, rfl⟩ := Option.map_eq_some_iff.1 hu
    rw [Addr.add_lit]
    exact hc j y hy
end Go.Proofs.YtaikcnoiaaiopaaDoor
