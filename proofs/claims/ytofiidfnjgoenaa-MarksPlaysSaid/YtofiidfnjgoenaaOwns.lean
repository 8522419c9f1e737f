/-
  Lists that came out are written full by their owner, then grown: owns.
-/
import Derived.Test.YtofiidfnjgoenaaOut
import Derived.Deep.RegionLaw
namespace Go.Proofs.Ytofiidfnjgoenaa
open Go Go.RowKit
attribute [local go_sem] ext_cell

/-- No two lists share a block. -/
def Sep (us : List Value) : Prop := ∀ (i j : Nat) (u u' : Value), us[i]? = some u → us[j]? = some u' → i ≠ j → ∀ g, u.ownBlock = some g → u'.ownBlock ≠ some g

/-- append to a row as one step of a region that draws its order, with the block in which it lies behind it. -/
theorem step_append_at {P : Program} {ops : Array Oper} {o : Oper} {a : Act} {w : World} {K : Act → World → Prop} {Q : Exit → Act → World → Prop} {E : Prop} (hgd : o.guard = none) (s x : Operand) (t : TypeId)
    (ho : o.op = .call { callee := .builtin .append, args := #[s, x], argTypes := #[t, t] })
    (base : Nat) (e : TypeId) (i : TypeInfo) (z : Value) (size bytes : Nat) (ht : P.underlying t = some (.slice e)) (hi : P.info? e = some i) (hz : i.zero = some z)
    (hsize : i.size = size) (hby : i.bytes = bytes) (hzs : z.cells.size = size) (hsz : 0 < size)
    (v : Value) (n : Nat) (xs : List Value) (hs : a.eval s = v) (hown : w.ownsRow base e size v n xs)
    (ad : Addr) (m c : Nat) (news : List Value) (hx : a.eval x = .slice (some ad) m c) (hl : news.length = m * size) (hnews : ∀ j u, news[j]? = some u → w.cell? (ad.add j) = some u) (h1 : ∀ u ∈ news, u.oneCell' = true)
    (h63 : n + m ≤ maxLen) (hbytes : (n + m) * bytes ≤ 140737488355328) (hbase : base ≤ w.heap.size)
    (h : ∀ v' w', w'.ownsRow base e size v' (n + m) (xs ++ news) → w.grownBy w' v.ownBlock → (v'.ownBlock = v.ownBlock ∨ v'.ownBlock = some w.heap.size) → K (a.put o.dst v') w') :
    if Region.wanted o (yielded ops a.tmps) = true then Oper.wp P o a w K Q else E := by
  have hw : Region.wanted o (yielded ops a.tmps) = true := by simp [Region.wanted, hgd]
  rw [if_pos hw]
  obtain ⟨v', w', hrun, h2, h3, _, h5⟩ := run_append_own_at (P := P) w base t o.type e i z size bytes ht hi hz hsize hby hzs hsz v n xs hown ad m c news hl hnews h1 h63 hbytes hbase
  unfold Oper.wp
  simp [execOp, ho, resolve, invoke, builtin, hs, hx, hrun, Result.andThen]
  exact h v' w' h2 h3 h5

/-- A row of lists: the cell at a place; another place written. -/
theorem rowL_cell {W : World} {base : Nat} {ov : Value} {vs : List Value} (h : W.ownsRow base 41 1 ov vs.length vs) {i : Nat} {v : Value} (hv : vs[i]? = some v) :
    ∃ g cap, ov = .slice (some ⟨g, 0, none⟩) vs.length cap ∧ g < W.heap.size ∧ W.cell? ⟨g, i, none⟩ = some v ∧ W.frozen? ⟨g, i, none⟩ = false := by
  have hi : i < vs.length := (List.getElem?_eq_some_iff.1 hv).1
  rcases h.2 with ⟨_, h0⟩ | ⟨g, cap, cur, rfl, hb, hg, hc1, hc2, hsz, ht⟩
  · omega
  · refine ⟨g, cap, rfl, lt_of_heap hg, ?_, by simp [World.frozen?, hg]⟩
    have e := hv
    rw [← ht, List.getElem?_take_of_lt (by omega)] at e
    have : cur[i]? = some v := by simpa using e
    simp [World.cell?, hg, this]
theorem rowL_set {W : World} {base g n cap : Nat} {vs : List Value} (h : W.ownsRow base 41 1 (.slice (some ⟨g, 0, none⟩) n cap) vs.length vs) (i : Nat) (x : Value) : (W.setCell ⟨g, i, none⟩ x).ownsRow base 41 1 (.slice (some ⟨g, 0, none⟩) n cap) (vs.set i x).length (vs.set i x) := by
  obtain ⟨h1, h2⟩ := h
  refine ⟨by simp, ?_⟩
  rcases h2 with ⟨h0, _⟩ | ⟨g', cap', cur, e, h3, h4, h5, h6, h7, h8⟩
  · cases h0
  · cases e
    refine .inr ⟨g, cap, cur.setIfInBounds i x, by simp, h3, heap_set_in h4 _ _, by simpa using h5, h6, by simp [h7], ?_⟩
    rw [Array.toList_setIfInBounds, List.take_set]
    simp at h8
    simp [h8]
theorem rowL_at {W : World} {base B n : Nat} {v : Value} {xs : List Value} {cs : Array Value} {t : TypeId} {fr : Nat × Nat} (h : W.ownsRow base 41 1 v n xs) (hB : W.heap[B]? = some (.cells cs t fr)) (ht : t ≠ 41) : v.ownBlock ≠ some B := by
  rcases h.2 with ⟨rfl, _⟩ | ⟨g, cap, cur, rfl, hb, hg, _⟩
  · simp [Value.ownBlock]
  · intro e
    simp [Value.ownBlock] at e
    subst e
    rw [hB] at hg
    injection hg with hg
    injection hg with _ h2 _
    exact ht h2
theorem rowL_fr {S : Nat → Prop} {W W' : World} {base n : Nat} {v : Value} {l : List Value} (h : W.ownsRow base 41 1 v n l) (hf : Fr S W W') (hs : ∀ k, v.ownBlock = some k → ¬ S k) : W'.ownsRow base 41 1 v n l := by
  refine ⟨h.1, ?_⟩
  rcases h.2 with h0 | ⟨g, cap, cur, rfl, h2, h3, h4⟩
  · exact .inl h0
  · exact .inr ⟨g, cap, cur, rfl, h2, (hf.block g (lt_of_heap h3) (hs g rfl)).trans h3, h4⟩
theorem rowL_slice {W : World} {base n : Nat} {v : Value} {xs : List Value} (h : W.ownsRow base 41 1 v n xs) : ∃ q cap, v = .slice q n cap := by
  rcases h.2 with ⟨rfl, h0⟩ | ⟨g, cap, cur, rfl, _⟩
  · rw [h0]; exact ⟨_, _, rfl⟩
  · exact ⟨_, _, rfl⟩

/-- What owns works upon: the struct, the row of the lists that are out, the lists. -/
structure OS (W : World) (wb : Nat) (m0 m1 r0 r1 a0 a1 ov : Value) (us : List Value) (c : Nat → List Int) : Prop where
  hb : W.heap[wb]? = some (.cells #[m0, m1, r0, r1, a0, a1, ov] 39 (0, 0))
  row : W.ownsRow 0 41 1 ov us.length us
  ls : ∀ (i : Nat) (u : Value), us[i]? = some u → OwnI W 0 u (c i)
/-- What owns may change. -/
def ownsS (wb : Nat) (ov : Value) (ls : List Value) (k : Nat) : Prop := k = wb ∨ ov.ownBlock = some k ∨ ∃ u ∈ ls, u.ownBlock = some k

/-- The contents when k of the lists have been written full. -/
def c1 (n : Nat) (c : Nat → List Int) (k i : Nat) : List Int := if n ≤ i ∧ i < n + k then marked i (c i).length else c i
/-- While the lists are written full. -/
structure OJ (w : World) (wb gl cl : Nat) (m0 m1 r0 r1 a0 a1 ov : Value) (vs ls : List Value) (c : Nat → List Int) (k : Nat) (W : World) (ov1 : Value) : Prop where
  hb : W.heap[wb]? = some (.cells #[m0, m1, r0, r1, a0, a1, ov1] 39 (0, 0))
  row : W.ownsRow 0 41 1 ov1 (vs ++ ls.take k).length (vs ++ ls.take k)
  glr : W.ownsRow 0 41 1 (.slice (some ⟨gl, 0, none⟩) ls.length cl) ls.length ls
  lists : ∀ (i : Nat) (u : Value), (vs ++ ls)[i]? = some u → OwnI W 0 u (c1 vs.length c k i)
  mv : moved ov ov1 w.heap.size
  ne : ov1.ownBlock ≠ some gl
  glt : gl < w.heap.size
  fr : Fr (ownsS wb ov ls) w W
theorem rowL_heap {W : World} {base g n cap m : Nat} {xs : List Value} (h : W.ownsRow base 41 1 (.slice (some ⟨g, 0, none⟩) n cap) m xs) : ∃ cur, W.heap[g]? = some (.cells cur 41 (0, 0)) := by
  rcases h.2 with ⟨h0, _⟩ | ⟨g', c, cur, e, _, h4, _⟩
  · cases h0
  · cases e; exact ⟨cur, h4⟩
theorem rowL_blk {W : World} {base n z : Nat} {v : Value} {xs : List Value} (h : W.ownsRow base 41 1 v n xs) (hz : v.ownBlock = some z) : ∃ cur, W.heap[z]? = some (.cells cur 41 (0, 0)) := by
  rcases h.2 with ⟨rfl, _⟩ | ⟨g', c, cur, rfl, _, h4, _⟩
  · simp [Value.ownBlock] at hz
  · simp [Value.ownBlock] at hz
    subst hz
    exact ⟨cur, h4⟩
theorem OwnI.form {W : World} {base g : Nat} {u : Value} {l : List Int} (h : OwnI W base u l) (hg : u.ownBlock = some g) : ∃ cap, u = .slice (some ⟨g, 0, none⟩) l.length cap := by
  rcases h.2 with ⟨rfl, _⟩ | ⟨g', cap, cur, rfl, _⟩
  · simp [Value.ownBlock] at hg
  · simp [Value.ownBlock] at hg
    subst hg
    exact ⟨cap, rfl⟩
theorem get_at {vs ls : List Value} {k : Nat} {u : Value} (h : ls[k]? = some u) : (vs ++ ls)[vs.length + k]? = some u := by
  rw [List.getElem?_append_right (by omega)]; simpa using h

theorem rep_set (j : Nat) (m : Int) (A : List Int) (h : j < A.length) : (List.replicate j m ++ A.drop j).set j m = List.replicate (j + 1) m ++ A.drop (j + 1) := by
  rw [List.set_append_right _ _ (by simp), List.length_replicate, Nat.sub_self, List.drop_eq_getElem_cons h, List.set_cons_zero, List.replicate_succ', List.append_assoc]
  rfl
theorem rep_get (j : Nat) (m : Int) (A : List Int) (h : j < A.length) : (List.replicate j m ++ A.drop j)[j]? = some A[j] := by
  rw [List.getElem?_append_right (by simp), List.length_replicate, Nat.sub_self, List.drop_eq_getElem_cons h]; rfl
theorem Fr.then {S T : Nat → Prop} {a b c : World} (h : Fr S a b) (k : Fr T b c) (hst : ∀ i, i < a.heap.size → T i → S i) : Fr S a c :=
  ⟨k.os.trans h.os, k.tape.trans h.tape, k.output.trans h.output, Nat.le_trans h.size k.size, fun i hi hs => (k.block i (Nat.lt_of_lt_of_le hi h.size) (fun q => hs (hst i hi q))).trans (h.block i hi hs)⟩
theorem moved_in {v v' : Value} {n k : Nat} (h : moved v v' n) (hk : k < n) (hv : v'.ownBlock = some k) : v.ownBlock = some k := by
  rcases h with h | h | ⟨g, hg, h⟩
  · rw [← h]; exact hv
  · rw [h] at hv; cases hv
  · rw [h] at hv; cases hv; omega
/-- A list that is written stays apart from the others. -/
theorem Sep.other {us : List Value} (h : Sep us) {i j : Nat} {u u' : Value} (hi : us[i]? = some u) (hj : us[j]? = some u') (hne : i ≠ j) {g : Nat} (hg : u.ownBlock = some g) : ∀ k, u'.ownBlock = some k → ¬ k = g := fun k hk e => h i j u u' hi hj hne g hg (by rw [hk, e])

/-- While the lists are grown. -/
structure OG (w : World) (wb : Nat) (m0 m1 r0 r1 a0 a1 ov ov1 : Value) (vs ls : List Value) (c : Nat → List Int) (d : Nat → Nat) (W : World) (us : List Value) : Prop where
  hb : W.heap[wb]? = some (.cells #[m0, m1, r0, r1, a0, a1, ov1] 39 (0, 0))
  row : W.ownsRow 0 41 1 ov1 (vs ++ us).length (vs ++ us)
  len : us.length = ls.length
  lists : ∀ (j : Nat) (u : Value), us[j]? = some u → OwnI W 0 u (marked (vs.length + j) ((c (vs.length + j)).length + d j)) ∧ u.ownBlock ≠ none
  mvd : ∀ (j : Nat) (u u' : Value), ls[j]? = some u → us[j]? = some u' → moved u u' w.heap.size
  sep : Sep (vs ++ us)
  fr : Fr (ownsS wb ov ls) w W
theorem marked_snoc (i n : Nat) : marked i n ++ [-9 - (i : Int)] = marked i (n + 1) := by unfold marked; rw [List.replicate_succ']
theorem append_set (vs us : List Value) (j : Nat) (x : Value) : (vs ++ us).set (vs.length + j) x = vs ++ us.set j x := by
  rw [List.set_append_right _ _ (by omega)]; congr 2; omega
/-- A list moves to a new block: still apart. -/
theorem Sep.moves {us : List Value} {n k : Nat} {u u' : Value} (h : Sep us) (hk : us[k]? = some u) (hm : u'.ownBlock = u.ownBlock ∨ u'.ownBlock = some n) (hn : ∀ (i : Nat) (x : Value), us[i]? = some x → ∀ g, x.ownBlock = some g → g < n) : Sep (us.set k u') := by
  have hkl : k < us.length := (List.getElem?_eq_some_iff.1 hk).1
  intro i j x y hi hj hij g hg hy
  by_cases h1 : i = k
  · subst h1
    rw [List.getElem?_set_self hkl] at hi
    cases hi
    rw [List.getElem?_set_ne hij] at hj
    rcases hm with e | e
    · rw [e] at hg; exact h i j u y hk hj hij g hg hy
    · rw [e] at hg; cases hg; have := hn j y hj _ hy; omega
  · rw [List.getElem?_set_ne (Ne.symm h1)] at hi
    by_cases h2 : j = k
    · subst h2
      rw [List.getElem?_set_self hkl] at hj
      cases hj
      rcases hm with e | e
      · rw [e] at hy; exact h i j x u hi hk hij g hg hy
      · rw [e] at hy; cases hy; have := hn i x hi _ hg; omega
    · rw [List.getElem?_set_ne (Ne.symm h2)] at hj
      exact h i j x y hi hj hij g hg hy

theorem OG.step {w wr w7 : World} {wb j k m gu cu g0 tl cap1 g7 cap7 : Nat} {m0 m1 r0 r1 a0 a1 ov : Value} {vs ls us : List Value} {c : Nat → List Int}
    (G : OG w wb m0 m1 r0 r1 a0 a1 ov (.slice (some ⟨g0, 0, none⟩) tl cap1) vs ls c (fun i => if i < j then k + 1 else k) wr us) (hK : us[j]? = some (.slice (some ⟨gu, 0, none⟩) m cu)) (hm : (c (vs.length + j)).length + k = m)
    (F7 : Fr (fun z => z = gu) wr w7) (O7 : w7.ownsRow 0 3 1 (.slice (some ⟨g7, 0, none⟩) (m + 1) cap7) (m + 1) (ints (marked (vs.length + j) m) ++ [.int .i64 (-9 - ((vs.length : Int) + (j : Int)))]))
    (B7 : (Value.slice (some ⟨g7, 0, none⟩) (m + 1) cap7).ownBlock = some gu ∨ (Value.slice (some ⟨g7, 0, none⟩) (m + 1) cap7).ownBlock = some (wr.heap.size + 1)) (OLT : ∀ v ∈ vs, ∀ g, v.ownBlock = some g → g < w.heap.size) (hMV : moved ov (.slice (some ⟨g0, 0, none⟩) tl cap1) w.heap.size) :
    OG w wb m0 m1 r0 r1 a0 a1 ov (.slice (some ⟨g0, 0, none⟩) tl cap1) vs ls c (fun i => if i < j + 1 then k + 1 else k) (w7.setCell ⟨g0, vs.length + j, none⟩ (.slice (some ⟨g7, 0, none⟩) (m + 1) cap7)) (us.set j (.slice (some ⟨g7, 0, none⟩) (m + 1) cap7)) := by
  have hjl : j < us.length := (List.getElem?_eq_some_iff.1 hK).1
  have hu := (G.lists j _ hK).1
  obtain ⟨cur0, h0⟩ := rowL_heap G.row
  have n1 : wb ≠ gu := fun e => hu.not_at G.hb (by decide) (by rw [e]; rfl)
  have n2 : g0 ≠ gu := fun e => hu.not_at h0 (by decide) (by rw [e]; rfl)
  have n3 : wb ≠ g0 := fun e => by
    have z := G.hb
    rw [e, h0] at z
    injection z with z
    injection z with _ z _
    exact absurd z (by decide)
  have h07 : w7.heap[g0]? = some (.cells cur0 41 (0, 0)) := (F7.block g0 (lt_of_heap h0) n2).trans h0
  have O7' : OwnI w7 0 (.slice (some ⟨g7, 0, none⟩) (m + 1) cap7) (marked (vs.length + j) (m + 1)) := by
    unfold OwnI
    rw [← marked_snoc, ints_append, show (marked (vs.length + j) m ++ [-9 - ((vs.length + j : Nat) : Int)]).length = m + 1 by simp [marked]]
    simpa [ints] using O7
  have sw := G.fr.size
  refine ⟨?_, ?_, by simp [G.len], ?_, ?_, ?_, ?_⟩
  · rw [Below.heap_setCell _ _ _ _ n3]
    exact (F7.block wb (lt_of_heap G.hb) n1).trans G.hb
  · rw [← append_set]
    exact rowL_set (rowL_fr (S := fun z => z = gu) G.row F7 (fun z hz => by simp [Value.ownBlock] at hz; omega)) _ _
  · intro i u hi
    by_cases hij : i = j
    · subst hij
      rw [List.getElem?_set_self hjl] at hi
      cases hi
      refine ⟨?_, by simp [Value.ownBlock]⟩
      rw [if_pos (by omega), show (c (vs.length + i)).length + (k + 1) = m + 1 by omega]
      exact ownsRow_setCell_other O7' (O7'.not_at h07 (by decide)) _
    · rw [List.getElem?_set_ne (Ne.symm hij)] at hi
      obtain ⟨q1, q2⟩ := G.lists i u hi
      refine ⟨?_, q2⟩
      have e : (if i < j + 1 then k + 1 else k) = (if i < j then k + 1 else k) := by
        by_cases h : i < j
        · rw [if_pos h, if_pos (by omega)]
        · rw [if_neg h, if_neg (by omega)]
      rw [e]
      have q3 := q1.fr (S := fun z => z = gu) F7 (G.sep.other (get_at hK) (get_at hi) (by omega) rfl)
      exact ownsRow_setCell_other q3 (q3.not_at h07 (by decide)) _
  · intro i u u' h1 h2
    by_cases hij : i = j
    · subst hij
      rw [List.getElem?_set_self hjl] at h2
      cases h2
      have q := G.mvd i u _ h1 hK
      rcases B7 with e | e
      · unfold moved at q ⊢
        rw [e]
        exact q
      · exact .inr (.inr ⟨_, by omega, e⟩)
    · rw [List.getElem?_set_ne (Ne.symm hij)] at h2
      exact G.mvd i u u' h1 h2
  · rw [← append_set]
    refine G.sep.moves (n := wr.heap.size + 1) (get_at hK) B7 (fun i x hx g hg => ?_)
    by_cases hi : i < vs.length
    · rw [List.getElem?_append_left hi] at hx
      have := OLT x (List.mem_of_getElem? hx) g hg
      omega
    · rw [List.getElem?_append_right (by omega)] at hx
      have := ((G.lists _ x hx).1.lt g hg).2
      omega
  · refine G.fr.then (Fr.setCell (S := fun z => z = gu ∨ z = g0) (p := ⟨g0, vs.length + j, none⟩) (F7.mono (fun z hz => .inl hz)) (.inr rfl) _) (fun z hz h => ?_)
    rcases h with rfl | rfl
    · have hjl' : j < ls.length := by rw [← G.len]; exact hjl
      have q := moved_in (G.mvd j _ _ (List.getElem?_eq_getElem hjl') hK) hz rfl
      exact .inr (.inr ⟨_, List.getElem_mem hjl', q⟩)
    · exact .inr (.inl (moved_in hMV hz rfl))

set_option maxRecDepth 100000 in
set_option maxHeartbeats 3000000 in
theorem owns_c {w : World} {wb gl cl : Nat} {m0 m1 r0 r1 a0 a1 ov : Value} {vs ls : List Value} {c : Nat → List Int}
    (hb : w.heap[wb]? = some (.cells #[m0, m1, r0, r1, a0, a1, ov] 39 (0, 0))) (hov : w.ownsRow 0 41 1 ov vs.length vs)
    (hls : w.ownsRow 0 41 1 (.slice (some ⟨gl, 0, none⟩) ls.length cl) ls.length ls) (hne : ov.ownBlock ≠ some gl)
    (hc : ∀ (i : Nat) (u : Value), (vs ++ ls)[i]? = some u → OwnI w 0 u (c i) ∧ (vs.length ≤ i → (c i).length ≤ 150000)) (hsep : Sep (vs ++ ls)) (hn : vs.length ≤ 10000) (hl2 : ls.length ≤ 2) (hsm : ∀ u ∈ ls, ∃ g, u.ownBlock = some g) :
    Calls Try.prog 36 #[.pointer (some ⟨wb, 0, none⟩), .slice (some ⟨gl, 0, none⟩) ls.length cl] w fun e w' => ∃ ov' us, e = .returned (.tuple #[]) ∧
      w'.heap[wb]? = some (.cells #[m0, m1, r0, r1, a0, a1, ov'] 39 (0, 0)) ∧ w'.ownsRow 0 41 1 ov' (vs ++ us).length (vs ++ us) ∧
      (us.length = ls.length ∧ ∀ (j : Nat) (u : Value), us[j]? = some u → ∃ n, n ≤ 200000 ∧ OwnI w' 0 u (marked (vs.length + j) n)) ∧
      (∀ (j : Nat) (u u' : Value), ls[j]? = some u → us[j]? = some u' → moved u u' w.heap.size) ∧ moved ov ov' w.heap.size ∧ Sep (vs ++ us) ∧ Fr (ownsS wb ov ls) w w' := by
  have HB : Hid (w.heap[wb]? = some (.cells #[m0, m1, r0, r1, a0, a1, ov] 39 (0, 0))) := hb
  have HV : Hid (w.ownsRow 0 41 1 ov vs.length vs) := hov
  have c6 : w.cell? ⟨wb, 6, none⟩ = some ov := by simp [World.cell?, hb]
  obtain ⟨q, cap, rfl⟩ := rowL_slice hov
  have HL : Hid (w.ownsRow 0 41 1 (.slice (some ⟨gl, 0, none⟩) ls.length cl) ls.length ls) := hls
  have HC : Hid (∀ (i : Nat) (u : Value), (vs ++ ls)[i]? = some u → OwnI w 0 u (c i) ∧ (vs.length ≤ i → (c i).length ≤ 150000)) := hc
  have HS : Hid (Sep (vs ++ ls)) := hsep
  have HM : Hid (∀ u ∈ ls, ∃ g, u.ownBlock = some g) := hsm
  clear hb hov hls hc hsep hsm
  go_enter Try.func36, Try.ntmps36
  go_wp2
  go_loopw [5] (fun i wr => ∃ (k : Nat) (ov1 : Value), k ≤ ls.length ∧ i = .int .i64 k ∧ OJ w wb gl cl m0 m1 r0 r1 a0 a1 (.slice q vs.length cap) vs ls c k wr ov1) (fun i _ => ls.length - (intOf i).toNat)
  case atStart => exact ⟨0, _, Nat.zero_le _, rfl, ⟨HB.out, by simpa using HV.out, HL.out, fun i u hu => by have := (HC.out i u hu).1; unfold c1; rwa [if_neg (by omega)], .inl rfl, hne, (by obtain ⟨_, h4⟩ := rowL_heap HL.out; exact lt_of_heap h4), Fr.refl _ _⟩⟩
  case round =>
    obtain ⟨k, ov1, hk, rfl, hJ⟩ := hrel
    have J : Hid (OJ w wb gl cl m0 m1 r0 r1 a0 a1 (.slice q vs.length cap) vs ls c k wr ov1) := hJ
    obtain ⟨T, hT⟩ : ∃ T, vs ++ ls.take k = T := ⟨_, rfl⟩
    have hrow := hJ.row
    rw [hT] at hrow
    have JR : Hid (wr.ownsRow 0 41 1 ov1 T.length T) := hrow
    have HTT : Hid (vs ++ ls.take k = T) := hT
    have hTl : T.length ≤ 10002 := by rw [← hT]; simp; omega
    obtain ⟨q1, cap1, rfl⟩ := rowL_slice hrow
    clear hJ hT hrow
    by_cases hlt : k < ls.length
    · have HK : Hid (ls[k]? = some ls[k]) := List.getElem?_eq_getElem hlt
      obtain ⟨g0, cc, e0, hg0, hcell, _⟩ := rowL_cell J.out.glr HK.out
      cases e0
      obtain ⟨gu, hgu⟩ := HM.out ls[k] (List.getElem_mem hlt)
      have hu := J.out.lists (vs.length + k) _ (get_at HK.out)
      have hc1 : c1 vs.length c k (vs.length + k) = c (vs.length + k) := if_neg (by omega)
      rw [hc1] at hu
      obtain ⟨cu, hform⟩ := hu.form hgu
      have hcl := (HC.out (vs.length + k) _ (get_at HK.out)).2 (by omega)
      obtain ⟨A, hA⟩ : ∃ A, c (vs.length + k) = A := ⟨_, rfl⟩
      rw [hA] at hu hform hcl
      have HA : Hid (c (vs.length + k) = A) := hA
      rw [hform] at hcell hu HK hgu
      have HU : Hid (OwnI wr 0 (.slice (some ⟨gu, 0, none⟩) A.length cu) A) := hu
      clear hform hA hu hc1
      have hgg : gl ≠ gu := fun e => by
        obtain ⟨cur, h4⟩ := rowL_heap J.out.glr
        exact HU.out.not_at h4 (by decide) (by rw [e]; rfl)
      have i0 : (0 : Int) ≤ (k : Int) := by omega
      have i1 : (k : Int) < (ls.length : Int) := by omega
      have hw1 : IntKind.i64.wrap (-9 - (vs.length : Int)) = -9 - (vs.length : Int) := by rw [IntKind.wrap_i64]; omega
      have hw2 : IntKind.i64.wrap (-9 - (vs.length : Int) - (k : Int)) = -9 - (vs.length : Int) - (k : Int) := by rw [IntKind.wrap_i64]; omega
      obtain ⟨X, rfl⟩ : ∃ X, X = wr := ⟨_, rfl⟩
      go_wp2
      go_loopw [6] (fun i wx => ∃ j : Nat, j ≤ A.length ∧ i = .int .i64 j ∧ OwnI wx 0 (.slice (some ⟨gu, 0, none⟩) A.length cu) (List.replicate j (-9 - (vs.length : Int) - (k : Int)) ++ A.drop j) ∧ Fr (fun z => z = gu) X wx) (fun i _ => A.length - (intOf i).toNat)
      case atStart => exact ⟨0, Nat.zero_le _, rfl, by simpa using HU.out, Fr.refl _ _⟩
      case round =>
        obtain ⟨j, hj, rfl, ho, hf⟩ := hrel
        have O : Hid (OwnI wr 0 (.slice (some ⟨gu, 0, none⟩) A.length cu) (List.replicate j (-9 - (vs.length : Int) - (k : Int)) ++ A.drop j)) := ho
        have F : Hid (Fr (fun z => z = gu) X wr) := hf
        have hcell2 := (World.cell?_of_block (a := ⟨gl, k, none⟩) (hf.block gl hg0 hgg)).trans hcell
        clear ho hf
        by_cases hjl : j < A.length
        · have cj := O.out.cellAt (rep_get j _ A hjl)
          have fj := O.out.frzAt j
          have j0 : (0 : Int) ≤ (j : Int) := by omega
          have j1 : (j : Int) < (A.length : Int) := by omega
          go_wp2
          go_roundw
          case rel => exact ⟨j + 1, by omega, by go_num, by rw [← rep_set j _ A hjl]; exact O.out.setAt j _, Fr.setCell (S := fun z => z = gu) (p := ⟨gu, j, none⟩) F.out rfl _⟩
          case measure => simp [intOf]; omega
        · obtain rfl : j = A.length := by omega
          have j1 : ¬ ((A.length : Int) < (A.length : Int)) := by omega
          have hmk : List.replicate A.length (-9 - (vs.length : Int) - (k : Int)) ++ A.drop A.length = marked (vs.length + k) A.length := by
            unfold marked
            rw [List.drop_length, List.append_nil]
            congr 1
            omega
          rw [hmk] at O
          obtain ⟨t0, hi, hz0, hz1, hz2⟩ := info_parts size_list
          have gux : gu < X.heap.size := (HU.out.lt gu rfl).2
          have W1 : Hid (wr.heap[wb]? = some (.cells #[m0, m1, r0, r1, a0, a1, .slice q1 T.length cap1] 39 (0, 0))) := (show _ from (F.out.block wb (lt_of_heap J.out.hb) (fun e => HU.out.not_at J.out.hb (by decide) (by rw [e]; rfl))).trans J.out.hb)
          have R1 : Hid (wr.ownsRow 0 41 1 (.slice q1 T.length cap1) T.length T) := rowL_fr (S := fun z => z = gu) JR.out F.out (fun z hz e => by
            obtain ⟨cur, h4⟩ : ∃ cur, X.heap[z]? = some (.cells cur 41 (0, 0)) := by
              rcases JR.out.2 with ⟨h0, _⟩ | ⟨g', c', cur, e', _, h4, _⟩
              · rw [h0] at hz; simp [Value.ownBlock] at hz
              · rw [e'] at hz; simp [Value.ownBlock] at hz; subst hz; exact ⟨cur, h4⟩
            exact HU.out.not_at h4 (by decide) (by rw [e]; rfl))
          have w6 : wr.cell? ⟨wb, 6, none⟩ = some (.slice q1 T.length cap1) := by simp [World.cell?, W1.out]
          have fw6 : wr.frozen? ⟨wb, 6, none⟩ = false := by simp [World.frozen?, W1.out]
          have lwb := lt_of_heap W1.out
          have G1 : Hid (wr.ownsRow 0 41 1 (.slice (some ⟨gl, 0, none⟩) ls.length cl) ls.length ls) := rowL_fr (S := fun z => z = gu) J.out.glr F.out (fun z hz e => by simp [Value.ownBlock] at hz; omega)
          have L1 : Hid (∀ (i : Nat) (u : Value), (vs ++ ls)[i]? = some u → OwnI wr 0 u (c1 vs.length c (k + 1) i)) := fun i u hu => by
            by_cases hik : i = vs.length + k
            · subst hik
              rw [get_at HK.out] at hu
              cases hu
              unfold c1
              rw [if_pos (by omega), HA.out]
              exact O.out
            · have e : c1 vs.length c (k + 1) i = c1 vs.length c k i := by
                unfold c1
                by_cases h : vs.length ≤ i ∧ i < vs.length + k
                · rw [if_pos h, if_pos (by omega)]
                · rw [if_neg h, if_neg (by omega)]
              rw [e]
              exact (J.out.lists i u hu).fr (S := fun z => z = gu) F.out (HS.out.other (get_at HK.out) hu (fun q => hik q.symm) rfl)
          have sX := J.out.fr.size
          have sF := F.out.size
          have HFR : Hid (Fr (ownsS wb (.slice q vs.length cap) ls) w wr) := J.out.fr.then F.out (fun z _ hz => .inr (.inr ⟨_, List.mem_of_getElem? HK.out, by rw [hz]; rfl⟩))
          have e6 : (wr.alloc (.cells #[.slice (some ⟨gu, 0, none⟩) A.length cu] 41)).cell? ⟨wb, 6, none⟩ = some (.slice q1 T.length cap1) := (World.cell?_of_block (a := ⟨wb, 6, none⟩) (Below.heap_alloc wr _ wb lwb)).trans w6
          have j3 := J.out.mv
          have HMV : Hid (moved (.slice q vs.length cap) (.slice q1 T.length cap1) w.heap.size) := j3
          have HNE : Hid ((Value.slice q1 T.length cap1).ownBlock ≠ some gl) := J.out.ne
          have HGL : Hid (gl < w.heap.size) := J.out.glt
          have HT : Hid (vs ++ ls.take (k + 1) = T ++ [.slice (some ⟨gu, 0, none⟩) A.length cu]) := (show vs ++ ls.take (k + 1) = T ++ [.slice (some ⟨gu, 0, none⟩) A.length cu] from by
            rw [List.take_add_one, HK.out, ← HTT.out, List.append_assoc]; rfl)
          clear j3 J F O HU JR
          go_wp2
          go_region_law (refine step_append_at rfl _ _ 37 rfl 0 41 t0 (.slice none 0 0) 1 24 und_lists hi hz0 hz1 hz2 rfl (by decide) _ _ _ (by simp [Act.eval]) (World.ownsRow.alloc R1.out (.cells #[.slice (some ⟨gu, 0, none⟩) A.length cu] 41)).drew ⟨wr.heap.size, 0, none⟩ 1 1 [.slice (some ⟨gu, 0, none⟩) A.length cu] (by simp [Act.eval]) rfl (cell_one_new _ _ _) (by simp [Value.oneCell']) (by unfold maxLen; omega) (by omega) (Nat.zero_le _) ?_; intro v' w7 hown' hgrow hblk; obtain ⟨g7, cap7, rfl⟩ := ownsRow_succ hown'; have W7 : Hid (w7.heap[wb]? = some (.cells #[m0, m1, r0, r1, a0, a1, .slice q1 T.length cap1] 39 (0, 0))) := (hgrow.block wb (by simp; omega) (Ne.symm (rowL_at R1.out W1.out (by decide)))).trans ((Below.heap_alloc _ _ _ lwb).trans W1.out); have O7 : Hid (w7.ownsRow 0 41 1 (.slice (some ⟨g7, 0, none⟩) (T.length + 1) cap7) (T.length + 1) (T ++ [.slice (some ⟨gu, 0, none⟩) A.length cu])) := hown'; have F7 : Hid (Fr (fun z => (Value.slice q1 T.length cap1).ownBlock = some z) wr w7) := ((Fr.refl _ wr).alloc _).drew.grown hgrow (fun z hz => hz); have B7 : Hid ((Value.slice (some ⟨g7, 0, none⟩) (T.length + 1) cap7).ownBlock = (Value.slice q1 T.length cap1).ownBlock ∨ (Value.slice (some ⟨g7, 0, none⟩) (T.length + 1) cap7).ownBlock = some (wr.heap.size + 1)) := (hblk.elim .inl (fun e => .inr (by simpa using e))); clear hown' hgrow hblk; have c7 : w7.cell? ⟨wb, 6, none⟩ = some (.slice q1 T.length cap1) := (by simp [World.cell?, W7.out]); have f7 : w7.frozen? ⟨wb, 6, none⟩ = false := (by simp [World.frozen?, W7.out]))
          all_goals go_wp2
          all_goals
            refine ⟨⟨k + 1, .slice (some ⟨g7, 0, none⟩) (T.length + 1) cap7, by omega, by go_num, ⟨?_, ?_, ?_, ?_, ?_, ?_, HGL.out, ?_⟩⟩, by simp [intOf]; omega⟩
            · rw [heap_set_in W7.out]; simp
            · rw [HT.out, List.length_append]
              exact ownsRow_setCell_other O7.out (rowL_at O7.out W7.out (by decide)) _
            · have q1' := rowL_fr (S := fun z => (Value.slice q1 T.length cap1).ownBlock = some z) G1.out F7.out (fun z hz e => HNE.out (by rw [e, ← hz]; rfl))
              exact ownsRow_setCell_other q1' (rowL_at q1' W7.out (by decide)) _
            · intro i u hu
              have q2 := (L1.out i u hu).fr (S := fun z => (Value.slice q1 T.length cap1).ownBlock = some z) F7.out (fun z hz e => by
                obtain ⟨cur, h4⟩ := rowL_blk R1.out e
                exact (L1.out i u hu).not_at h4 (by decide) hz)
              exact ownsRow_setCell_other q2 (q2.not_at W7.out (by decide)) _
            · rcases B7.out with e | e
              · unfold moved at *
                rw [e]
                exact HMV.out
              · exact .inr (.inr ⟨_, by omega, e⟩)
            · rcases B7.out with e | e
              · rw [e]; exact HNE.out
              · rw [e]; intro q; have := HGL.out; injection q; omega
            · refine HFR.out.then (Fr.setCell (S := fun z => z = wb ∨ (Value.slice q1 T.length cap1).ownBlock = some z) (p := ⟨wb, 6, none⟩) (F7.out.mono (fun z hz => .inr hz)) (.inl rfl) _) (fun z hz h => ?_)
              rcases h with h | h
              · exact .inl h
              · exact .inr (.inl (moved_in HMV.out hz h))
    · obtain rfl : k = ls.length := by omega
      have i1 : ¬ ((ls.length : Int) < (ls.length : Int)) := by omega
      have HTE : Hid (T = vs ++ ls) := (show T = vs ++ ls from by rw [← HTT.out, List.take_length])
      have w6 : wr.cell? ⟨wb, 6, none⟩ = some (.slice q1 T.length cap1) := by simp [World.cell?, J.out.hb]
      have G0 : Hid (OG w wb m0 m1 r0 r1 a0 a1 (.slice q vs.length cap) (.slice q1 T.length cap1) vs ls c (fun _ => 0) wr ls) := by
        refine ⟨J.out.hb, ?_, rfl, ?_, ?_, HS.out, J.out.fr⟩
        · have z := JR.out
          rw [HTE.out] at z ⊢
          exact z
        · intro j u hu
          have z := J.out.lists _ u (get_at hu)
          unfold c1 at z
          rw [if_pos ⟨by omega, by have := (List.getElem?_eq_some_iff.1 hu).1; omega⟩] at z
          refine ⟨z, fun e => ?_⟩
          obtain ⟨g, hg⟩ := HM.out u (List.mem_of_getElem? hu)
          rw [e] at hg
          cases hg
        · intro j u u' h1 h2
          rw [h1] at h2
          cases h2
          exact .inl rfl
      have HMV : Hid (moved (.slice q vs.length cap) (.slice q1 T.length cap1) w.heap.size) := J.out.mv
      have hTl2 : (T.length : Int) = (vs.length : Int) + (ls.length : Int) := by rw [HTE.out]; simp
      have HTL : Hid ((T.length : Int) = (vs.length : Int) + (ls.length : Int)) := hTl2
      have OLT : Hid (∀ v ∈ vs, ∀ g, v.ownBlock = some g → g < w.heap.size) := fun v hv g hg => by
        obtain ⟨i, hi⟩ := List.getElem?_of_mem hv
        have hil := (List.getElem?_eq_some_iff.1 hi).1
        exact ((HC.out i v (by rw [List.getElem?_append_left hil]; exact hi)).1.lt g hg).2
      have BND : Hid (∀ j, j < ls.length → (c (vs.length + j)).length ≤ 150000) := fun j hj => (HC.out _ _ (get_at (List.getElem?_eq_getElem hj))).2 (by omega)
      clear J JR hTl2 w6 HB HV HL
      go_wp2
      go_loopw [7] (fun i wx => ∃ (k : Nat) (us : List Value), k ≤ 9 ∧ i = .int .i64 k ∧ OG w wb m0 m1 r0 r1 a0 a1 (.slice q vs.length cap) (.slice q1 T.length cap1) vs ls c (fun _ => k) wx us) (fun i _ => 9 - (intOf i).toNat)
      case atStart => exact ⟨0, ls, by omega, rfl, G0.out⟩
      case round =>
        obtain ⟨k, us, hk9, rfl, hG⟩ := hrel
        have G1 : Hid (OG w wb m0 m1 r0 r1 a0 a1 (.slice q vs.length cap) (.slice q1 T.length cap1) vs ls c (fun _ => k) wr us) := hG
        clear hG G0
        by_cases hk : k < 9
        · have k9 : (k : Int) < 9 := by omega
          go_wp2
          go_loopw [8] (fun i wx => ∃ (j : Nat) (us : List Value), j ≤ ls.length ∧ i = .int .i64 ((vs.length : Int) + (j : Int)) ∧ OG w wb m0 m1 r0 r1 a0 a1 (.slice q vs.length cap) (.slice q1 T.length cap1) vs ls c (fun i => if i < j then k + 1 else k) wx us) (fun i _ => T.length - (intOf i).toNat)
          case atStart => exact ⟨0, us, Nat.zero_le _, by simp, by simpa using G1.out⟩
          case round =>
            obtain ⟨j, us, hj, rfl, hG⟩ := hrel
            have G : Hid (OG w wb m0 m1 r0 r1 a0 a1 (.slice q vs.length cap) (.slice q1 T.length cap1) vs ls c (fun i => if i < j then k + 1 else k) wr us) := hG
            have w6 : wr.cell? ⟨wb, 6, none⟩ = some (.slice q1 T.length cap1) := by simp [World.cell?, hG.hb]
            clear hG G1
            have tl := HTL.out
            by_cases hjl : j < ls.length
            · have hju : j < us.length := by rw [G.out.len]; exact hjl
              have HK : Hid (us[j]? = some us[j]) := List.getElem?_eq_getElem hju
              obtain ⟨g0, cc, e0, hg0, hcell, hfz⟩ := rowL_cell G.out.row (get_at HK.out)
              obtain ⟨hu, hun⟩ := G.out.lists j _ HK.out
              rw [if_neg (Nat.lt_irrefl j)] at hu
              obtain ⟨gu, hgu⟩ : ∃ g, us[j].ownBlock = some g := Option.ne_none_iff_exists'.1 hun
              obtain ⟨cu, hform⟩ := hu.form hgu
              have bnd := BND.out j hjl
              obtain ⟨m, hm⟩ : ∃ m, (c (vs.length + j)).length + k = m := ⟨_, rfl⟩
              have hml : (marked (vs.length + j) m).length = m := by simp [marked]
              rw [hm] at hu hform
              rw [hml] at hform
              rw [hform] at hcell hu HK hgu
              have e0' : some (⟨g0, 0, none⟩ : Addr) = q1 := by injection e0 with e0 _ _; exact e0.symm
              subst e0'
              have HU : Hid (OwnI wr 0 (.slice (some ⟨gu, 0, none⟩) m cu) (marked (vs.length + j) m)) := hu
              have HMM : Hid ((c (vs.length + j)).length + k = m) := hm
              have hm2 : m ≤ 150009 := by omega
              clear hform hu hun hm hml e0 bnd
              have i0 : (0 : Int) ≤ (vs.length : Int) + (j : Int) := by omega
              have i1 : (vs.length : Int) + (j : Int) < (T.length : Int) := by omega
              have hw1 : IntKind.i64.wrap (-9 - ((vs.length : Int) + (j : Int))) = -9 - ((vs.length : Int) + (j : Int)) := by rw [IntKind.wrap_i64]; omega
              obtain ⟨t0, hi, hz0, hz1, hz2⟩ := info_parts size_int
              clear tl
              have hnat : ((vs.length : Int) + (j : Int)).toNat = vs.length + j := by omega
              have lwb := lt_of_heap G.out.hb
              have GB : Hid (∀ B cs t fr, wr.heap[B]? = some (.cells cs t fr) → t ≠ 3 → B ≠ gu) := fun B cs t fr hB ht e => HU.out.not_at hB ht (by rw [e]; rfl)
              obtain ⟨cur0, hov0⟩ := rowL_heap G.out.row
              have HO0 : Hid (wr.heap[g0]? = some (.cells cur0 41 (0, 0))) := hov0
              have n1 : wb ≠ gu := GB.out _ _ _ _ G.out.hb (by decide)
              have n2 : g0 ≠ gu := GB.out _ _ _ _ hov0 (by decide)
              clear hov0
              have e6 : (wr.alloc (.cells #[.int .i64 (-9 - ((vs.length : Int) + (j : Int)))] 3)).cell? ⟨wb, 6, none⟩ = some (.slice (some ⟨g0, 0, none⟩) T.length cap1) := (World.cell?_of_block (a := ⟨wb, 6, none⟩) (Below.heap_alloc wr _ wb lwb)).trans w6
              have e7 : (wr.alloc (.cells #[.int .i64 (-9 - ((vs.length : Int) + (j : Int)))] 3)).cell? ⟨g0, vs.length + j, none⟩ = some (.slice (some ⟨gu, 0, none⟩) m cu) := (World.cell?_of_block (a := ⟨g0, vs.length + j, none⟩) (Below.heap_alloc wr _ g0 hg0)).trans hcell
              have HHB : Hid (wr.heap[wb]? = some (.cells #[m0, m1, r0, r1, a0, a1, .slice (some ⟨g0, 0, none⟩) T.length cap1] 39 (0, 0))) := G.out.hb
              have HU0 : Hid (wr.ownsRow 0 3 1 (.slice (some ⟨gu, 0, none⟩) m cu) m (ints (marked (vs.length + j) m))) := (show _ from by have z := HU.out; unfold OwnI at z; rwa [show (marked (vs.length + j) m).length = m by simp [marked]] at z)
              have HC7 : Hid (wr.cell? ⟨g0, vs.length + j, none⟩ = some (.slice (some ⟨gu, 0, none⟩) m cu) ∧ wr.frozen? ⟨g0, vs.length + j, none⟩ = false ∧ wr.cell? ⟨wb, 6, none⟩ = some (.slice (some ⟨g0, 0, none⟩) T.length cap1)) := ⟨hcell, hfz, w6⟩
              go_wp2
              go_region_law (refine step_append_at rfl _ _ 41 rfl 0 3 t0 (.int .i64 0) 1 8 und_ints hi hz0 hz1 hz2 rfl (by decide) _ _ _ (by simp [Act.eval]) (World.ownsRow.alloc HU0.out (.cells #[.int .i64 (-9 - ((vs.length : Int) + (j : Int)))] 3)).drew ⟨wr.heap.size, 0, none⟩ 1 1 [.int .i64 (-9 - ((vs.length : Int) + (j : Int)))] (by simp [Act.eval]) rfl (cell_one_new _ _ _) (by simp [Value.oneCell']) (by unfold maxLen; omega) (by omega) (Nat.zero_le _) ?_; intro v' w7 hown' hgrow hblk; obtain ⟨g7, cap7, rfl⟩ := ownsRow_succ hown'; have F7 : Hid (Fr (fun z => z = gu) wr w7) := ((Fr.refl _ wr).alloc _).drew.grown hgrow (fun z hz => by simp [Value.ownBlock] at hz; exact hz.symm); have O7 : Hid (w7.ownsRow 0 3 1 (.slice (some ⟨g7, 0, none⟩) (m + 1) cap7) (m + 1) (ints (marked (vs.length + j) m) ++ [.int .i64 (-9 - ((vs.length : Int) + (j : Int)))])) := hown'; have B7 : Hid ((Value.slice (some ⟨g7, 0, none⟩) (m + 1) cap7).ownBlock = some gu ∨ (Value.slice (some ⟨g7, 0, none⟩) (m + 1) cap7).ownBlock = some (wr.heap.size + 1)) := (hblk.elim .inl (fun e => .inr (by simpa using e))); clear hown' hgrow hblk; have d6 := (World.cell?_of_block (a := ⟨wb, 6, none⟩) (F7.out.block wb lwb n1)).trans HC7.out.2.2; have d7 := (World.cell?_of_block (a := ⟨g0, vs.length + j, none⟩) (F7.out.block g0 hg0 n2)).trans HC7.out.1; have d8 := (World.frozen?_of_block (a := ⟨g0, vs.length + j, none⟩) (F7.out.block g0 hg0 n2)).trans HC7.out.2.1)
              all_goals go_wp2
              all_goals exact ⟨⟨j + 1, _, by omega, by congr 1 <;> omega, OG.step G.out HK.out HMM.out F7.out O7.out B7.out OLT.out HMV.out⟩, by simp [intOf]; have := HTL.out; omega⟩
            · obtain rfl : j = ls.length := by omega
              have i1 : ¬ ((vs.length : Int) + (ls.length : Int) < (T.length : Int)) := by omega
              clear tl
              go_wp2
              exact ⟨⟨k + 1, us, by omega, by go_num, ⟨G.out.hb, G.out.row, G.out.len, fun i u hi => by
                have z := G.out.lists i u hi
                rw [if_pos (by rw [← G.out.len]; exact (List.getElem?_eq_some_iff.1 hi).1)] at z
                exact z, G.out.mvd, G.out.sep, G.out.fr⟩⟩, by simp [intOf]; omega⟩
        · have k9 : ¬ ((k : Int) < 9) := by omega
          go_wp2
          go_end0
          exact ⟨rfl, _, G1.out.hb, us, by have z := G1.out.row; rwa [List.length_append] at z, ⟨G1.out.len, fun i u hi => ⟨_, by have := BND.out i (by rw [← G1.out.len]; exact (List.getElem?_eq_some_iff.1 hi).1); omega, (G1.out.lists i u hi).1⟩⟩, G1.out.mvd, HMV.out, G1.out.sep, G1.out.fr⟩
end Go.Proofs.Ytofiidfnjgoenaa
