/-
  How deep a tree is; how many groups it has. How many groups a tree has.
-/
import Derived.Test.YtpfdapnfkghgkaaGreatDoorC3
namespace Go.Proofs.YtpfdapnfkghgkaaGreatDoor
open Go Go.RowKit Go.Shelf
attribute [local go_sem] Oper.semAt_some

/-- How deep the deepest of some nodes is. -/
def deepM : List El → Nat
  | [] => 0
  | x :: r => max (x.1.length + 1) (deepM r)
theorem deepM_snoc (a : List El) (x : El) : deepM (a ++ [x]) = max (deepM a) (x.1.length + 1) := by
  induction a with
  | nil => simp [deepM]
  | cons y a ih => simp only [List.cons_append, deepM, ih]; omega
/-- How many groups are among some nodes. -/
def grpM : List El → Nat
  | [] => 0
  | x :: r => (if x.2.f.k = 7 then 1 else 0) + grpM r
theorem grpM_append (a b : List El) : grpM (a ++ b) = grpM a + grpM b := by
  induction a with
  | nil => simp [grpM]
  | cons y a ih => simp only [List.cons_append, grpM, ih]; omega
theorem grpM_snoc (a : List El) (x : El) : grpM (a ++ [x]) = grpM a + (if x.2.f.k = 7 then 1 else 0) := by rw [grpM_append]; simp [grpM]
theorem grpM_le (a : List El) : grpM a ≤ a.length := by
  induction a with
  | nil => simp [grpM]
  | cons y a ih => simp only [grpM, List.length_cons]; split <;> omega
/-- The way to a node is no longer than what lies ahead of it. -/
theorem told_deep {t : Tr} : ∀ {pre : List El} {x : El}, pre ++ [x] <+: pp [] t → x.1.length ≤ pre.length := by
  intro pre
  have : ∀ (m : Nat) (pre : List El), pre.length = m → ∀ x, pre ++ [x] <+: pp [] t → x.1.length ≤ m := by
    intro m
    induction m with
    | zero =>
      intro pre hp x h
      obtain rfl := List.eq_nil_of_length_eq_zero hp
      rw [List.nil_append] at h
      rw [told_first h]
      simp
    | succ m ih =>
      intro pre hp x h
      obtain ⟨pre', y, rfl⟩ : ∃ pre' y, pre = pre' ++ [y] := ⟨pre.dropLast, pre.getLast (by intro e; rw [e] at hp; simp at hp), (List.dropLast_concat_getLast _).symm⟩
      have h1 := ih pre' (by simp at hp; omega) y (List.IsPrefix.trans (List.prefix_append _ _) h)
      obtain ⟨par, j, rest, e, (⟨-, -, e2⟩ | ⟨s, i, e2, -⟩)⟩ := told_next h
      · rw [e, e2]; simp; omega
      · rw [e]
        rw [e2] at h1
        simp at h1 ⊢
        omega
  exact fun {x} h => this pre.length pre rfl x h

set_option maxRecDepth 100000 in
set_option maxHeartbeats 4000000 in
theorem depth_in (n : Nat) (hn : 3 ≤ n) {w : World} {t : Tr} (hta : TA w t) :
    CallsIn Fence.wide n Tryz.prog 13 #[.agg #[.int .i64 t.f.k, .int .i64 t.f.n, .int .i64 t.f.mn, .int .i64 t.f.mx, .slice t.f.rq t.f.rs.length t.f.rc, .slice t.f.kq t.f.kl t.f.kc]] w fun e w' => e = .returned (.int .i64 ((if 2000 < (pp [] t).length then 0 else deepM (pp [] t) : Nat) : Int)) ∧ Below w.heap.size w w' := by
  have hfn : ∀ f, Fence.wide.fn f := fun _ => trivial
  refine callsIn_of_wp_marks Tryz.func13 rfl trivial ?_ rfl
  simp only [Tryz.ntmps13, List.size_toArray, List.length_cons, List.length_nil, Nat.reduceAdd, Nat.reduceSub, Array.replicate_succ, Array.replicate_zero, List.push_toArray, List.append_toArray, List.nil_append, List.cons_append]
  refine wpIn_wide.2 ?_
  have HTA := hide hta
  have B1 : Hid (Below w.heap.size w (w.alloc (.cells #[.int .i64 t.f.k, .int .i64 t.f.n, .int .i64 t.f.mn, .int .i64 t.f.mx, .slice t.f.rq t.f.rs.length t.f.rc, .slice t.f.kq t.f.kl t.f.kc] 28))) := (Below.refl _ _).alloc (Nat.le_refl _) _
  have N1 : Hid (BoxN (w.alloc (.cells #[.int .i64 t.f.k, .int .i64 t.f.n, .int .i64 t.f.mn, .int .i64 t.f.mx, .slice t.f.rq t.f.rs.length t.f.rc, .slice t.f.kq t.f.kl t.f.kc] 28)) w.heap.size t.f) := alloc_new w _
  obtain ⟨c0, c1, c2, c3, c4, c5⟩ := N1.out.six
  simp only [Nat.zero_add] at c1 c2 c3 c4 c5
  have HT := hide (tooMany_c (HTA.out.kept B1.out))
  clear hta
  by_cases hm : 2000 < (pp [] t).length
  · have e1 : decide (2000 < (pp [] t).length) = true := by simp; omega
    have e2 : (if 2000 < (pp [] t).length then 0 else deepM (pp [] t)) = 0 := by rw [if_pos hm]
    rw [e1] at HT
    rw [e2]
    clear e1 e2 hm
    go_wp2_with (go_at_call 30; (with_reducible refine (HT.out).mono ?_); rintro e w2 ⟨rfl, h2⟩; have B2 : Hid (Below w.heap.size w w2) := chain B1.out h2 (Nat.le_refl _); clear h2)
    exact ⟨.int .i64 0, by simp [results, Tryz.results13, go_sem], rfl, B2.out⟩
  · have e1 : decide (2000 < (pp [] t).length) = false := by simp; omega
    have e2 : (if 2000 < (pp [] t).length then 0 else deepM (pp [] t)) = deepM (pp [] t) := by rw [if_neg hm]
    rw [e1] at HT
    rw [e2]
    clear e1 e2
    have HM := hide hm
    clear hm
    go_wp2_with first | (go_at_call 30; (with_reducible refine (HT.out).mono ?_); rintro e w2 ⟨rfl, h2⟩; have B2 : Hid (Below w.heap.size w w2) := chain B1.out h2 (Nat.le_refl _); have N2 : Hid (BoxN (w2.alloc (.cells #[.int .i64 0] 3)) w.heap.size t.f) := (Below.heap_alloc _ _ _ (Nat.lt_of_lt_of_le (lt_of_heap N1.out) h2.size)).trans ((h2.block _ (lt_of_heap N1.out)).trans N1.out); clear h2; obtain ⟨d0, d1, d2, d3, d4, d5⟩ := N2.out.six; simp only [Nat.zero_add] at d1 d2 d3 d4 d5) | (go_at_call 28; (with_reducible refine (nodes_c _ _).mono ?_); rintro e w3 ⟨rfl, rfl⟩)
    have N3 : BoxN ((w2.alloc (.cells #[.int .i64 0] 3)).alloc (.cells #[.int .i64 t.f.k, .int .i64 t.f.n, .int .i64 t.f.mn, .int .i64 t.f.mx, .slice t.f.rq t.f.rs.length t.f.rc, .slice t.f.kq t.f.kl t.f.kc] 28)) (w2.heap.size + 1) t.f := (by
      have := alloc_new (w2.alloc (.cells #[.int .i64 0] 3)) (.cells #[.int .i64 t.f.k, .int .i64 t.f.n, .int .i64 t.f.mn, .int .i64 t.f.mx, .slice t.f.rq t.f.rs.length t.f.rc, .slice t.f.kq t.f.kl t.f.kc] 28)
      rwa [World.size_alloc] at this)
    have I3 : BoxI ((w2.alloc (.cells #[.int .i64 0] 3)).alloc (.cells #[.int .i64 t.f.k, .int .i64 t.f.n, .int .i64 t.f.mn, .int .i64 t.f.mx, .slice t.f.rq t.f.rs.length t.f.rc, .slice t.f.kq t.f.kl t.f.kc] 28)) w2.heap.size 0 := (Below.heap_alloc _ _ _ (by simp)).trans (alloc_new w2 _)
    have B3 : Below w.heap.size w ((w2.alloc (.cells #[.int .i64 0] 3)).alloc (.cells #[.int .i64 t.f.k, .int .i64 t.f.n, .int .i64 t.f.mn, .int .i64 t.f.mx, .slice t.f.rq t.f.rs.length t.f.rc, .slice t.f.kq t.f.kl t.f.kc] 28)) := (B2.out.alloc B2.out.size _).alloc (by simp; exact Nat.le_succ_of_le B2.out.size) _
    have hwi := B2.out.size
    generalize ((w2.alloc (.cells #[.int .i64 0] 3)).alloc (.cells #[.int .i64 t.f.k, .int .i64 t.f.n, .int .i64 t.f.mn, .int .i64 t.f.mx, .slice t.f.rq t.f.rs.length t.f.rc, .slice t.f.kq t.f.kl t.f.kc] 28)) = w4 at N3 I3 B3 ⊢
    have L3 := lt_of_heap N3
    have L4 := lt_of_heap I3
    generalize w2.heap.size + 1 = bn at N3 L3 ⊢
    generalize w2.heap.size = bi at I3 L4 hwi ⊢
    clear N1 N2 B1 B2 c0 c1 c2 c3 c4 c5 d0 d1 d2 d3 d4 d5 HT
    refine (wpIn_wide (n := n)).1 ?_
    refine rangeN (by omega) 9 10 bn rfl rfl N3 HTA.out (CK.of_below B3) (fun pre V => BoxI V bi (deepM pre : Int) ∧ pre <+: pp [] t ∧ Below w.heap.size w V) (fun _ _ _ => False)
      ?_ (fun _ _ _ _ _ h => h.elim) (fun pre W h => by have := h.2.1.length_le; have := HM.out; omega) ⟨I3, List.nil_prefix, B3⟩ (fun y x a' _ => a' = { y with tmps := y.tmps.setIfInBounds 4 (.int .i64 ((x.1.length : Int) + 1)) }) ?_ ?_ ?_ ?_ ?_
    · rintro pre A A' row ⟨h1, h2, h3⟩ hg hr
      exact ⟨h1.row hg hr, h2, bel_grown h3 (Nat.le_refl _) B3.size hg hr⟩
    · intro y x a' _ A A' row h _ _
      exact h
    · intro l pre x V K _ _ _ _ hK
      simp only [roundN]
      gi_wp2
      exact hK _ _ (Below.refl _ _) rfl
    · rintro l pre x a' V ⟨h1, h2, h3⟩ hck hsz ht rfl
      have H1 := hide h1
      have H3 := hide h3
      have k0 := h1.cell
      have fz := frz_row h1 0
      have HT := hide ht
      have mx := max_run Tryz.prog #[3, 3] 3
      have F1 : Hid (Fr (fun z => z = bi) V (V.setCell ⟨bi, 0, none⟩ (.int .i64 (max (deepM pre : Int) ((x.1.length : Int) + 1))))) := BoxI.fr _
      have X1 : Hid (BoxI (V.setCell ⟨bi, 0, none⟩ (.int .i64 (max (deepM pre : Int) ((x.1.length : Int) + 1)))) bi (max (deepM pre : Int) ((x.1.length : Int) + 1))) := H1.out.set _
      have HP : Hid (KeepsFrom w4.heap.size V (V.setCell ⟨bi, 0, none⟩ (.int .i64 (max (deepM pre : Int) ((x.1.length : Int) + 1)))) ∧ CKeep (Nn w.heap.size w4.heap.size) V (V.setCell ⟨bi, 0, none⟩ (.int .i64 (max (deepM pre : Int) ((x.1.length : Int) + 1)))) ∧ Below w.heap.size w (V.setCell ⟨bi, 0, none⟩ (.int .i64 (max (deepM pre : Int) ((x.1.length : Int) + 1))))) :=
        ⟨F1.out.keepsFrom (fun k hk => by omega), F1.out.ckeep (fun k hk => by rintro (z | z) <;> omega), chainF H3.out F1.out (Nat.le_refl _) (fun k e => by omega)⟩
      have e1 : (deepM (pre ++ [x]) : Int) = max (deepM pre : Int) ((x.1.length : Int) + 1) := by rw [deepM_snoc]; omega
      have X2 : Hid (BoxI (V.setCell ⟨bi, 0, none⟩ (.int .i64 (max (deepM pre : Int) ((x.1.length : Int) + 1)))) bi (deepM (pre ++ [x]) : Int)) := (by rw [e1]; exact X1.out)
      clear h1 h3 hck ht hsz h2 e1
      simp only [roundN]
      gi_wp2
      exact ⟨HP.out.1, HP.out.2.1, X2.out, HT.out, HP.out.2.2⟩
    · rintro D V hD ⟨h1, h2, h3⟩ hck hK
      have k0 := h1.cell
      have H3 := hide h3
      have HK := hide hK
      have HD := hide hD
      simp only [behindN]
      go_wp2
      refine ⟨by simp, .inl ⟨_, _, rfl, run_takeDeferred HK.out, ?_⟩⟩
      refine ⟨.int .i64 (deepM (pp [] t) : Int), by simp [results, Tryz.results13, go_sem], rfl, bel_put _ H3.out (Nat.le_trans B3.size HD.out)⟩
    · rintro D c pre V hD hpre h hK
      exact h.elim
theorem depth_c {w : World} {t : Tr} (hta : TA w t) : Calls Tryz.prog 13 #[.agg #[.int .i64 t.f.k, .int .i64 t.f.n, .int .i64 t.f.mn, .int .i64 t.f.mx, .slice t.f.rq t.f.rs.length t.f.rc, .slice t.f.kq t.f.kl t.f.kc]] w fun e w' => e = .returned (.int .i64 ((if 2000 < (pp [] t).length then 0 else deepM (pp [] t) : Nat) : Int)) ∧ Below w.heap.size w w' := callsIn_wide.1 (depth_in 3 (by decide) hta)
end Go.Proofs.YtpfdapnfkghgkaaGreatDoor
namespace Go.Proofs.YtpfdapnfkghgkaaGreatDoor
open Go Go.RowKit Go.Shelf
attribute [local go_sem] Oper.semAt_some

/-- A round that lays the node that it is handed into a box. -/
def Ax1 (s B : Nat) (y : Act) (x : El) (a' : Act) (W : World) : Prop := ∃ bx, BoxN W bx x.2.f ∧ B ≤ bx ∧ a' = { y with tmps := y.tmps.setIfInBounds s (.pointer (some ⟨bx, 0, none⟩)) }
theorem ax1_own (s B : Nat) (y : Act) (x : El) (a' : Act) : OwnFrom B (fun (_ : Unit) W => Ax1 s B y x a' W) := fun _ _ _ _ h hg hr => by
  obtain ⟨bx, h1, h2, h3⟩ := h
  exact ⟨bx, cells_kept hg hr h1, h2, h3⟩
set_option maxRecDepth 100000 in
set_option maxHeartbeats 4000000 in
theorem groups_in (n : Nat) (hn : 3 ≤ n) {w : World} {t : Tr} (hta : TA w t) :
    CallsIn Fence.wide n Tryz.prog 12 #[.agg #[.int .i64 t.f.k, .int .i64 t.f.n, .int .i64 t.f.mn, .int .i64 t.f.mx, .slice t.f.rq t.f.rs.length t.f.rc, .slice t.f.kq t.f.kl t.f.kc]] w fun e w' => e = .returned (.int .i64 ((if 2000 < (pp [] t).length then 0 else grpM (pp [] t) : Nat) : Int)) ∧ Below w.heap.size w w' := by
  have hfn : ∀ f, Fence.wide.fn f := fun _ => trivial
  refine callsIn_of_wp_marks Tryz.func12 rfl trivial ?_ rfl
  simp only [Tryz.ntmps12, List.size_toArray, List.length_cons, List.length_nil, Nat.reduceAdd, Nat.reduceSub, Array.replicate_succ, Array.replicate_zero, List.push_toArray, List.append_toArray, List.nil_append, List.cons_append]
  refine wpIn_wide.2 ?_
  have HTA := hide hta
  have B1 : Hid (Below w.heap.size w (w.alloc (.cells #[.int .i64 t.f.k, .int .i64 t.f.n, .int .i64 t.f.mn, .int .i64 t.f.mx, .slice t.f.rq t.f.rs.length t.f.rc, .slice t.f.kq t.f.kl t.f.kc] 28))) := (Below.refl _ _).alloc (Nat.le_refl _) _
  have N1 : Hid (BoxN (w.alloc (.cells #[.int .i64 t.f.k, .int .i64 t.f.n, .int .i64 t.f.mn, .int .i64 t.f.mx, .slice t.f.rq t.f.rs.length t.f.rc, .slice t.f.kq t.f.kl t.f.kc] 28)) w.heap.size t.f) := alloc_new w _
  obtain ⟨c0, c1, c2, c3, c4, c5⟩ := N1.out.six
  simp only [Nat.zero_add] at c1 c2 c3 c4 c5
  have HT := hide (tooMany_c (HTA.out.kept B1.out))
  clear hta
  by_cases hm : 2000 < (pp [] t).length
  · have e1 : decide (2000 < (pp [] t).length) = true := by simp; omega
    have e2 : (if 2000 < (pp [] t).length then 0 else grpM (pp [] t)) = 0 := by rw [if_pos hm]
    rw [e1] at HT
    rw [e2]
    clear e1 e2 hm
    go_wp2_with (go_at_call 30; (with_reducible refine (HT.out).mono ?_); rintro e w2 ⟨rfl, h2⟩; have B2 : Hid (Below w.heap.size w w2) := chain B1.out h2 (Nat.le_refl _); clear h2)
    exact ⟨.int .i64 0, by simp [results, Tryz.results12, go_sem], rfl, B2.out⟩
  · have e1 : decide (2000 < (pp [] t).length) = false := by simp; omega
    have e2 : (if 2000 < (pp [] t).length then 0 else grpM (pp [] t)) = grpM (pp [] t) := by rw [if_neg hm]
    rw [e1] at HT
    rw [e2]
    clear e1 e2
    have HM := hide hm
    clear hm
    go_wp2_with first | (go_at_call 30; (with_reducible refine (HT.out).mono ?_); rintro e w2 ⟨rfl, h2⟩; have B2 : Hid (Below w.heap.size w w2) := chain B1.out h2 (Nat.le_refl _); have N2 : Hid (BoxN (w2.alloc (.cells #[.int .i64 0] 3)) w.heap.size t.f) := (Below.heap_alloc _ _ _ (Nat.lt_of_lt_of_le (lt_of_heap N1.out) h2.size)).trans ((h2.block _ (lt_of_heap N1.out)).trans N1.out); clear h2; obtain ⟨d0, d1, d2, d3, d4, d5⟩ := N2.out.six; simp only [Nat.zero_add] at d1 d2 d3 d4 d5) | (go_at_call 28; (with_reducible refine (nodes_c _ _).mono ?_); rintro e w3 ⟨rfl, rfl⟩)
    have N3 : BoxN ((w2.alloc (.cells #[.int .i64 0] 3)).alloc (.cells #[.int .i64 t.f.k, .int .i64 t.f.n, .int .i64 t.f.mn, .int .i64 t.f.mx, .slice t.f.rq t.f.rs.length t.f.rc, .slice t.f.kq t.f.kl t.f.kc] 28)) (w2.heap.size + 1) t.f := (by
      have := alloc_new (w2.alloc (.cells #[.int .i64 0] 3)) (.cells #[.int .i64 t.f.k, .int .i64 t.f.n, .int .i64 t.f.mn, .int .i64 t.f.mx, .slice t.f.rq t.f.rs.length t.f.rc, .slice t.f.kq t.f.kl t.f.kc] 28)
      rwa [World.size_alloc] at this)
    have I3 : BoxI ((w2.alloc (.cells #[.int .i64 0] 3)).alloc (.cells #[.int .i64 t.f.k, .int .i64 t.f.n, .int .i64 t.f.mn, .int .i64 t.f.mx, .slice t.f.rq t.f.rs.length t.f.rc, .slice t.f.kq t.f.kl t.f.kc] 28)) w2.heap.size 0 := (Below.heap_alloc _ _ _ (by simp)).trans (alloc_new w2 _)
    have B3 : Below w.heap.size w ((w2.alloc (.cells #[.int .i64 0] 3)).alloc (.cells #[.int .i64 t.f.k, .int .i64 t.f.n, .int .i64 t.f.mn, .int .i64 t.f.mx, .slice t.f.rq t.f.rs.length t.f.rc, .slice t.f.kq t.f.kl t.f.kc] 28)) := (B2.out.alloc B2.out.size _).alloc (by simp; exact Nat.le_succ_of_le B2.out.size) _
    have hwi := B2.out.size
    generalize ((w2.alloc (.cells #[.int .i64 0] 3)).alloc (.cells #[.int .i64 t.f.k, .int .i64 t.f.n, .int .i64 t.f.mn, .int .i64 t.f.mx, .slice t.f.rq t.f.rs.length t.f.rc, .slice t.f.kq t.f.kl t.f.kc] 28)) = w4 at N3 I3 B3 ⊢
    have L3 := lt_of_heap N3
    have L4 := lt_of_heap I3
    generalize w2.heap.size + 1 = bn at N3 L3 ⊢
    generalize w2.heap.size = bi at I3 L4 hwi ⊢
    clear N1 N2 B1 B2 c0 c1 c2 c3 c4 c5 d0 d1 d2 d3 d4 d5 HT
    refine (wpIn_wide (n := n)).1 ?_
    refine rangeN (by omega) 10 11 bn rfl rfl N3 HTA.out (CK.of_below B3) (fun pre V => BoxI V bi (grpM pre : Int) ∧ pre <+: pp [] t ∧ Below w.heap.size w V) (fun _ _ _ => False)
      ?_ (fun _ _ _ _ _ h => h.elim) (fun pre W h => by have := h.2.1.length_le; have := HM.out; omega) ⟨I3, List.nil_prefix, B3⟩ (Ax1 5 w4.heap.size) ?_ ?_ ?_ ?_ ?_
    · rintro pre A A' row ⟨h1, h2, h3⟩ hg hr
      exact ⟨h1.row hg hr, h2, bel_grown h3 (Nat.le_refl _) B3.size hg hr⟩
    · exact ax1_own _ _
    · intro l pre x V K _ _ hs _ hK
      have HS := hide hs
      simp only [roundN]
      gi_wp2
      exact hK _ _ ((Below.refl _ _).alloc (Nat.le_refl _) _) ⟨_, alloc_new V _, HS.out, rfl⟩
    · rintro l pre x a' V ⟨h1, h2, h3⟩ hck hsz ht ⟨bx, hbx, hbl, rfl⟩
      have H1 := hide h1
      have H3 := hide h3
      have k0 := h1.cell
      have k1 := hbx.six.1
      have fz := frz_row h1 0
      have HT := hide ht
      have hl : grpM pre ≤ 2000 := by have := grpM_le pre; have := h2.length_le; have := HM.out; omega
      by_cases hk : x.2.f.k = 7
      · have F1 : Hid (Fr (fun z => z = bi) V (V.setCell ⟨bi, 0, none⟩ (.int .i64 ((grpM pre : Int) + 1)))) := BoxI.fr _
        have X1 : Hid (BoxI (V.setCell ⟨bi, 0, none⟩ (.int .i64 ((grpM pre : Int) + 1))) bi (grpM (pre ++ [x]) : Int)) := (by rw [grpM_snoc, if_pos hk]; exact H1.out.set _)
        have HP : Hid (KeepsFrom w4.heap.size V (V.setCell ⟨bi, 0, none⟩ (.int .i64 ((grpM pre : Int) + 1))) ∧ CKeep (Nn w.heap.size w4.heap.size) V (V.setCell ⟨bi, 0, none⟩ (.int .i64 ((grpM pre : Int) + 1))) ∧ Below w.heap.size w (V.setCell ⟨bi, 0, none⟩ (.int .i64 ((grpM pre : Int) + 1)))) :=
          ⟨F1.out.keepsFrom (fun k hk => by omega), F1.out.ckeep (fun k hk => by rintro (z | z) <;> omega), chainF H3.out F1.out (Nat.le_refl _) (fun k e => by omega)⟩
        rw [hk] at k1
        clear h1 h3 hck ht hsz h2
        simp only [roundN, hk]
        gi_wp2
        exact ⟨HP.out.1, HP.out.2.1, X1.out, HT.out, HP.out.2.2⟩
      · have X1 : Hid (BoxI V bi (grpM (pre ++ [x]) : Int)) := (by rw [grpM_snoc, if_neg hk]; exact H1.out)
        have e1 : (x.2.f.k == 7) = false := by simpa using hk
        have HP : Hid (KeepsFrom w4.heap.size V V ∧ CKeep (Nn w.heap.size w4.heap.size) V V) := ⟨keeps_below (Below.refl _ _), ckeep_below (Below.refl _ _)⟩
        clear h1 h3 hck ht hsz h2
        simp only [roundN]
        gi_wp2
        exact ⟨HP.out.1, HP.out.2, X1.out, HT.out, H3.out⟩
    · rintro D V hD ⟨h1, h2, h3⟩ hck hK
      have k0 := h1.cell
      have H3 := hide h3
      have HK := hide hK
      have HD := hide hD
      simp only [behindN]
      go_wp2
      refine ⟨by simp, .inl ⟨_, _, rfl, run_takeDeferred HK.out, ?_⟩⟩
      refine ⟨.int .i64 (grpM (pp [] t) : Int), by simp [results, Tryz.results12, go_sem], rfl, bel_put _ H3.out (Nat.le_trans B3.size HD.out)⟩
    · rintro D c pre V hD hpre h hK
      exact h.elim
theorem groups_c {w : World} {t : Tr} (hta : TA w t) : Calls Tryz.prog 12 #[.agg #[.int .i64 t.f.k, .int .i64 t.f.n, .int .i64 t.f.mn, .int .i64 t.f.mx, .slice t.f.rq t.f.rs.length t.f.rc, .slice t.f.kq t.f.kl t.f.kc]] w fun e w' => e = .returned (.int .i64 ((if 2000 < (pp [] t).length then 0 else grpM (pp [] t) : Nat) : Int)) ∧ Below w.heap.size w w' := callsIn_wide.1 (groups_in 3 (by decide) hta)
end Go.Proofs.YtpfdapnfkghgkaaGreatDoor
