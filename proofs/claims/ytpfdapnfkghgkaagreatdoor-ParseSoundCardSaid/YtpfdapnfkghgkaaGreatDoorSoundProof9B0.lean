/-
  ParseSound.
-/
import Derived.Test.YtpfdapnfkghgkaaGreatDoorC31
import Derived.Test.YtpfdapnfkghgkaaGreatDoorC13
namespace Go.Proofs.YtpfdapnfkghgkaaGreatDoor
open Go Go.RowKit
attribute [local go_sem] ext_cell

abbrev boxM9 (w : World) (m : Md) : World := w.alloc (.cells #[.bool m.c, .bool m.f] 23)
set_option maxRecDepth 100000 in
set_option maxHeartbeats 4000000 in
theorem sound_err {w : World} (hG : Glb w) (s : ByteArray) (m : Md) {c a : Nat} (hc : c ≠ 0) (ha : a ≤ s.size) (hp : ∀ W, Below w.heap.size w W → Calls Tryz.prog 9 #[.string s, .agg #[.bool m.c, .bool m.f]] W (ParseErr W c a)) :
    Calls Tryz.prog 3 #[.string s, .agg #[.bool m.c, .bool m.f]] w fun e w' => e = .returned (.bool true) ∧ Below w.heap.size w w' := by
  have BX : Hid (Below w.heap.size w (boxM9 w m)) := (Below.refl _ _).alloc (Nat.le_refl _) _
  have HE := hide (examples9_c (hG.kept BX.out))
  have HP := hide hp
  have k0 : Hid ((boxM9 w m).cell? ⟨w.heap.size, 0, none⟩ = some (.bool m.c) ∧ (boxM9 w m).cell? ⟨w.heap.size, 1, none⟩ = some (.bool m.f) ∧ w.heap.size < (boxM9 w m).heap.size) := ⟨cell_row (alloc_new w _) (i := 0) rfl, cell_row (alloc_new w _) (i := 1) rfl, lt_of_heap (alloc_new w _)⟩
  have n0 : ((c : Int) != 0) = true := by simp; omega
  have n1 : ¬ (c : Int) = 0 := by omega
  have n2 : (0 : Int) ≤ (a : Int) := by omega
  have n3 : (a : Int) ≤ (s.size : Int) := by omega
  clear hG hp
  go_enter Tryz.func3, Tryz.ntmps3
  go_wp2_with first
    | (go_at_call 8; (with_reducible refine (HE.out).mono ?_); rintro e w5 ⟨rfl, h1⟩; have X5 : Hid (Below w.heap.size w w5) := chain BX.out h1 (Nat.le_refl _); have c0 := (h1.cell (p := ⟨w.heap.size, 0, none⟩) k0.out.2.2).trans k0.out.1; have c1 := (h1.cell (p := ⟨w.heap.size, 1, none⟩) k0.out.2.2).trans k0.out.2.1; have l5 : w.heap.size < w5.heap.size := Nat.lt_of_lt_of_le k0.out.2.2 h1.size; clear h1)
    | (go_at_call 9; (with_reducible refine (HP.out _ X5.out).mono ?_); rintro e w6 ⟨g6, h1, rfl, h2, h3⟩; have X6 : Hid (Below w.heap.size w (w6.alloc nodeZ)) := (chain X5.out h3 (Nat.le_refl _)).alloc (Nat.le_trans X5.out.size h3.size) _; have G6 : Hid (BadAt (w6.alloc nodeZ) g6 c a) := (((Below.refl _ _).alloc (Nat.le_refl _) _).block _ (lt_of_heap h2)).trans h2; have N6 := alloc_new w6 nodeZ; have d0 := cell_row N6 (i := 0) rfl; have d5 := cell_row N6 (i := 5) rfl; have l6 := lt_of_heap N6; have HN6 := hide N6; clear h1 h2 h3 N6)
    | (go_at_call 10; (with_reducible refine (told_bad9 G6.out).mono ?_); rintro e w7 ⟨rfl, h1⟩; have X7 := hide (chain X6.out h1 (Nat.le_refl _)); have e0 := (h1.cell (p := ⟨w6.heap.size, 0, none⟩) l6).trans d0; have e5 := (h1.cell (p := ⟨w6.heap.size, 5, none⟩) l6).trans d5; have l7 : w6.heap.size < w7.heap.size := Nat.lt_of_lt_of_le l6 h1.size; clear h1)
  go_ret
  exact ⟨by simp, X7.out⟩
set_option maxRecDepth 100000 in
set_option maxHeartbeats 4000000 in
theorem sound_ok {w : World} (hG : Glb w) (s : ByteArray) (m : Md) {x : Ps} (hr : ∀ t, er t = te x → rightM m.c m.f 0 0 (pp [] t) = 0) (hp : ∀ W, Below w.heap.size w W → Calls Tryz.prog 9 #[.string s, .agg #[.bool m.c, .bool m.f]] W (ParseOk W x)) :
    Calls Tryz.prog 3 #[.string s, .agg #[.bool m.c, .bool m.f]] w fun e w' => e = .returned (.bool true) ∧ Below w.heap.size w w' := by
  have BX : Hid (Below w.heap.size w (boxM9 w m)) := (Below.refl _ _).alloc (Nat.le_refl _) _
  have HE := hide (examples9_c (hG.kept BX.out))
  have HP := hide hp
  have HR := hide hr
  have k0 : Hid ((boxM9 w m).cell? ⟨w.heap.size, 0, none⟩ = some (.bool m.c) ∧ (boxM9 w m).cell? ⟨w.heap.size, 1, none⟩ = some (.bool m.f) ∧ w.heap.size < (boxM9 w m).heap.size) := ⟨cell_row (alloc_new w _) (i := 0) rfl, cell_row (alloc_new w _) (i := 1) rfl, lt_of_heap (alloc_new w _)⟩
  clear hG hp hr
  go_enter Tryz.func3, Tryz.ntmps3
  go_wp2_with first
    | (go_at_call 8; (with_reducible refine (HE.out).mono ?_); rintro e w5 ⟨rfl, h1⟩; have X5 : Hid (Below w.heap.size w w5) := chain BX.out h1 (Nat.le_refl _); have c0 := (h1.cell (p := ⟨w.heap.size, 0, none⟩) k0.out.2.2).trans k0.out.1; have c1 := (h1.cell (p := ⟨w.heap.size, 1, none⟩) k0.out.2.2).trans k0.out.2.1; have l5 : w.heap.size < w5.heap.size := Nat.lt_of_lt_of_le k0.out.2.2 h1.size; clear h1)
    | (go_at_call 9; (with_reducible refine (HP.out _ X5.out).mono ?_); rintro e w6 ⟨t6, rfl, h1, h2, h3, h4⟩; have b6 := ((Below.refl w6.heap.size w6).alloc (Nat.le_refl _) (.cells #[.int .i64 t6.f.k, .int .i64 t6.f.n, .int .i64 t6.f.mn, .int .i64 t6.f.mx, .slice t6.f.rq t6.f.rs.length t6.f.rc, .slice t6.f.kq t6.f.kl t6.f.kc] 28)); have X6 : Hid (Below w.heap.size w (w6.alloc (.cells #[.int .i64 t6.f.k, .int .i64 t6.f.n, .int .i64 t6.f.mn, .int .i64 t6.f.mx, .slice t6.f.rq t6.f.rs.length t6.f.rc, .slice t6.f.kq t6.f.kl t6.f.kc] 28))) := (chain X5.out h4 (Nat.le_refl _)).alloc (Nat.le_trans X5.out.size h4.size) _; have T6 := hide (h1.kept b6); have E6 := hide h2; have N6 : BoxN (w6.alloc (.cells #[.int .i64 t6.f.k, .int .i64 t6.f.n, .int .i64 t6.f.mn, .int .i64 t6.f.mx, .slice t6.f.rq t6.f.rs.length t6.f.rc, .slice t6.f.kq t6.f.kl t6.f.kc] 28)) w6.heap.size t6.f := alloc_new w6 _; have HN6 := hide N6; have l6 := lt_of_heap N6; have f0 := ((h4.trans (b6.mono h4.size)).cell (p := ⟨w.heap.size, 0, none⟩) l5).trans c0; have f1 := ((h4.trans (b6.mono h4.size)).cell (p := ⟨w.heap.size, 1, none⟩) l5).trans c1; have lw6 : w.heap.size < (w6.alloc (.cells #[.int .i64 t6.f.k, .int .i64 t6.f.n, .int .i64 t6.f.mn, .int .i64 t6.f.mx, .slice t6.f.rq t6.f.rs.length t6.f.rc, .slice t6.f.kq t6.f.kl t6.f.kc] 28)).heap.size := Nat.lt_of_lt_of_le l5 (Nat.le_trans h4.size b6.size); clear h1 h2 h3 h4 N6 b6)
    | (go_at_call 10; (with_reducible refine (told_nil9 _).mono ?_); rintro e w7 ⟨rfl, h1⟩; have X7 := hide (chain X6.out h1 (Nat.le_refl _)); have T7 := hide (T6.out.kept h1); have N7 : BoxN w7 w6.heap.size t6.f := (h1.block _ l6).trans HN6.out; obtain ⟨n0, n1, n2, n3, n4, n5⟩ := N7.six; simp only [Nat.zero_add] at n1 n2 n3 n4 n5; have l7 : w6.heap.size < w7.heap.size := Nat.lt_of_lt_of_le l6 h1.size; have g0 := (h1.cell (p := ⟨w.heap.size, 0, none⟩) lw6).trans f0; have g1 := (h1.cell (p := ⟨w.heap.size, 1, none⟩) lw6).trans f1; have lw7 := Nat.lt_of_lt_of_le lw6 h1.size; have RC0 := right8_c (w := w7) m.c m.f T7.out; rw [HR.out t6 E6.out] at RC0; have RC := hide RC0; clear h1 N7 RC0)
    | (go_at_call 11; (with_reducible refine (RC.out).mono ?_); rintro e w8 ⟨rfl, h1⟩; have X8 := hide (chain X7.out h1 (Nat.le_refl _)); clear h1)
  go_ret
  exact ⟨by simp, X8.out⟩
theorem calls_post {P : Program} {f : FuncId} {args : Array Value} {w : World} {Q : Ending → World → Prop} (h : Calls P f args w Q) : ∃ e w', Q e w' := by
  obtain ⟨e, w', fr, hq, -⟩ := h []
  exact ⟨e, w', hq⟩
/-- What a pattern's tokens hold is as a right tree wants it. -/
theorem lex_ok {w : World} (hG : Glb w) {s : ByteArray} {m : Md} {T : List Tp} (hl : lexM m s = .ok T) : ∀ g, ∀ z ∈ sgns g T, sgOK m.c m.f z := by
  have LC := lex_c hG s m
  rw [hl] at LC
  obtain ⟨e, w', -, v, D, -, h3, h4⟩ := calls_post LC
  have h5 := toks_ok hl h4 (fun d hd => (h3.each d hd).2)
  intro g
  rw [← h4]
  exact sg_ok D g (fun d hd => ⟨(h3.each d hd).2, h5.2.2.1 d hd⟩)
theorem law_sound9 {w : World} (hG : Glb w) (s : ByteArray) (m : Md) :
    Calls Tryz.prog 3 #[.string s, .agg #[.bool m.c, .bool m.f]] w fun e w' => e = .returned (.bool true) ∧ Below w.heap.size w w' := by
  have hends := lexM_ends m s
  cases hl : lexM m s with
  | error y =>
    obtain ⟨c, a⟩ := y
    rw [hl] at hends
    obtain ⟨h1, h2⟩ := hends
    exact sound_err hG s m (c := c) (a := a) (by omega) h2 (fun W hW => parse_lex (hG.kept hW) s m hl)
  | ok T =>
    rw [hl] at hends
    have hst : Stands s T s.size := hends
    cases hh : heldM T with
    | some y =>
      obtain ⟨c, a⟩ := y
      have := held_at hst hh
      exact sound_err hG s m (c := c) (a := a) (by omega) this.2.2 (fun W hW => parse_held (hG.kept hW) s m hl hh)
    | none =>
      obtain ⟨x, hw, hx⟩ := tree_of hl hh
      have PT : ∀ W, Below w.heap.size w W → Calls Tryz.prog 9 #[.string s, .agg #[.bool m.c, .bool m.f]] W (ParseIs W x) := fun W hW => parse_tree (hG.kept hW) s m hl hh hw hx
      unfold ParseIs at PT
      by_cases hd : 40 < x.dp
      · simp only [if_pos hd] at PT
        exact sound_err hG s m (c := 43) (a := 0) (by omega) (by omega) PT
      · simp only [if_neg hd] at PT
        by_cases hn : 2000 < x.sz
        · simp only [if_pos hn] at PT
          exact sound_err hG s m (c := 42) (a := 0) (by omega) (by omega) PT
        · simp only [if_neg hn] at PT
          refine sound_ok hG s m (x := x) (fun t ht => ?_) PT
          have hk := held_hk hh
          rw [← hx] at hk
          refine ps_right ht hw ?_ hk (by omega) (by omega)
          rw [hx]
          exact lex_ok hG hl 0
end Go.Proofs.YtpfdapnfkghgkaaGreatDoor
