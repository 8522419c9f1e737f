/-
  Parts of the proof.
-/
import Derived.Test.YtaikcnoiaaiopaaDoorPlaysProofB32
import Derived.Test.YtaikcnoiaaiopaaDoorPlaysProofB31
set_option linter.unusedSimpArgs false
namespace Go.Proofs.YtaikcnoiaaiopaaDoor
open Go Go.RowKit Go.Shelf
attribute [local go_sem] Oper.semAt_some ext_cell
def prC (l : List (Nat × Nat)) : List Value := l.flatMap fun x => [.int .i64 (x.1 : Int), .int .i64 (x.2 : Int)]
theorem prC_snoc (l : List (Nat × Nat)) (x : Nat × Nat) : prC (l ++ [x]) = prC l ++ [.int .i64 (x.1 : Int), .int .i64 (x.2 : Int)] := by simp [prC]
theorem und_pr : Tryd.prog.underlying 48 = some (.slice 52) := by kernel_rfl
theorem size_pr : (Tryd.prog.info? 52).map (fun i => (i.zero, i.size, i.bytes)) = some (some (.agg #[.int .i64 0, .int .i64 0]), 2, 16) := by kernel_rfl
theorem own_typ {w : World} {base k : Nat} {e : TypeId} {size n : Nat} {v : Value} {xs : List Value} (h : w.ownsRow base e size v n xs) (hk : v.ownBlock = some k) : base ≤ k ∧ ∃ cur, w.heap[k]? = some (.cells cur e (0, 0)) := by
  rcases h.2 with ⟨rfl, _⟩ | ⟨g, cap, cur, rfl, q1, q2, _⟩
  · cases hk
  · injection hk with hk
    subst hk
    exact ⟨q1, cur, q2⟩
theorem cells_two (W : World) (x y : Value) (t : TypeId) : ∀ j u, [x, y][j]? = some u → (W.alloc (.cells #[x, y] t)).cell? ((⟨W.heap.size, 0, none⟩ : Addr).add j) = some u := by
  intro j u hj
  have h5 := alloc_new W (.cells #[x, y] t)
  rw [Addr.add_lit]
  rcases j with _ | _ | j
  · simp at hj; subst hj; exact cell_row h5 (i := 0) rfl
  · simp at hj; subst hj; exact cell_row h5 (i := 1) rfl
  · simp at hj
set_option maxRecDepth 100000 in
set_option maxHeartbeats 4000000 in
theorem pairs_in (n : Nat) (hn : 8 ≤ n) {base b0 : Nat} {w0 V : World} {f : Bool} {ws : List ByteArray} {line : ByteArray} {T : Pt} {D : List Nat → Prop} {R : List Nat → Nat → Prop} {K : List Nat → Kn} {hb : Nat} {lg : Int} (hk : Kp base b0 w0 f T D R K hb lg V) (hH : Hu base V f ws T D R K lg) (hsz : line.size ≤ 140737488355328) (hfew : (allM f ws line line.size).length ≤ 200000000) :
    CallsIn Fence.wide n Tryd.prog 21 #[.pointer (some ⟨hb, 0, none⟩), .string line] V fun e V' => ∃ v, e = .returned v ∧ V'.ownsRow V.heap.size 52 2 v (allM f ws line line.size).length (prC (allM f ws line line.size)) ∧ Kp base b0 w0 f T D R K hb lg V' ∧ Fr (fun k => k = hb ∨ V.heap.size ≤ k) V V' := by
  have h1 : 1 ≤ n := by omega
  have h2 : 1 ≤ n - 1 - 1 := by omega
  have hfn : ∀ f, Fence.wide.fn f := fun _ => trivial
  have hmx : Tryd.prog.follows .mixedOrders = true := by kernel_rfl
  have HK := hide hk
  have HU5 := hide hH
  clear hk hH
  refine callsIn_of_wp_marks Tryd.func21 rfl trivial ?_ rfl
  simp only [Tryd.ntmps21, List.size_toArray, List.length_cons, List.length_nil, Nat.reduceAdd, Nat.reduceSub, Array.replicate_succ, Array.replicate_zero, List.push_toArray, List.append_toArray, List.nil_append, List.cons_append]
  gi_upto_region 2 with fail
  have XN := hide (alloc_new V (.cells #[.slice none 0 0] 48))
  have KP9 := hide (HK.out.below (show Below V.heap.size V (V.alloc (.cells #[.slice none 0 0] 48)) from (Below.refl _ _).alloc (Nat.le_refl _) _))
  have BV9 := hide (show Below V.heap.size V (V.alloc (.cells #[.slice none 0 0] 48)) from (Below.refl _ _).alloc (Nat.le_refl _) _)
  have S9 := hide (show V.heap.size < (V.alloc (.cells #[.slice none 0 0] 48)).heap.size ∧ b0 ≤ V.heap.size by have := HK.out.bl.size; have := HK.out.lw; exact ⟨by simp, by omega⟩)
  generalize (V.alloc (.cells #[.slice none 0 0] 48)) = w9 at XN KP9 S9 BV9 ⊢
  have AC := hide (fun W => all_c hb line W)
  obtain ⟨N, hN⟩ : ∃ N, N = V.heap.size := ⟨_, rfl⟩
  rw [← hN] at XN S9 ⊢
  have HNN := hide hN
  clear hN
  gi_wp2_with (gi_at_call 16; refine (callsIn_wide.2 (AC.out _)).mono ?_; rintro e w5 ⟨rfl, h5⟩; subst w5)
  obtain ⟨UD, hUD⟩ : ∃ UD, UD = (w9.alloc (.cells #[.pointer (some ⟨hb, 0, none⟩)] 25)).alloc (.cells #[.string line] 9) := ⟨_, rfl⟩
  rw [← hUD]
  have BD : Hid (Below w9.heap.size w9 UD) := hide (by rw [hUD]; exact ((Below.refl _ _).alloc (Nat.le_refl _) _).alloc (by simp only [World.size_alloc]; omega) _)
  have R1 : Hid (UD.heap[w9.heap.size]? = some (.cells #[.pointer (some ⟨hb, 0, none⟩)] 25 (0, 0))) := hide (by
    rw [hUD]; exact (Below.heap_alloc _ _ _ (by simp only [World.size_alloc]; omega)).trans (alloc_new w9 _))
  have R2 : Hid (UD.heap[w9.heap.size + 1]? = some (.cells #[.string line] 9 (0, 0))) := hide (by
    rw [hUD]
    have := alloc_new (w9.alloc (.cells #[.pointer (some ⟨hb, 0, none⟩)] 25)) (.cells #[.string line] 9)
    rw [World.size_alloc] at this
    exact this)
  clear hUD AC
  have KD := hide (KP9.out.below BD.out)
  have XD := hide ((BD.out.block _ S9.out.1).trans XN.out)
  have SD := hide (show b0 ≤ UD.heap.size ∧ N ≤ UD.heap.size from by have := BD.out.size; have := S9.out; exact ⟨by omega, by omega⟩)
  have FV : Hid (Fr (fun k => k = hb ∨ N ≤ k) V UD) := hide (Fr.of_below (chain BV9.out BD.out (Nat.le_refl _)))
  have TL := all_tells (n - 1) (by omega) (n0 := w9.heap.size) (line := line) (HU5.out.at KD.out.hi.1) R1.out R2.out (by have := S9.out.1; omega) (Nat.le_refl _) (Nat.le_succ _) hsz
  clear R1 R2 KP9 XN
  refine range_toldE h1 (gf := 30) (lb := #[.pointer (some ⟨w9.heap.size, 0, none⟩), .pointer (some ⟨w9.heap.size + 1, 0, none⟩)]) rfl (enters_of Tryd.func30 (by kernel_rfl) rfl) rfl TL
    (fun pre Z => Kp base b0 w0 f T D R K hb lg Z ∧ (∃ v, Z.heap[N]? = some (.cells #[v] 48 (0, 0)) ∧ Z.ownsRow N 52 2 v (tl pre).length (prC (tl pre))) ∧ tl pre <+: allM f ws line line.size ∧ Fr (fun k => k = hb ∨ N ≤ k) V Z) (fun _ _ _ => False)
    (fun pre A A' row hi hg hr => ?_) (fun _ _ _ _ _ hi => hi.elim) (fun pre V hi => ⟨hi.1.hi, hi.1.tab⟩) (fun pre A B hi hf => ?_) (fun _ _ _ _ hi => hi.elim)
    (fun V hv => by obtain ⟨⟨_, st, hm⟩, _⟩ := hv; exact ⟨T, f, lg, st, hm⟩) (fun pre d A B hi hu => ?_) ⟨KD.out, ⟨_, XD.out, by simpa [tl, prC] using World.ownsRow_nil UD N 52 2⟩, by simp [tl], FV.out⟩
    (fun x => { tmps := #[.pointer (some ⟨hb, 0, none⟩), .string line, undef, undef, .slice none 0 0, .pointer (some ⟨N, 0, none⟩), .int .i64 (x.1 : Int), .int .i64 (x.2 : Int), .pointer (some ⟨hb, 0, none⟩), .string line, .func (.func 30) #[] #[.pointer (some ⟨w9.heap.size, 0, none⟩), .pointer (some ⟨w9.heap.size + 1, 0, none⟩)], .int .i64 (x.1 : Int), .int .i64 (x.2 : Int), undef, undef, undef, undef, undef, undef, undef], defers := [] }) ?_ ?_ ?_ ?_
  · obtain ⟨k1, ⟨v, k2, k3⟩, k4⟩ := hi
    have hrN : ∀ r, row = some r → N ≤ r := fun r e => Nat.le_trans SD.out.2 (hr r e).1
    refine ⟨k1.grown SD.out.1 hg hr, ⟨v, cells_kept hg hr k2, k3.kept hg ?_⟩, k4.1, k4.2.trans ⟨hg.os, hg.tape, hg.output, hg.size, fun k hk hs => hg.block k hk (fun e => hs (.inr (hrN k e.symm)))⟩⟩
    rcases h9 : v.ownBlock with _ | g
    · exact .inl rfl
    · refine .inr (fun e => ?_)
      obtain ⟨_, cur, q⟩ := own_typ k3 h9
      obtain ⟨_, o, q1, q2⟩ := hr g e.symm
      rw [q] at q1; injection q1 with q1; subst q1; cases q2
  · obtain ⟨k1, ⟨v, k2, k3⟩, k4⟩ := hi
    refine ⟨k1.ft SD.out.1 hf, ⟨v, hf.keep k2 (fun cur t e => by injection e with _ e _; subst e; unfold tyP; decide), ownsRow_fr k3 hf.fr (fun g hg ⟨_, c2, t2, q1, q2⟩ => ?_)⟩, k4.1, k4.2.trans (hf.fr.mono (fun k q => .inr (Nat.le_trans SD.out.2 q.1)))⟩
    obtain ⟨_, cur, q⟩ := own_typ k3 hg
    rw [q] at q1; injection q1 with q1; injection q1 with _ q1 _; subst q1
    revert q2; unfold tyP; decide
  · obtain ⟨k1, ⟨v, k2, k3⟩, k4⟩ := hi
    obtain ⟨⟨_, st, hm⟩, _⟩ := And.intro k1.hi k1.tab
    rw [tl_inr]
    refine ⟨k1.bump hu, ⟨v, (hu.fr.block _ (lt_of_heap k2) (ne_type k2 hm (by decide))).trans k2, ownsRow_fr k3 hu.fr (fun g hg e => ?_)⟩, k4.1, k4.2.trans (hu.fr.mono (fun k q => .inl q))⟩
    obtain ⟨_, cur, q⟩ := own_typ k3 hg
    subst e
    rw [hm] at q; injection q with q; injection q with _ q _
    exact absurd q (by decide)
  · intro l' x Z K' hK
    simp only [encP]
    gi_wp2
    exact hK
  · rintro l' pre ⟨p, k⟩ Z ⟨k1, ⟨v, k2, k3⟩, k4⟩ hok
    dsimp only
    unfold OkA at hok
    obtain ⟨hok, _⟩ := hok
    have HO := hide hok
    have HV4 := hide k4.2
    have hl : (tl pre).length + 1 ≤ 200000000 := by
      have := hok.length_le
      rw [List.length_append] at this
      simp at this; omega
    obtain ⟨t0, hi, hz0, hz1, hz2⟩ := info_parts size_pr
    obtain ⟨q0, c0, rfl⟩ := ownsRow_shape k3
    have K1' := hide k1
    have K2' := hide k2
    have K3' := hide k3
    have d0 := cell_row k2 (i := 0) rfl
    have hN9 : N ≤ Z.heap.size := Nat.le_of_lt (lt_of_heap k2)
    have BA : Below Z.heap.size Z (Z.alloc (.cells #[.int .i64 (p : Int), .int .i64 (k : Int)] 52)) := (Below.refl _ _).alloc (Nat.le_refl _) _
    have Y7 : Hid ((Z.alloc (.cells #[.int .i64 (p : Int), .int .i64 (k : Int)] 52)).ownsRow N 52 2 (.slice q0 (tl pre).length c0) (tl pre).length (prC (tl pre))) := hide (World.ownsRow.alloc k3 _)
    have HNEW := hide (cells_two Z (.int .i64 (p : Int)) (.int .i64 (k : Int)) 52)
    have HN8 := hide (show N ≤ (Z.alloc (.cells #[.int .i64 (p : Int), .int .i64 (k : Int)] 52)).heap.size from Nat.le_trans hN9 BA.size)
    have BAH := hide BA
    clear k1 k2 k3 k4 hok BA
    gi_wp2_with (gi_at_builtin; refine wpListIn_append_own_at _ rfl _ _ 48 rfl N 52 t0 (.agg #[.int .i64 0, .int .i64 0]) 2 16 und_pr hi hz0 hz1 hz2 rfl (by decide) (.slice q0 (tl pre).length c0) (tl pre).length (prC (tl pre)) rfl Y7.out ⟨Z.heap.size, 0, none⟩ 1 1 [.int .i64 (p : Int), .int .i64 (k : Int)] rfl rfl HNEW.out (by simp [Value.oneCell']) (by unfold maxLen; omega) (by omega) HN8.out ?_; intro v' w6 hown' hgrow _ _; obtain ⟨q6, c6, rfl⟩ := ownsRow_shape hown'; have O6 := hide hown'; have G6 := hide hgrow; have K9 : w6.heap[N]? = some (.cells #[.slice q0 (tl pre).length c0] 48 (0, 0)) := (hgrow.block N (Nat.lt_of_lt_of_le (lt_of_heap K2'.out) BAH.out.size) (fun e => by obtain ⟨_, cur, q⟩ := own_typ Y7.out e.symm; rw [BAH.out.block _ (lt_of_heap K2'.out), K2'.out] at q; injection q with q; injection q with _ q _; exact absurd q (by decide))).trans ((BAH.out.block _ (lt_of_heap K2'.out)).trans K2'.out); have KK9 := hide K9; have k9 := cell_row K9 (i := 0) rfl; have f9 := frz_row K9 0; clear hown' hgrow K9)
    have S2 : Fr (fun i => (Value.slice q0 (tl pre).length c0).ownBlock = some i ∨ i = N) Z (w6.setCell ⟨N, 0, none⟩ (.slice q6 ((tl pre).length + 1) c6)) :=
      ((Fr.of_below BAH.out).trans (⟨G6.out.os, G6.out.tape, G6.out.output, G6.out.size, fun k hk hs => G6.out.block k hk (fun e => hs (.inl e.symm))⟩)).trans ((Fr.refl _ w6).setCell (p := ⟨N, 0, none⟩) (.inr rfl) _)
    have TY : ∀ i, ((Value.slice q0 (tl pre).length c0).ownBlock = some i ∨ i = N) → ∃ cur t, Z.heap[i]? = some (.cells cur t (0, 0)) ∧ N ≤ i ∧ (t = 52 ∨ t = 48) := fun i hi => by
      rcases hi with hi | rfl
      · obtain ⟨q1, cur, q2⟩ := own_typ K3'.out hi
        exact ⟨cur, _, q2, q1, .inl rfl⟩
      · exact ⟨_, _, K2'.out, Nat.le_refl _, .inr rfl⟩
    refine ⟨⟨S2.size, fun i o _ hc ho => (S2.block i (Array.getElem?_eq_some_iff.1 hc).1 (fun q => by
      obtain ⟨cur, t, q1, _⟩ := TY i q
      rw [q1] at hc; injection hc with hc; subst hc; cases ho)).trans hc⟩, S2.tkeep (fun i cur t fr q hc hN => ?_), K1'.out.fr S2 (fun i q => by obtain ⟨_, _, _, q2, _⟩ := TY i q; exact Nat.le_trans S9.out.2 q2) (fun i cur t q hc => ?_), ⟨.slice q6 ((tl pre).length + 1) c6, (heap_set_in KK9.out 0 _).trans (by simp), ?_⟩, by rw [tl_inl]; exact HO.out, HV4.out.trans (S2.mono (fun i q => .inr (by obtain ⟨_, _, _, q2, _⟩ := TY i q; exact q2)))⟩
    · obtain ⟨cur', t', q1, _, q2⟩ := TY i q
      rw [q1] at hc; injection hc with hc; injection hc with _ hc _; subst hc
      rcases hN with ⟨_, q⟩ | q
      · rcases q2 with e | e <;> subst e <;> rcases q with q | q | q | q | q | q | q <;> exact absurd q (by decide)
      · rcases q2 with e | e <;> subst e <;> exact absurd q (by decide)
    · obtain ⟨cur', t', q1, _, q2⟩ := TY i q
      rw [q1] at hc; injection hc with hc; injection hc with _ hc _; subst hc
      rcases q2 with e | e <;> subst e <;> refine ⟨?_, ?_, ?_⟩ <;> decide
    · rw [tl_inl, prC_snoc, List.length_append]
      refine ownsRow_fr O6.out ((Fr.refl (fun i => i = N) w6).setCell (p := ⟨N, 0, none⟩) rfl _) (fun g hg e => ?_)
      obtain ⟨_, cur, q⟩ := own_typ O6.out hg
      subst e
      rw [KK9.out] at q; injection q with q; injection q with _ q _
      exact absurd q (by decide)
  · rintro D' xs Z hD' ⟨hS1, _⟩ ⟨k1, ⟨v, k2, k3⟩, k4⟩ hK
    have c0 := cell_row k2 (i := 0) rfl
    have HD := hide hK
    rw [hS1] at k3
    have FIN := hide (show (Z.putObj D' (.deferred none)).ownsRow N 52 2 v (allM f ws line line.size).length (prC (allM f ws line line.size)) ∧ Kp base b0 w0 f T D R K hb lg (Z.putObj D' (.deferred none)) ∧ Fr (fun k => k = hb ∨ N ≤ k) V (Z.putObj D' (.deferred none)) from by
      refine ⟨k3.kept (grownBy_putObj' Z D' (.deferred none)) ?_, k1.grown SD.out.1 (grownBy_putObj' Z D' (.deferred none)) (fun r e => by cases e; exact ⟨hD', _, hK, rfl⟩), k4.2.trans (by
        have hg := grownBy_putObj' Z D' (.deferred none)
        exact ⟨hg.os, hg.tape, hg.output, hg.size, fun k hk hs => hg.block k hk (fun e => hs (.inr (by injection e with e; subst e; exact Nat.le_trans SD.out.2 hD')))⟩)⟩
      rcases h9 : v.ownBlock with _ | g
      · exact .inl rfl
      · refine .inr (fun e => ?_)
        obtain ⟨_, cur, q⟩ := own_typ k3 h9
        injection e with e
        subst e
        rw [hK] at q; cases q)
    obtain ⟨q0, c9, rfl⟩ := ownsRow_shape k3
    clear k1 k2 k3 k4 hK hD' TL
    gi_wp2
    refine ⟨by simp, .inl ⟨_, _, rfl, run_takeDeferred HD.out, ?_⟩⟩
    refine ⟨.slice q0 (allM f ws line line.size).length c9, by simp [results, Tryd.results21, go_sem], _, rfl, ?_⟩
    have FF := FIN.out
    rw [HNN.out] at FF
    exact FF
  · rintro D' c pre Z hD' hSp hF hK
    exact hF.elim
end Go.Proofs.YtaikcnoiaaiopaaDoor
namespace Go.Proofs.YtaikcnoiaaiopaaDoor
open Go Go.RowKit Go.Shelf
section
variable {f : Bool} {ws : List ByteArray} {line : ByteArray}
theorem allM_few (n : Nat) : (allM f ws line n).length ≤ n * ws.length := by
  induction n with
  | zero => simp [allM]
  | succ n ih =>
    rw [allM_next, List.length_append, List.length_map, Nat.succ_mul]
    have h2 : (allAt f ws line n).length ≤ ws.length := by
      unfold allAt
      refine Nat.le_trans (List.length_filter_le _ _) ?_
      rw [List.length_range]
      exact Nat.le_refl _
    omega
def lkd (l : List (Nat × Nat)) (m : Int) : Option (Nat × Nat) := if m < 0 then none else l.find? fun x => decide (m ≤ (x.1 : Int))
theorem lkd_snoc_none {l : List (Nat × Nat)} {m : Int} (h : lkd l m = none) (x : Nat × Nat) : lkd (l ++ [x]) m = if 0 ≤ m ∧ m ≤ (x.1 : Int) then some x else none := by
  unfold lkd at h ⊢
  by_cases hm : m < 0
  · rw [if_pos hm, if_neg (by omega)]
  · rw [if_neg hm] at h ⊢
    rw [List.find?_append, h]
    by_cases hx : m ≤ (x.1 : Int)
    · simp [hx]; omega
    · simp [hx]
theorem lkd_mono {l r : List (Nat × Nat)} {m : Int} {x : Nat × Nat} (h : lkd l m = some x) : lkd (l ++ r) m = some x := by
  unfold lkd at h ⊢
  by_cases hm : m < 0
  · rw [if_pos hm] at h; cases h
  · rw [if_neg hm] at h ⊢
    rw [List.find?_append, h]; rfl
theorem nxA_any (hok : mayB ws = true) {m p k : Int} {b : Bool} (h : NxA f ws line m p k b) :
    match lkd (allM f ws line line.size) m with
    | none => b = false ∧ p = 0 ∧ k = 0
    | some x => b = true ∧ p = (x.1 : Int) ∧ k = (x.2 : Int) := by
  by_cases h0 : m < 0
  · unfold lkd
    rw [if_pos h0]
    rcases h with ⟨_, rfl, rfl, rfl⟩ | ⟨m', rfl, _⟩
    · exact ⟨rfl, rfl, rfl⟩
    · omega
  · obtain ⟨m', rfl⟩ : ∃ m' : Nat, m = (m' : Int) := ⟨m.toNat, by omega⟩
    have e : lkd (allM f ws line line.size) (m' : Int) = (allM f ws line line.size).find? (fun x => decide (m' ≤ x.1)) := by
      unfold lkd
      rw [if_neg h0]
      congr 1
      funext x
      exact decide_eq_decide.2 (by omega)
    by_cases h1 : m' ≤ line.size
    · rw [e]
      exact nxA_first hok h1 h
    · have e2 : (allM f ws line line.size).find? (fun x => decide (m' ≤ x.1)) = none := List.find?_eq_none.2 (fun x hx => by
        have := (allM_mem (p := x.1) (k := x.2)).1 hx
        simp; omega)
      rw [e, e2]
      rcases h with ⟨_, rfl, rfl, rfl⟩ | ⟨m2, hm2, h3, _⟩
      · exact ⟨rfl, rfl, rfl⟩
      · omega
end
end Go.Proofs.YtaikcnoiaaiopaaDoor
