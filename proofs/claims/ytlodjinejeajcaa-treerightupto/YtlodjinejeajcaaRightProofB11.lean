/-
  TreeRight: Right of any tree; what was handed in stays. A tree, as it comes in. A tree, as it comes in, by its bulk.
-/
import Derived.Test.YtlodjinejeajcaaRightProofB8
import Derived.Test.YtlodjinejeajcaaRightProofB10
import Derived.Test.YtlodjinejeajcaaC17
import Derived.Test.YtlodjinejeajcaaC1
import Derived.Test.YtlodjinejeajcaaC0
import Derived.Deep.Slices
import Derived.Deep.SlicePairs
import Derived.ChangeSame
import Derived.SizedLaws
namespace Go.Proofs.Ytlodjinejeajcaa
open Go Go.RowKit

/-- What is around a node, and what it is. -/
def wsg (x : El) : List (Sg × Nat) × Sg := (x.1.map fun z => (sig z.1, z.2), sig x.2)
theorem wsg_of (a : Tr) : ∀ (b : Tr) (p q : Way), (p.map fun z => (sig z.1, z.2)) = (q.map fun z => (sig z.1, z.2)) → er a = er b → (pp p a).map wsg = (pp q b).map wsg := by
  refine Tr.ind (P := fun a => ∀ (b : Tr) (p q : Way), (p.map fun z => (sig z.1, z.2)) = (q.map fun z => (sig z.1, z.2)) → er a = er b → (pp p a).map wsg = (pp q b).map wsg) (fun a ih b p q hp h => ?_) a
  have hs := sig_of h
  obtain ⟨-, -, -, -, -, h6⟩ := (er_iff a b).1 h
  have key : ∀ (ks js : List Tr) (i : Nat), (∀ u ∈ ks, u ∈ a.ks) → ks.map er = js.map er → (pps a p i ks).map wsg = (pps b q i js).map wsg := by
    intro ks
    induction ks with
    | nil =>
      intro js i _ hl
      cases js with
      | nil => rw [pps_nil, pps_nil]
      | cons v js => cases hl
    | cons u ks ihk =>
      intro js i hm hl
      cases js with
      | nil => cases hl
      | cons v js =>
        rw [List.map_cons, List.map_cons] at hl
        injection hl with h1 h2
        rw [pps_cons, pps_cons, List.map_append, List.map_append, ih u (hm u List.mem_cons_self) v ((a, i) :: p) ((b, i) :: q) (by rw [List.map_cons, List.map_cons, hp, hs]) h1, ihk js _ (fun z hz => hm z (List.mem_cons_of_mem _ hz)) h2]
  rw [pp_eq, pp_eq, List.map_cons, List.map_cons, key a.ks b.ks 0 (fun _ z => z) h6]
  congr 1
  unfold wsg
  rw [hp, hs]
theorem end_congr {n : Int} : ∀ {p q : Way}, (p.map fun z => (sig z.1, z.2)) = (q.map fun z => (sig z.1, z.2)) → endP p n = endP q n
  | [], [], _ => rfl
  | [], _ :: _, h => by cases h
  | _ :: _, [], h => by cases h
  | x :: p, y :: q, h => by
    rw [List.map_cons, List.map_cons] at h
    injection h with h1 h2
    have ih := end_congr (n := n) h2
    have hk : x.1.f.k = y.1.f.k := congrArg (fun z : Sg × Nat => z.1.1) h1
    have hn : x.1.f.n = y.1.f.n := congrArg (fun z : Sg × Nat => z.1.2.1) h1
    unfold endP at ih ⊢
    rw [List.any_cons, List.any_cons, ih, hk, hn]
theorem stand_congr {k : Int} {p q : Way} (h : (p.map fun z => (sig z.1, z.2)) = (q.map fun z => (sig z.1, z.2))) : standP p k = standP q k := by
  cases p with
  | nil =>
    cases q with
    | nil => rfl
    | cons y q => cases h
  | cons x p =>
    cases q with
    | nil => cases h
    | cons y q =>
      rw [List.map_cons, List.map_cons] at h
      injection h with h1 h2
      obtain ⟨a, i⟩ := x
      obtain ⟨b, j⟩ := y
      have hk : a.f.k = b.f.k := congrArg (fun z : Sg × Nat => z.1.1) h1
      have hl : a.ks.length = b.ks.length := congrArg (fun z : Sg × Nat => z.1.2.2.2.2.2) h1
      have hi : i = j := congrArg (fun z : Sg × Nat => z.2) h1
      unfold standP
      simp only
      rw [hk, hl, hi]
theorem look_congr {c f : Bool} {x y : El} {i g : Nat} (h : wsg x = wsg y) : lookM c f x.1 x.2 i g = lookM c f y.1 y.2 i g := by
  have hp : (x.1.map fun z => (sig z.1, z.2)) = (y.1.map fun z => (sig z.1, z.2)) := congrArg (fun z : List (Sg × Nat) × Sg => z.1) h
  have hs : sig x.2 = sig y.2 := congrArg (fun z : List (Sg × Nat) × Sg => z.2) h
  have hl : x.1.length = y.1.length := by have := congrArg List.length hp; rwa [List.length_map, List.length_map] at this
  have k1 : x.2.f.k = y.2.f.k := congrArg (fun z : Sg => z.1) hs
  have k2 : x.2.f.n = y.2.f.n := congrArg (fun z : Sg => z.2.1) hs
  have k3 : x.2.f.mn = y.2.f.mn := congrArg (fun z : Sg => z.2.2.1) hs
  have k4 : x.2.f.mx = y.2.f.mx := congrArg (fun z : Sg => z.2.2.2.1) hs
  have k5 : x.2.f.rs = y.2.f.rs := congrArg (fun z : Sg => z.2.2.2.2.1) hs
  have k6 : x.2.ks.length = y.2.ks.length := congrArg (fun z : Sg => z.2.2.2.2.2) hs
  have hf : fieldsM c f ((g : Int) + 1) x.2.f = fieldsM c f ((g : Int) + 1) y.2.f := by
    unfold fieldsM
    rw [k1, k2, k3, k4, k5]
  unfold lookM
  rw [stand_congr hp, end_congr hp, hf, hl, k1, k2, k6]
theorem right_congr {c f : Bool} : ∀ {l m : List El} (i g : Nat), l.map wsg = m.map wsg → rightM c f i g l = rightM c f i g m
  | [], [], _, _, _ => rfl
  | [], _ :: _, _, _, h => by cases h
  | _ :: _, [], _, _, h => by cases h
  | x :: l, y :: m, i, g, h => by
    rw [List.map_cons, List.map_cons] at h
    injection h with h1 h2
    have hk : x.2.f.k = y.2.f.k := congrArg (fun z : List (Sg × Nat) × Sg => z.2.1) h1
    simp only [rightM]
    rw [look_congr h1, hk, right_congr _ _ h2]
theorem er_right {c f : Bool} {a b : Tr} (h : er a = er b) : rightM c f 0 0 (pp [] a) = rightM c f 0 0 (pp [] b) := right_congr 0 0 (wsg_of a b [] [] rfl h)
set_option maxRecDepth 100000 in
set_option maxHeartbeats 8000000 in
theorem law_right {w : World} {n : Tr} {c f : Bool} (hn : TA w n) (hsm : ∀ x ∈ pp [] n, x.2.f.rs.length ≤ 1048580) :
    Calls Try.prog 7 #[.agg #[.int .i64 n.f.k, .int .i64 n.f.n, .int .i64 n.f.mn, .int .i64 n.f.mx, .slice n.f.rq n.f.rs.length n.f.rc, .slice n.f.kq n.f.kl n.f.kc], .agg #[.bool c, .bool f]] w fun e w' => e = .returned (.bool true) ∧ Below w.heap.size w w' := by
  have B0 : Hid (Below w.heap.size w ((w.alloc (.cells #[.int .i64 n.f.k, .int .i64 n.f.n, .int .i64 n.f.mn, .int .i64 n.f.mx, .slice n.f.rq n.f.rs.length n.f.rc, .slice n.f.kq n.f.kl n.f.kc] 25)).alloc (.cells #[.bool c, .bool f] 27))) := ((Below.refl _ _).alloc (Nat.le_refl _) _).alloc (by simp) _
  have N0 : Hid (BoxN ((w.alloc (.cells #[.int .i64 n.f.k, .int .i64 n.f.n, .int .i64 n.f.mn, .int .i64 n.f.mx, .slice n.f.rq n.f.rs.length n.f.rc, .slice n.f.kq n.f.kl n.f.kc] 25)).alloc (.cells #[.bool c, .bool f] 27)) w.heap.size n.f) := (Below.heap_alloc _ _ _ (by simp)).trans (alloc_new w _)
  have M0 : Hid (((w.alloc (.cells #[.int .i64 n.f.k, .int .i64 n.f.n, .int .i64 n.f.mn, .int .i64 n.f.mx, .slice n.f.rq n.f.rs.length n.f.rc, .slice n.f.kq n.f.kl n.f.kc] 25)).alloc (.cells #[.bool c, .bool f] 27)).heap[w.heap.size + 1]? = some (.cells #[.bool c, .bool f] 27 (0, 0))) := (by
    have := alloc_new (w.alloc (.cells #[.int .i64 n.f.k, .int .i64 n.f.n, .int .i64 n.f.mn, .int .i64 n.f.mx, .slice n.f.rq n.f.rs.length n.f.rc, .slice n.f.kq n.f.kl n.f.kc] 25)) (.cells #[.bool c, .bool f] 27)
    rwa [World.size_alloc] at this)
  have HN := hide hn
  have HSM := hide hsm
  clear hn hsm
  go_enter Try.func7, Try.ntmps7
  go_upto_region 1 with fail
  generalize ((w.alloc (.cells #[.int .i64 n.f.k, .int .i64 n.f.n, .int .i64 n.f.mn, .int .i64 n.f.mx, .slice n.f.rq n.f.rs.length n.f.rc, .slice n.f.kq n.f.kl n.f.kc] 25)).alloc (.cells #[.bool c, .bool f] 27)) = W0 at B0 N0 M0 ⊢
  generalize w.heap.size + 1 = bm at M0 ⊢
  obtain ⟨bn, hbn⟩ : ∃ bn, bn = w.heap.size := ⟨_, rfl⟩
  rw [← hbn] at N0 ⊢
  clear hbn
  go_upto_region 2 with (go_at_call 9; (with_reducible refine (examples8_c _).mono ?_); rintro e W1 ⟨rfl, a4⟩; have N1 := hide ((a4.block _ (lt_of_heap N0.out)).trans N0.out); have M1 := hide ((a4.block _ (lt_of_heap M0.out)).trans M0.out); have B1 := hide (chain B0.out a4 (Nat.le_refl _)); clear a4 N0 M0 B0)
  obtain ⟨c0, c1, c2, c3, c4, c5⟩ := (show BoxN W1 bn n.f from N1.out).six
  simp only [Nat.zero_add] at c1 c2 c3 c4 c5
  have LN := hide (lent8 (HN.out.kept B1.out))
  go_upto_region 3 with (go_at_call 20; (with_reducible refine (LN.out).mono ?_); rintro e w5 ⟨x, rfl, h51, h52⟩; have X5 := hide h51; have B5 := hide h52; clear h51 h52)
  have KK := chain B5.out ((Below.refl w5.heap.size w5).alloc (Nat.le_refl _) (.cells #[.int .i64 x.f.k, .int .i64 x.f.n, .int .i64 x.f.mn, .int .i64 x.f.mx, .slice x.f.rq x.f.rs.length x.f.rc, .slice x.f.kq x.f.kl x.f.kc] 25)) (Nat.le_refl _)
  have N2 := hide ((KK.block _ (lt_of_heap N1.out)).trans N1.out)
  have M2 := hide ((KK.block _ (lt_of_heap M1.out)).trans M1.out)
  have B2 := hide (chain B1.out KK (Nat.le_refl _))
  have XB2 := hide (alloc_new w5 (.cells #[.int .i64 x.f.k, .int .i64 x.f.n, .int .i64 x.f.mn, .int .i64 x.f.mx, .slice x.f.rq x.f.rs.length x.f.rc, .slice x.f.kq x.f.kl x.f.kc] 25))
  have LX2 := hide (X5.out.kept ((Below.refl w5.heap.size w5).alloc (Nat.le_refl _) (.cells #[.int .i64 x.f.k, .int .i64 x.f.n, .int .i64 x.f.mn, .int .i64 x.f.mx, .slice x.f.rq x.f.rs.length x.f.rc, .slice x.f.kq x.f.kl x.f.kc] 25)))
  clear KK c0 c1 c2 c3 c4 c5 LN N1 M1 B1 X5 B5
  generalize (w5.alloc (.cells #[.int .i64 x.f.k, .int .i64 x.f.n, .int .i64 x.f.mn, .int .i64 x.f.mx, .slice x.f.rq x.f.rs.length x.f.rc, .slice x.f.kq x.f.kl x.f.kc] 25)) = W2 at N2 M2 B2 XB2 LX2 ⊢
  generalize w5.heap.size = bx at XB2 ⊢
  obtain ⟨c0, c1, c2, c3, c4, c5⟩ := (show BoxN W2 bx x.f from XB2.out).six
  simp only [Nat.zero_add] at c1 c2 c3 c4 c5
  have m0 : W2.cell? ⟨bm, 0, none⟩ = some (.bool c) := cell_row M2.out (i := 0) rfl
  have m1 : W2.cell? ⟨bm, 1, none⟩ = some (.bool f) := cell_row M2.out (i := 1) rfl
  obtain ⟨R, hR⟩ : ∃ R, rightM c f 0 0 (pp [] n) = R := ⟨_, rfl⟩
  have T1 := right8_c c f LX2.out.ta
  rw [er_right LX2.out.er, hR] at T1
  have HR := hide hR
  have HT := hide T1
  clear T1 hR
  go_upto_region 4 with (go_at_call 10; (with_reducible refine (HT.out).mono ?_); rintro e W3 ⟨rfl, h3⟩; have B3 := hide (chain B2.out h3 (Nat.le_refl _)); have N3 := hide ((h3.block _ (lt_of_heap N2.out)).trans N2.out); have M3 := hide ((h3.block _ (lt_of_heap M2.out)).trans M2.out); have XB3 := hide ((h3.block _ (lt_of_heap XB2.out)).trans XB2.out); have LX3 := hide (LX2.out.kept h3); clear h3)
  clear c0 c1 c2 c3 c4 c5 m0 m1 HT N2 M2 XB2 LX2 B2
  obtain ⟨c0, c1, c2, c3, c4, c5⟩ := (show BoxN W3 bx x.f from XB3.out).six
  simp only [Nat.zero_add] at c1 c2 c3 c4 c5
  obtain ⟨d0, d1, d2, d3, d4, d5⟩ := (show BoxN W3 bn n.f from N3.out).six
  simp only [Nat.zero_add] at d1 d2 d3 d4 d5
  have KX := hide (kept8 LX3.out (HN.out.kept B3.out))
  go_upto_region 5 with (go_at_call 21; (with_reducible refine (KX.out).mono ?_); rintro e W4 ⟨rfl, h4⟩; have B4 := hide (chain B3.out h4 (Nat.le_refl _)); have N4 := hide ((h4.block _ (lt_of_heap N3.out)).trans N3.out); have M4 := hide ((h4.block _ (lt_of_heap M3.out)).trans M3.out); clear h4)
  clear c0 c1 c2 c3 c4 c5 d0 d1 d2 d3 d4 d5 KX N3 M3 XB3 LX3 B3
  obtain ⟨d0, d1, d2, d3, d4, d5⟩ := (show BoxN W4 bn n.f from N4.out).six
  simp only [Nat.zero_add] at d1 d2 d3 d4 d5
  have m0 : W4.cell? ⟨bm, 0, none⟩ = some (.bool c) := cell_row M4.out (i := 0) rfl
  have m1 : W4.cell? ⟨bm, 1, none⟩ = some (.bool f) := cell_row M4.out (i := 1) rfl
  have T2 := rright8 c f (HN.out.kept B4.out) HSM.out
  rw [HR.out] at T2
  have HT := hide T2
  clear T2
  go_wp2_with (go_at_call 22; (with_reducible refine (HT.out).mono ?_); rintro e W5 ⟨rfl, h5⟩; have B5 := hide (chain B4.out h5 (Nat.le_refl _)); clear h5)
  go_ret
  exact ⟨rfl, B5.out⟩
end Go.Proofs.Ytlodjinejeajcaa
namespace Go.Proofs.Ytlodjinejeajcaa
open Go Go.ChangeShapes Go.WideShapes Go.ChangeAt Go.RowKit

theorem cells_node : Try.prog.cellsOf 25 = 6 := by kernel_rfl
theorem cells_rng : Try.prog.cellsOf 72 = 2 := by kernel_rfl
theorem cells_rngs : Try.prog.cellsOf 22 = 1 := by kernel_rfl
theorem cells_nods : Try.prog.cellsOf 23 = 1 := by kernel_rfl
theorem bytes_rng : Try.prog.bytesOf 72 = 16 := by kernel_rfl
theorem weights_all {H : Type} {P : Program} {e : TypeId} {d : DataW H} {n : Nat} : ∀ {l : List (DataW H)}, d ∈ l → n ∈ d.weights P e → n ∈ DataW.weightsAll P e l
  | [], h, _ => by cases h
  | x :: r, h, hn => by
    simp only [DataW.weightsAll, List.mem_append]
    rcases List.mem_cons.1 h with rfl | h
    · exact .inl hn
    · exact .inr (weights_all h hn)
theorem cell_blk {w : World} {g o : Nat} {v : Value} (h : w.cell? ⟨g, o, none⟩ = some v) : g < w.heap.size := by
  rcases Nat.lt_or_ge g w.heap.size with h' | h'
  · exact h'
  · have : w.heap[g]? = none := Array.getElem?_eq_none h'
    simp [World.cell?, this] at h
theorem add_none {a : Addr} {W : World} {v : Value} (h : W.cell? (a.add 0) = some v) : ∃ b off, a = ⟨b, off, none⟩ := by
  obtain ⟨b, off, spot⟩ := a
  cases spot with
  | none => exact ⟨b, off, rfl⟩
  | some k =>
    exfalso
    unfold Addr.add World.cell? at h
    simp at h
    split at h <;> simp_all

set_option maxRecDepth 100000 in
theorem open_rngs {H : Type} {enc : TypeId × Value → H} {W : World} {fuel : Nat} {v : Value} {x : DataW H × List MemPlace} (hf : DataW.trod enc Try.prog W 0 (fun _ => true) true fuel 22 [v] = some x) (hw : ∀ n ∈ x.1.weights Try.prog 22, n ≤ reachBytes) :
    ∃ (rs : List (Int × Int)) (q : Option Addr) (c : Nat), v = .slice q rs.length c ∧ ArgR W v rs ∧ Fit rs ∧ rs.length + 3 ≤ 8796093022208 := by
  rcases Deep.open_slice_pairs Try.underlying22 Try.underlying72 cells_rng rfl rfl cells_int cells_int hf with ⟨h1, h2⟩ | ⟨a, len, cap, m, n, V0, V1, D0, D1, P0, P1, h1, _, hlc, hcap, hm, h2, hx⟩
  · cases h1
    exact ⟨[], none, 0, rfl, .inl ⟨none, 0, rfl, rfl, fun _ => rfl⟩, fit_nil, by simp⟩
  · cases h1
    rw [if_pos rfl] at hm
    subst hm
    by_cases hc : m = 0
    · have hl : len = 0 := by omega
      subst hc hl
      exact ⟨[], some a, 0, rfl, .inl ⟨some a, 0, rfl, rfl, fun q => (by cases q)⟩, fit_nil, by simp⟩
    · have hp : ∀ i, i < m → ∃ q : Int × Int, V0 i = .int .i64 q.1 ∧ V1 i = .int .i64 q.2 ∧ (Lit.int .i64 q.1).wf = true ∧ (Lit.int .i64 q.2).wf = true := fun i hi => by
        obtain ⟨_, _, g0, g1⟩ := hx i hi
        obtain ⟨x0, e0, _, w0⟩ := DataW.trod_int Try.underlying3 g0
        obtain ⟨x1, e1, _, w1⟩ := DataW.trod_int Try.underlying3 g1
        exact ⟨(x0, x1), by simpa using e0, by simpa using e1, w0, w1⟩
      obtain ⟨q, hq⟩ := Deep.choose_lt hp
      have c0 := (hx 0 (by omega)).1
      obtain ⟨b, off, rfl⟩ := add_none (by simpa using c0)
      have hadd : ∀ j, (⟨b, off, none⟩ : Addr).add j = ⟨b, off + j, none⟩ := fun j => by unfold Addr.add; split <;> simp_all
      have hb : b < W.heap.size := by rw [hadd] at c0; exact cell_blk c0
      refine ⟨(List.range len).map q, some ⟨b, off, none⟩, m, by simp, .inr ⟨b, off, m, by simp, hb, by simpa using hlc, hcap, fun i r hi' => ?_⟩, fun r hr => ?_, ?_⟩
      · have hil : i < len := by have := (List.getElem?_eq_some_iff.1 hi').1; simpa using this
        have hqi : q i = r := by simpa [hil] using hi'
        obtain ⟨k0, k1, _, _⟩ := hx i (by omega)
        rw [hadd, Nat.mul_comm] at k0
        rw [hadd, Nat.mul_comm, ← Nat.add_assoc] at k1
        obtain ⟨r0, r1, _, _⟩ := hq i (by omega)
        rw [hqi] at r0 r1
        exact ⟨by rw [k0, r0], by rw [k1, r1]⟩
      · obtain ⟨i, hi, rfl⟩ := List.mem_map.1 hr
        have hil : i < len := List.mem_range.1 hi
        obtain ⟨_, _, w0, w1⟩ := hq i (by omega)
        exact ⟨wf_range w0, wf_range w1⟩
      · obtain ⟨es, sp, e1, e2⟩ : ∃ es sp, x.1 = .slice es sp ∧ es.length = len := ⟨_, _, congrArg Prod.fst h2, by simp⟩
        have h3 := hw ((es.length + sp.length) * Try.prog.bytesOf 72) (by rw [e1]; simp [DataW.weights, Try.underlying22])
        rw [bytes_rng] at h3
        have r : reachBytes = 140737488351232 := by decide
        simp
        omega

set_option maxRecDepth 100000 in
set_option maxHeartbeats 2000000 in
theorem open_nodeF {H : Type} {enc : TypeId × Value → H} {W : World} : ∀ (fuel : Nat) (cs : List Value) (x : DataW H × List MemPlace), DataW.trod enc Try.prog W 0 (fun _ => true) true fuel 25 cs = some x → (∀ n ∈ x.1.weights Try.prog 25, n ≤ reachBytes) →
    ∃ t : Tr, TA W t ∧ cs = [.int .i64 t.f.k, .int .i64 t.f.n, .int .i64 t.f.mn, .int .i64 t.f.mx, .slice t.f.rq t.f.rs.length t.f.rc, .slice t.f.kq t.f.kl t.f.kc] := by
  intro fuel
  induction fuel using Nat.strongRecOn with
  | ind fuel ih =>
    intro cs x hf hw
    obtain ⟨xs, k, hk, hxy, hcl, hxl, hfs⟩ := DataW.trod_struct Try.underlying25 hf
    have hD : x.1 = .agg (xs.map (·.1)) := (congrArg Prod.fst hxy)
    rw [hD] at hw
    simp only [DataW.weights, Try.underlying25] at hw
    rw [cells_node] at hcl
    clear hD hxy hf
    match xs, hxl, cs, hcl, hfs, hw with
    | [y0, y1, y2, y3, y4, y5], _, [v0, v1, v2, v3, v4, v5], _, hf, hwi =>
      have F0 := hf 0 _ rfl
      have F1 := hf 1 _ rfl
      have F2 := hf 2 _ rfl
      have F3 := hf 3 _ rfl
      have F4 := hf 4 _ rfl
      have F5 := hf 5 _ rfl
      simp [cells_int, cells_rngs, cells_nods] at F0 F1 F2 F3 F4 F5
      obtain ⟨x0, e0, _, w0⟩ := DataW.trod_int Try.underlying3 F0
      obtain ⟨x1, e1, _, w1⟩ := DataW.trod_int Try.underlying3 F1
      obtain ⟨x2, e2, _, w2⟩ := DataW.trod_int Try.underlying3 F2
      obtain ⟨x3, e3, _, w3⟩ := DataW.trod_int Try.underlying3 F3
      obtain ⟨rs, q, c, rfl, hr, hfit, hlen⟩ := open_rngs F4 (fun n hn => hwi n (DataW.weights_mem_each (j := 4) (t := 22) rfl rfl n hn))
      cases e0; cases e1; cases e2; cases e3
      have hwk := fun n hn => hwi n (DataW.weights_mem_each (j := 5) (t := 23) (d := y5.1) rfl rfl n hn)
      rcases DataW.trod_slice Try.underlying23 F5 with ⟨h1, h2⟩ | ⟨a, len, cap, elems, rest, n, hn, h1, h2, _, hlc, hcap, hel, hx, -, -⟩
      · cases h1
        exact ⟨.mk ⟨x0, x1, x2, x3, rs, q, c, none, 0, 0⟩ [], (every_eq _).2 ⟨⟨hr, .inl ⟨none, 0, rfl, rfl, fun _ => rfl⟩, hfit, hlen⟩, (everyL_iff _).2 fun u hu => by cases hu⟩, rfl⟩
      · cases h1
        by_cases hl : len = 0
        · subst hl
          exact ⟨.mk ⟨x0, x1, x2, x3, rs, q, c, some a, 0, cap⟩ [], (every_eq _).2 ⟨⟨hr, .inl ⟨some a, cap, rfl, rfl, fun z => by cases z⟩, hfit, hlen⟩, (everyL_iff _).2 fun u hu => by cases hu⟩, rfl⟩
        · have each : ∀ i, i < len → ∃ t : Tr, TA W t ∧ ∀ j v, [Value.int .i64 t.f.k, .int .i64 t.f.n, .int .i64 t.f.mn, .int .i64 t.f.mx, .slice t.f.rq t.f.rs.length t.f.rc, .slice t.f.kq t.f.kl t.f.kc][j]? = some v → W.cell? (a.add (i * 6 + j)) = some v := by
            intro i hi
            have hxi := hx i hi
            rw [List.getElem?_eq_getElem (by omega)] at hxi
            obtain ⟨cs', g1, g2⟩ := Option.bind_eq_some_iff.1 hxi
            rw [cells_node] at g1
            obtain ⟨_, hlc', hcell⟩ := World.cells?_some g1
            obtain ⟨t, ht, hcs⟩ := ih n (by omega) cs' _ g2 (fun m hm => hwk m (by
              rw [show y5.1 = .slice (elems.map (·.1)) (rest.map (·.1)) from congrArg Prod.fst h2]
              simp only [DataW.weights, Try.underlying23, List.mem_cons, List.mem_append]
              exact .inr (.inl (weights_all (List.mem_map.2 ⟨_, List.getElem_mem _, rfl⟩) hm))))
            refine ⟨t, ht, fun j v hj => ?_⟩
            have hj6 : j < 6 := by have := (List.getElem?_eq_some_iff.1 hj).1; simpa using this
            have := hcell j (by omega)
            rw [Deep.add_add] at this
            rw [this, hcs]
            exact hj
          have : Inhabited Tr := ⟨.mk ⟨0, 0, 0, 0, [], none, 0, none, 0, 0⟩ []⟩
          obtain ⟨tt, htt⟩ := Deep.choose_lt each
          have c0 := (htt 0 (by omega)).2 0 _ rfl
          obtain ⟨b, off, rfl⟩ := add_none (by simpa using c0)
          have hadd : ∀ j, (⟨b, off, none⟩ : Addr).add j = ⟨b, off + j, none⟩ := fun j => by unfold Addr.add; split <;> simp_all
          have hb : b < W.heap.size := by rw [hadd] at c0; exact cell_blk c0
          refine ⟨.mk ⟨x0, x1, x2, x3, rs, q, c, some ⟨b, off, none⟩, len, cap⟩ ((List.range len).map tt), (every_eq _).2 ⟨⟨hr, .inr ⟨b, off, cap, by simp [Tr.f, Tr.ks], hb, by simpa [Tr.ks] using hlc, hcap, fun i t hi => ?_⟩, hfit, hlen⟩, (everyL_iff _).2 fun u hu => ?_⟩, rfl⟩
          · have hi' : ((List.range len).map tt)[i]? = some t := hi
            have hil : i < len := by have := (List.getElem?_eq_some_iff.1 hi').1; simpa using this
            have hqi : tt i = t := by simpa [hil] using hi'
            have hh := (htt i hil).2
            rw [hqi] at hh
            simp only [hadd, ← Nat.add_assoc] at hh
            exact ⟨hh 0 _ rfl, hh 1 _ rfl, hh 2 _ rfl, hh 3 _ rfl, hh 4 _ rfl, hh 5 _ rfl⟩
          · have hu' : u ∈ (List.range len).map tt := hu
            obtain ⟨i, hi, rfl⟩ := List.mem_map.1 hu'
            exact (htt i (List.mem_range.1 hi)).1
theorem cells_mode8 : Try.prog.cellsOf 27 = 2 := by kernel_rfl
theorem cells_bool8 : Try.prog.cellsOf 4 = 1 := by kernel_rfl
set_option maxRecDepth 100000 in
theorem open_node {H : Type} {enc : TypeId × Value → H} {W : World} {base : Nat} {v : Value} {d : DataW H} {p : List MemPlace} (hok : Value.okWide Try.prog W .any base 25 v)
    (h : DataW.Trod enc Try.prog W 0 (fun _ => true) true 25 v d p) (hw : ∀ n ∈ d.weights Try.prog 25, n ≤ reachBytes) : ∃ t : Tr, TA W t ∧ v = .agg #[.int .i64 t.f.k, .int .i64 t.f.n, .int .i64 t.f.mn, .int .i64 t.f.mx, .slice t.f.rq t.f.rs.length t.f.rc, .slice t.f.kq t.f.kl t.f.kc] := by
  obtain ⟨cs, rfl, hsz⟩ := okWide_struct Try.underlying25 hok
  obtain ⟨fuel, hf⟩ := h
  obtain ⟨t, ht, hcs⟩ := open_nodeF fuel _ _ hf hw
  refine ⟨t, ht, ?_⟩
  obtain ⟨l⟩ := cs
  simp [Value.cells] at hcs
  rw [hcs]
set_option maxRecDepth 100000 in
theorem open_mode8 {H : Type} {enc : TypeId × Value → H} {W : World} {base : Nat} {v : Value} {d : DataW H} {p : List MemPlace} (hok : Value.okWide Try.prog W .any base 27 v)
    (h : DataW.Trod enc Try.prog W 0 (fun _ => true) true 27 v d p) : ∃ c f : Bool, v = .agg #[.bool c, .bool f] := by
  obtain ⟨cs, rfl, hsz⟩ := okWide_struct Try.underlying27 hok
  obtain ⟨fuel, hf⟩ := h
  obtain ⟨xs, k, hk, hxy, hcl, hxl, hfs⟩ := DataW.trod_struct Try.underlying27 hf
  rw [cells_mode8] at hcl
  obtain ⟨l⟩ := cs
  simp [Value.cells] at hcl hfs
  match xs, hxl, l, hcl, hfs with
  | [y0, y1], _, [c0, c1], _, hf =>
    have F0 := hf 0 _ rfl
    have F1 := hf 1 _ rfl
    simp [cells_bool8] at F0 F1
    obtain ⟨b0, e0, -⟩ := DataW.trod_bool Try.underlying4 F0
    obtain ⟨b1, e1, -⟩ := DataW.trod_bool Try.underlying4 F1
    cases e0; cases e1
    exact ⟨b0, b1, rfl⟩
end Go.Proofs.Ytlodjinejeajcaa
namespace Go.Proofs.Ytlodjinejeajcaa
open Go Go.ChangeShapes Go.WideShapes Go.ChangeAt Go.RowKit

theorem bulk_one8 {H : Type} (d : DataW H) : 1 ≤ Rows.uptoBulk d := by
  cases d with
  | lit l => cases l <;> simp [Rows.uptoBulk]
  | nil => simp [Rows.uptoBulk]
  | ptr d => simp [Rows.uptoBulk]
  | slice elems spare => simp [Rows.uptoBulk]
  | agg parts => simp [Rows.uptoBulk]
  | iface t d => simp [Rows.uptoBulk]
  | map entries => simp [Rows.uptoBulk]
  | held h => simp [Rows.uptoBulk]
theorem bulk_part8 {H : Type} {d : DataW H} {l : List (DataW H)} (h : d ∈ l) : Rows.uptoBulk d ≤ Rows.uptoBulkAll l := by
  induction l with
  | nil => cases h
  | cons x r ih =>
    simp only [Rows.uptoBulkAll]
    cases List.mem_cons.1 h with
    | inl e => subst e; omega
    | inr e => have := ih e; omega
theorem bulk_len8 {H : Type} (l : List (DataW H)) : l.length ≤ Rows.uptoBulkAll l := by
  induction l with
  | nil => simp [Rows.uptoBulkAll]
  | cons x r ih => have := bulk_one8 x; simp only [Rows.uptoBulkAll, List.length_cons]; omega
theorem bulk_of8 {H : Type} {d : DataW H} {l : List (DataW H)} (hk : Rows.uptoSmall H l = true) (h : d ∈ l) : Rows.uptoBulk d ≤ 1048576 := Nat.le_trans (bulk_part8 h) (of_decide_eq_true hk)
set_option maxRecDepth 100000 in
theorem open_rngsB {H : Type} {enc : TypeId × Value → H} {W : World} {fuel : Nat} {v : Value} {x : DataW H × List MemPlace} (hf : DataW.trod enc Try.prog W 0 (fun _ => true) true fuel 22 [v] = some x) (hw : Rows.uptoBulk x.1 ≤ 1048576) :
    ∃ (rs : List (Int × Int)) (q : Option Addr) (c : Nat), v = .slice q rs.length c ∧ ArgR W v rs ∧ Fit rs ∧ rs.length + 3 ≤ 1048580 := by
  rcases Deep.open_slice_pairs Try.underlying22 Try.underlying72 cells_rng rfl rfl cells_int cells_int hf with ⟨h1, h2⟩ | ⟨a, len, cap, m, n, V0, V1, D0, D1, P0, P1, h1, _, hlc, hcap, hm, h2, hx⟩
  · cases h1
    exact ⟨[], none, 0, rfl, .inl ⟨none, 0, rfl, rfl, fun _ => rfl⟩, fit_nil, by simp⟩
  · cases h1
    rw [if_pos rfl] at hm
    subst hm
    by_cases hc : m = 0
    · have hl : len = 0 := by omega
      subst hc hl
      exact ⟨[], some a, 0, rfl, .inl ⟨some a, 0, rfl, rfl, fun q => (by cases q)⟩, fit_nil, by simp⟩
    · have hp : ∀ i, i < m → ∃ q : Int × Int, V0 i = .int .i64 q.1 ∧ V1 i = .int .i64 q.2 ∧ (Lit.int .i64 q.1).wf = true ∧ (Lit.int .i64 q.2).wf = true := fun i hi => by
        obtain ⟨_, _, g0, g1⟩ := hx i hi
        obtain ⟨x0, e0, _, w0⟩ := DataW.trod_int Try.underlying3 g0
        obtain ⟨x1, e1, _, w1⟩ := DataW.trod_int Try.underlying3 g1
        exact ⟨(x0, x1), by simpa using e0, by simpa using e1, w0, w1⟩
      obtain ⟨q, hq⟩ := Deep.choose_lt hp
      have c0 := (hx 0 (by omega)).1
      obtain ⟨b, off, rfl⟩ := add_none (by simpa using c0)
      have hadd : ∀ j, (⟨b, off, none⟩ : Addr).add j = ⟨b, off + j, none⟩ := fun j => by unfold Addr.add; split <;> simp_all
      have hb : b < W.heap.size := by rw [hadd] at c0; exact cell_blk c0
      refine ⟨(List.range len).map q, some ⟨b, off, none⟩, m, by simp, .inr ⟨b, off, m, by simp, hb, by simpa using hlc, hcap, fun i r hi' => ?_⟩, fun r hr => ?_, ?_⟩
      · have hil : i < len := by have := (List.getElem?_eq_some_iff.1 hi').1; simpa using this
        have hqi : q i = r := by simpa [hil] using hi'
        obtain ⟨k0, k1, _, _⟩ := hx i (by omega)
        rw [hadd, Nat.mul_comm] at k0
        rw [hadd, Nat.mul_comm, ← Nat.add_assoc] at k1
        obtain ⟨r0, r1, _, _⟩ := hq i (by omega)
        rw [hqi] at r0 r1
        exact ⟨by rw [k0, r0], by rw [k1, r1]⟩
      · obtain ⟨i, hi, rfl⟩ := List.mem_map.1 hr
        have hil : i < len := List.mem_range.1 hi
        obtain ⟨_, _, w0, w1⟩ := hq i (by omega)
        exact ⟨wf_range w0, wf_range w1⟩
      · obtain ⟨es, sp, e1, e2⟩ : ∃ es sp, x.1 = .slice es sp ∧ es.length = len := ⟨_, _, congrArg Prod.fst h2, by simp⟩
        rw [e1] at hw
        simp only [Rows.uptoBulk] at hw
        have := bulk_len8 es
        simp
        omega

set_option maxRecDepth 100000 in
set_option maxHeartbeats 2000000 in
theorem open_nodeB {H : Type} {enc : TypeId × Value → H} {W : World} : ∀ (fuel : Nat) (cs : List Value) (x : DataW H × List MemPlace), DataW.trod enc Try.prog W 0 (fun _ => true) true fuel 25 cs = some x → Rows.uptoBulk x.1 ≤ 1048576 →
    ∃ t : Tr, (TA W t ∧ Every (fun u => u.f.rs.length ≤ 1048580) t) ∧ cs = [.int .i64 t.f.k, .int .i64 t.f.n, .int .i64 t.f.mn, .int .i64 t.f.mx, .slice t.f.rq t.f.rs.length t.f.rc, .slice t.f.kq t.f.kl t.f.kc] := by
  intro fuel
  induction fuel using Nat.strongRecOn with
  | ind fuel ih =>
    intro cs x hf hw
    obtain ⟨xs, k, hk, hxy, hcl, hxl, hfs⟩ := DataW.trod_struct Try.underlying25 hf
    have hD : x.1 = .agg (xs.map (·.1)) := (congrArg Prod.fst hxy)
    rw [hD] at hw
    simp only [Rows.uptoBulk] at hw
    rw [cells_node] at hcl
    clear hD hxy hf
    match xs, hxl, cs, hcl, hfs, hw with
    | [y0, y1, y2, y3, y4, y5], _, [v0, v1, v2, v3, v4, v5], _, hf, hwi =>
      have F0 := hf 0 _ rfl
      have F1 := hf 1 _ rfl
      have F2 := hf 2 _ rfl
      have F3 := hf 3 _ rfl
      have F4 := hf 4 _ rfl
      have F5 := hf 5 _ rfl
      simp [cells_int, cells_rngs, cells_nods] at F0 F1 F2 F3 F4 F5
      obtain ⟨x0, e0, _, w0⟩ := DataW.trod_int Try.underlying3 F0
      obtain ⟨x1, e1, _, w1⟩ := DataW.trod_int Try.underlying3 F1
      obtain ⟨x2, e2, _, w2⟩ := DataW.trod_int Try.underlying3 F2
      obtain ⟨x3, e3, _, w3⟩ := DataW.trod_int Try.underlying3 F3
      obtain ⟨rs, q, c, rfl, hr, hfit, hlen⟩ := open_rngsB F4 (by have := bulk_part8 (d := y4.1) (l := [y0, y1, y2, y3, y4, y5].map (·.1)) (by simp); omega)
      cases e0; cases e1; cases e2; cases e3
      have hwk : Rows.uptoBulk y5.1 ≤ 1048576 := by have := bulk_part8 (d := y5.1) (l := [y0, y1, y2, y3, y4, y5].map (·.1)) (by simp); omega
      rcases DataW.trod_slice Try.underlying23 F5 with ⟨h1, h2⟩ | ⟨a, len, cap, elems, rest, n, hn, h1, h2, _, hlc, hcap, hel, hx, -, -⟩
      · cases h1
        exact ⟨.mk ⟨x0, x1, x2, x3, rs, q, c, none, 0, 0⟩ [], ⟨(every_eq _).2 ⟨⟨hr, .inl ⟨none, 0, rfl, rfl, fun _ => rfl⟩, hfit, Nat.le_trans hlen (by decide)⟩, (everyL_iff _).2 fun u hu => by cases hu⟩, (every_eq _).2 ⟨Nat.le_trans (Nat.le_add_right _ 3) hlen, (everyL_iff _).2 fun u hu => by cases hu⟩⟩, rfl⟩
      · cases h1
        by_cases hl : len = 0
        · subst hl
          exact ⟨.mk ⟨x0, x1, x2, x3, rs, q, c, some a, 0, cap⟩ [], ⟨(every_eq _).2 ⟨⟨hr, .inl ⟨some a, cap, rfl, rfl, fun z => by cases z⟩, hfit, Nat.le_trans hlen (by decide)⟩, (everyL_iff _).2 fun u hu => by cases hu⟩, (every_eq _).2 ⟨Nat.le_trans (Nat.le_add_right _ 3) hlen, (everyL_iff _).2 fun u hu => by cases hu⟩⟩, rfl⟩
        · have each : ∀ i, i < len → ∃ t : Tr, (TA W t ∧ Every (fun u => u.f.rs.length ≤ 1048580) t) ∧ ∀ j v, [Value.int .i64 t.f.k, .int .i64 t.f.n, .int .i64 t.f.mn, .int .i64 t.f.mx, .slice t.f.rq t.f.rs.length t.f.rc, .slice t.f.kq t.f.kl t.f.kc][j]? = some v → W.cell? (a.add (i * 6 + j)) = some v := by
            intro i hi
            have hxi := hx i hi
            rw [List.getElem?_eq_getElem (by omega)] at hxi
            obtain ⟨cs', g1, g2⟩ := Option.bind_eq_some_iff.1 hxi
            rw [cells_node] at g1
            obtain ⟨_, hlc', hcell⟩ := World.cells?_some g1
            obtain ⟨t, ht, hcs⟩ := ih n (by omega) cs' _ g2 (by
              rw [show y5.1 = .slice (elems.map (·.1)) (rest.map (·.1)) from congrArg Prod.fst h2] at hwk
              simp only [Rows.uptoBulk] at hwk
              refine Nat.le_trans (bulk_part8 (l := elems.map (·.1)) (List.mem_map.2 ⟨_, List.getElem_mem _, rfl⟩)) (by omega))
            refine ⟨t, ht, fun j v hj => ?_⟩
            have hj6 : j < 6 := by have := (List.getElem?_eq_some_iff.1 hj).1; simpa using this
            have := hcell j (by omega)
            rw [Deep.add_add] at this
            rw [this, hcs]
            exact hj
          have : Inhabited Tr := ⟨.mk ⟨0, 0, 0, 0, [], none, 0, none, 0, 0⟩ []⟩
          obtain ⟨tt, htt⟩ := Deep.choose_lt each
          have c0 := (htt 0 (by omega)).2 0 _ rfl
          obtain ⟨b, off, rfl⟩ := add_none (by simpa using c0)
          have hadd : ∀ j, (⟨b, off, none⟩ : Addr).add j = ⟨b, off + j, none⟩ := fun j => by unfold Addr.add; split <;> simp_all
          have hb : b < W.heap.size := by rw [hadd] at c0; exact cell_blk c0
          refine ⟨.mk ⟨x0, x1, x2, x3, rs, q, c, some ⟨b, off, none⟩, len, cap⟩ ((List.range len).map tt), ⟨(every_eq _).2 ⟨⟨hr, .inr ⟨b, off, cap, by simp [Tr.f, Tr.ks], hb, by simpa [Tr.ks] using hlc, hcap, fun i t hi => ?_⟩, hfit, Nat.le_trans hlen (by decide)⟩, (everyL_iff _).2 fun u hu => ?_⟩, (every_eq _).2 ⟨Nat.le_trans (Nat.le_add_right _ 3) hlen, (everyL_iff _).2 fun u hu => ?_⟩⟩, rfl⟩
          · have hi' : ((List.range len).map tt)[i]? = some t := hi
            have hil : i < len := by have := (List.getElem?_eq_some_iff.1 hi').1; simpa using this
            have hqi : tt i = t := by simpa [hil] using hi'
            have hh := (htt i hil).2
            rw [hqi] at hh
            simp only [hadd, ← Nat.add_assoc] at hh
            exact ⟨hh 0 _ rfl, hh 1 _ rfl, hh 2 _ rfl, hh 3 _ rfl, hh 4 _ rfl, hh 5 _ rfl⟩
          · have hu' : u ∈ (List.range len).map tt := hu
            obtain ⟨i, hi, rfl⟩ := List.mem_map.1 hu'
            exact (htt i (List.mem_range.1 hi)).1.1
          · have hu' : u ∈ (List.range len).map tt := hu
            obtain ⟨i, hi, rfl⟩ := List.mem_map.1 hu'
            exact (htt i (List.mem_range.1 hi)).1.2
set_option maxRecDepth 100000 in
theorem open_nodeU {H : Type} {enc : TypeId × Value → H} {W : World} {base : Nat} {v : Value} {d : DataW H} {p : List MemPlace} (hok : Value.okWide Try.prog W .any base 25 v)
    (h : DataW.Trod enc Try.prog W 0 (fun _ => true) true 25 v d p) (hw : Rows.uptoBulk d ≤ 1048576) : ∃ t : Tr, TA W t ∧ (∀ x ∈ pp [] t, x.2.f.rs.length ≤ 1048580) ∧ v = .agg #[.int .i64 t.f.k, .int .i64 t.f.n, .int .i64 t.f.mn, .int .i64 t.f.mx, .slice t.f.rq t.f.rs.length t.f.rc, .slice t.f.kq t.f.kl t.f.kc] := by
  obtain ⟨cs, rfl, hsz⟩ := okWide_struct Try.underlying25 hok
  obtain ⟨fuel, hf⟩ := h
  obtain ⟨t, ⟨ht, hs⟩, hcs⟩ := open_nodeB fuel _ _ hf hw
  refine ⟨t, ht, fun x hx => ((every_eq _).1 (every_pp (P := fun u => u.f.rs.length ≤ 1048580) t [] hs x hx)).1, ?_⟩
  obtain ⟨l⟩ := cs
  simp [Value.cells] at hcs
  rw [hcs]
end Go.Proofs.Ytlodjinejeajcaa
