/-
  Parts of the proof.
-/
import Derived.Test.YtbghleihgcenmaaC21
import Derived.Test.YtbghleihgcenmaaC8
import Derived.Test.YtbghleihgcenmaaRows
import Derived.Test.YtbghleihgcenmaaC1
import Derived.ProofKit
import Derived.LaidMore
import Derived.OpenShut
import Derived.Stop.Joined
import Derived.Laws.IdiomArrays
import Derived.Lib.LaidU8
import Derived.Lib.LaidTab
import Derived.ChangeOld
import Derived.Deep.Slices
import Derived.ChangeSame
import Derived.SizedLaws
import Derived.SevenTiedAt
set_option linter.unusedSimpArgs false
namespace Go.Proofs.Ytbghleihgcenmaa
open Go Go.RowKit
attribute [local go_sem] Oper.semAt_some
def hasO (p : Pg) (op : Int) : Bool := p.L.any (fun i => i.op == op)
theorem hasO_no {p : Pg} {op : Int} (h : hasO p op = false) : ∀ i ∈ p.L, i.op ≠ op := fun i hi e => by
  unfold hasO at h
  rw [List.any_eq_false] at h
  exact h i hi (by rw [e]; simp)
set_option maxRecDepth 100000 in
set_option maxHeartbeats 4000000 in
theorem has_op {w : World} {p : Pg} (h : PgI w p) (op : Int) : Calls Try.prog 10 #[.agg #[.slice p.q p.L.length p.c, .int .i64 p.g, .int .i64 p.k, .bool p.f], .int .i64 op] w fun e w' => e = .returned (.bool (hasO p op)) ∧ Below w.heap.size w w' := by
  have B1 : Hid (Below w.heap.size w (w.alloc (.cells #[.slice p.q p.L.length p.c, .int .i64 p.g, .int .i64 p.k, .bool p.f] 24))) := (Below.refl _ _).alloc (Nat.le_refl _) _
  have X1 : Hid ((w.alloc (.cells #[.slice p.q p.L.length p.c, .int .i64 p.g, .int .i64 p.k, .bool p.f] 24)).heap[w.heap.size]? = some (.cells #[.slice p.q p.L.length p.c, .int .i64 p.g, .int .i64 p.k, .bool p.f] 24 (0, 0))) := alloc_new w _
  have H := hide (h.kept B1.out)
  have hlen := h.len
  clear h
  obtain ⟨r, hr⟩ : ∃ r, hasO p op = r := ⟨_, rfl⟩
  rw [hr]
  have HR := hide hr
  clear hr
  go_enter Try.func10, Try.ntmps10
  go_upto_region 1 with fail
  generalize (w.alloc (.cells #[.slice p.q p.L.length p.c, .int .i64 p.g, .int .i64 p.k, .bool p.f] 24)) = w1 at B1 X1 H ⊢
  have x0 : w1.cell? ⟨w.heap.size, 0, none⟩ = some (.slice p.q p.L.length p.c) := cell_row X1.out (i := 0) rfl
  go_wp2
  go_loopw [5] (fun i wr => ∃ j : Nat, j ≤ p.L.length ∧ i = .int .i64 (j : Int) ∧ (p.L.take j).any (fun i => i.op == op) = false ∧ wr = w1) (fun i _ => p.L.length - (intOf i).toNat)
  case atStart => exact ⟨0, Nat.zero_le _, rfl, rfl, rfl⟩
  case round =>
    obtain ⟨j, hj, rfl, hpre, hwr⟩ := hrel
    subst hwr
    have HP := hide hpre
    clear hpre
    by_cases hjl : j < p.L.length
    · have i0 : (j : Int) < (p.L.length : Int) := by omega
      obtain ⟨a9, hga⟩ : ∃ a, p.L[j]? = some a := ⟨_, List.getElem?_eq_getElem hjl⟩
      obtain ⟨g1, o1, hq1, hl1, c0, c1, c2, c3, c4, c5, c6, c7, c8, c9⟩ := H.out.li.ten hga
      clear c1 c2 c3 c4 c5 c6 c7 c8 c9
      have GA := hide hga
      have hw1 : IntKind.wrap .i64 ((j : Int) + 1) = (j : Int) + 1 := wrap_small _ (by omega) (by omega)
      rw [hq1] at x0
      clear hga
      by_cases ho : a9.op = op
      · have e1 : (a9.op == op) = true := by rw [ho]; simp
        have HN : Hid (r = true) := hide (by rw [← HR.out]; exact List.any_eq_true.2 ⟨a9, List.mem_of_getElem? GA.out, e1⟩)
        clear ho
        go_wp2
        go_ret
        exact ⟨by rw [HN.out]; rfl, B1.out⟩
      · have e1 : (a9.op == op) = false := by rw [beq_eq_false_iff_ne]; exact ho
        have HN := hide (show (p.L.take (j + 1)).any (fun i => i.op == op) = false by rw [List.take_add_one, GA.out, List.any_append, HP.out]; simpa using ho)
        clear ho
        go_wp2
        go_roundw
        case rel => exact ⟨j + 1, by omega, by go_num, HN.out, by first | rfl | trivial⟩
        case measure => simp only [intOf]; omega
    · have i0 : ¬ (j : Int) < (p.L.length : Int) := by omega
      have HN : Hid (r = false) := hide (by
        have := HP.out
        rw [List.take_of_length_le (by omega)] at this
        rw [← HR.out]
        exact this)
      go_wp2
      go_ret
      exact ⟨by rw [HN.out]; rfl, B1.out⟩
theorem epsL_mono {i : Ins} {a x : Int} {bg en : Bool} (h : x ∈ epsL i a bg en) : x ∈ epsL i a true true := by
  unfold epsL at h ⊢
  split at h
  · rw [if_pos (by assumption)]; exact h
  rw [if_neg (by assumption)]
  split at h
  · rw [if_pos (by assumption)]; exact h
  rw [if_neg (by assumption)]
  split at h
  · rw [if_pos (by assumption)]; exact h
  rw [if_neg (by assumption)]
  split at h
  · rw [if_pos (by assumption)]
    cases bg
    · cases h
    · exact h
  rw [if_neg (by assumption)]
  split at h
  · rw [if_pos (by assumption)]
    cases en
    · cases h
    · exact h
  · cases h
theorem rc_empty {P : List Ins} {s : List UInt8} {b pl : Nat} {a : Int} (hno : ∀ i ∈ P, i.op ≠ 1) (h : Rc P s b pl a) : pl = b ∧ Rc P [] 0 0 a := by
  refine h.ind (Q := fun pl a => pl = b ∧ Rc P [] 0 0 a) ⟨rfl, Rc.start⟩ (fun pl a i x _ q hi hx => ⟨q.1, q.2.eps hi (epsL_mono hx)⟩) (fun pl a i c _ _ hi ho _ _ => absurd ho (hno i (List.mem_of_getElem? hi)))
theorem mt_empty {P : List Ins} {s : List UInt8} {b e : Nat} (hno : ∀ i ∈ P, i.op ≠ 1) (h : Mt P s b e) : e = b ∧ Mt P [] 0 0 := by
  obtain ⟨a, i, hr, hi, ho⟩ := h
  obtain ⟨h1, h2⟩ := rc_empty hno hr
  exact ⟨h1, a, i, h2, hi, ho⟩
theorem lgs_empty {P : List Ins} {s : List UInt8} {a : Nat} {n n2 : Int} {ok2 : Bool} (hno : ∀ i ∈ P, i.op ≠ 1) (h : LgS P s a n true) (h2 : LgS P [] 0 n2 ok2) : n = a ∧ ok2 = true := by
  rcases h with ⟨q, _⟩ | ⟨_, e, rfl, h3, _⟩
  · cases q
  · obtain ⟨rfl, h4⟩ := mt_empty hno h3
    refine ⟨rfl, ?_⟩
    rcases h2 with ⟨rfl, _, q⟩ | ⟨rfl, _⟩
    · exact absurd h4 (q 0)
    · rfl
set_option maxRecDepth 100000 in
set_option maxHeartbeats 8000000 in
theorem empty_c {w : World} {p : Pg} (h : PgI w p) (s : ByteArray) (hs : s.size ≤ 4611686018427387904) (pl : Int) : Calls Try.prog 6 #[.agg #[.slice p.q p.L.length p.c, .int .i64 p.g, .int .i64 p.k, .bool p.f], .string s, .int .i64 pl] w fun e w' => e = .returned (.bool true) ∧ Below w.heap.size w w' := by
  have B1 : Hid (Below w.heap.size w (w.alloc (.cells #[.slice p.q p.L.length p.c, .int .i64 p.g, .int .i64 p.k, .bool p.f] 24))) := (Below.refl _ _).alloc (Nat.le_refl _) _
  have X1 : Hid ((w.alloc (.cells #[.slice p.q p.L.length p.c, .int .i64 p.g, .int .i64 p.k, .bool p.f] 24)).heap[w.heap.size]? = some (.cells #[.slice p.q p.L.length p.c, .int .i64 p.g, .int .i64 p.k, .bool p.f] 24 (0, 0))) := alloc_new w _
  have H := hide h
  have HO := hide (fun (V : World) (hV : Below w.heap.size w V) => has_op (h.kept hV) 1)
  have hno := hide (fun (q : hasO p 1 = false) => hasO_no q)
  obtain ⟨rd, hrd⟩ : ∃ r, hasO p 1 = r := ⟨_, rfl⟩
  rw [hrd] at HO hno
  clear h hrd
  go_enter Try.func6, Try.ntmps6
  go_upto_region 1 with fail
  generalize (w.alloc (.cells #[.slice p.q p.L.length p.c, .int .i64 p.g, .int .i64 p.k, .bool p.f] 24)) = w1 at B1 X1 ⊢
  go_upto_region 2 with (go_at_call 7; (with_reducible refine (known_c _).mono ?_); rintro e w2 ⟨rfl, h2⟩; have B2 := hide (chain B1.out h2 (Nat.le_refl _)); have X2 := hide ((h2.block _ (lt_of_heap X1.out)).trans X1.out); clear h2)
  have p0 := cell_row X2.out (i := 0) rfl
  have p1 := cell_row X2.out (i := 1) rfl
  have p2 := cell_row X2.out (i := 2) rfl
  have p3 := cell_row X2.out (i := 3) rfl
  go_upto_region 3 with (go_at_call 10; (with_reducible refine (HO.out _ B2.out).mono ?_); rintro e w3 ⟨rfl, h2⟩; have B3 := hide (chain B2.out h2 (Nat.le_refl _)); have X3 := hide ((h2.block _ (lt_of_heap X2.out)).trans X2.out); clear h2)
  clear p0 p1 p2 p3
  have p0 := cell_row X3.out (i := 0) rfl
  have p1 := cell_row X3.out (i := 1) rfl
  have p2 := cell_row X3.out (i := 2) rfl
  have p3 := cell_row X3.out (i := 3) rfl
  by_cases hz : wrM p s.size pl = 0
  case neg =>
    have LB := hide (longest_bad (H.out.kept B3.out) s pl hz)
    obtain ⟨v, hv⟩ : ∃ v, wrM p s.size pl = v := ⟨_, rfl⟩
    rw [hv] at LB hz
    have z0 : (v != 0) = true := by simp [hz]
    clear hv hz
    go_wp2_with (go_at_call 8; (with_reducible refine (LB.out).mono ?_); rintro e w4 ⟨rfl, h2⟩; have B4 := hide (chain B3.out h2 (Nat.le_refl _)); clear h2)
    go_ret
    exact ⟨rfl, B4.out⟩
  case pos =>
    obtain ⟨hr, hf, hp0, hp1⟩ := wrM_ok hz
    obtain ⟨a, rfl⟩ : ∃ a : Nat, pl = (a : Int) := ⟨pl.toNat, by omega⟩
    have LO := hide (longest_ok (H.out.kept B3.out) s a hz hs)
    have HZ := hide (wrM_0 (p := p) (n := 0) (pl := 0) hr hf (Int.le_refl _) (Int.le_refl _))
    clear hz hr hf hp0 hp1
    cases rd with
    | true =>
      go_wp2_with (go_at_call 8; (with_reducible refine (LO.out).mono ?_); rintro e w4 ⟨⟨n, ok, st, rfl, h1⟩, h2⟩; have B4 := hide (chain B3.out h2 (Nat.le_refl _)); clear h1 h2)
      go_ret
      exact ⟨rfl, B4.out⟩
    | false =>
      go_upto_region 6 with (go_at_call 8; (with_reducible refine (LO.out).mono ?_); rintro e w4 ⟨⟨n, ok, st, rfl, h1⟩, h2⟩; have S4 := hide h1; have B4 := hide (chain B3.out h2 (Nat.le_refl _)); have X4 := hide ((h2.block _ (lt_of_heap X3.out)).trans X3.out); clear h1 h2)
      clear p0 p1 p2 p3 LO
      have p0 := cell_row X4.out (i := 0) rfl
      have p1 := cell_row X4.out (i := 1) rfl
      have p2 := cell_row X4.out (i := 2) rfl
      have p3 := cell_row X4.out (i := 3) rfl
      have L2 : Hid (Calls Try.prog 8 #[.agg #[.slice p.q p.L.length p.c, .int .i64 p.g, .int .i64 p.k, .bool p.f], .string ⟨#[]⟩, .int .i64 0] w4 fun e w' => (∃ n ok st, e = .returned (.tuple #[.int .i64 n, .bool ok, .int .i64 st, .int .i64 0]) ∧ LgS p.L [] 0 n ok) ∧ Below w4.heap.size w4 w') := longest_ok (H.out.kept B4.out) ⟨#[]⟩ 0 HZ.out (by decide)
      cases ok with
      | false =>
        go_wp2_with (go_at_call 8; (with_reducible refine (L2.out).mono ?_); rintro e w5 ⟨⟨n2, ok2, st2, rfl, h1⟩, h2⟩; have B5 := hide (chain B4.out h2 (Nat.le_refl _)); clear h1 h2)
        go_ret
        exact ⟨rfl, B5.out⟩
      | true =>
        go_upto_region 7 with (go_at_call 8; (with_reducible refine (L2.out).mono ?_); rintro e w5 ⟨⟨n2, ok2, st2, rfl, h1⟩, h2⟩; have S5 := hide h1; have B5 := hide (chain B4.out h2 (Nat.le_refl _)); clear h1 h2)
        obtain ⟨hn, hok⟩ := lgs_empty (by have := hno.out; simpa using this) S4.out S5.out
        subst hn
        subst hok
        clear S4 S5 L2 p0 p1 p2 p3 hno
        go_wp2
        go_ret
        exact ⟨rfl, B5.out⟩
end Go.Proofs.Ytbghleihgcenmaa
namespace Go.Proofs.Ytbghleihgcenmaa
open Go Go.ChangeShapes Go.WideShapes Go.ChangeAt Go.RowKit
theorem o_int : Try.prog.cellsOf 3 = 1 := by kernel_rfl
theorem o_bool : Try.prog.cellsOf 4 = 1 := by kernel_rfl
theorem o_u64 : Try.prog.cellsOf 38 = 1 := by kernel_rfl
theorem o_set : Try.prog.cellsOf 40 = 4 := by kernel_rfl
theorem o_inst : Try.prog.cellsOf 42 = 10 := by kernel_rfl
theorem o_insts : Try.prog.cellsOf 22 = 1 := by kernel_rfl
theorem o_prog : Try.prog.cellsOf 24 = 4 := by kernel_rfl
theorem b_inst : Try.prog.bytesOf 42 = 80 := by kernel_rfl
theorem u_set : Try.prog.underlying 40 = some (.array 4 38) := by kernel_rfl
theorem u64_of_wf {x : Int} (h : (Lit.int .u64 x).wf = true) : 0 ≤ x ∧ x < 18446744073709551616 := by
  simp [Lit.wf, IntKind.min, IntKind.max, IntKind.signed, IntKind.bits] at h
  omega
theorem cell_blk {w : World} {g o : Nat} {v : Value} (h : w.cell? ⟨g, o, none⟩ = some v) : g < w.heap.size := by
  rcases Nat.lt_or_ge g w.heap.size with h' | h'
  · exact h'
  · have : w.heap[g]? = none := Array.getElem?_eq_none h'
    simp [World.cell?, this] at h
theorem open_set4 {H : Type} {enc : TypeId × Value → H} {W : World} {fuel : Nat} {c0 c1 c2 c3 : Value} {x : DataW H × List MemPlace} (hf : DataW.trod enc Try.prog W 0 (fun _ => true) true fuel 40 [c0, c1, c2, c3] = some x) :
    ∃ s : z1_S, c0 = .int .u64 (z1_wd s 0) ∧ c1 = .int .u64 (z1_wd s 1) ∧ c2 = .int .u64 (z1_wd s 2) ∧ c3 = .int .u64 (z1_wd s 3) := by
  obtain ⟨y0, y1, y2, y3, m, hx, hy0, hy1, hy2, hy3⟩ := trod_array4 u_set o_u64 hf
  obtain ⟨x0, e0, _, w0⟩ := DataW.trod_int Try.underlying38 hy0
  obtain ⟨x1, e1, _, w1⟩ := DataW.trod_int Try.underlying38 hy1
  obtain ⟨x2, e2, _, w2⟩ := DataW.trod_int Try.underlying38 hy2
  obtain ⟨x3, e3, _, w3⟩ := DataW.trod_int Try.underlying38 hy3
  simp at e0 e1 e2 e3
  subst e0 e1 e2 e3
  have r0 := u64_of_wf w0
  have r1 := u64_of_wf w1
  have r2 := u64_of_wf w2
  have r3 := u64_of_wf w3
  obtain ⟨s, g0, g1, g2, g3⟩ := z1_wd_of x0 x1 x2 x3 r0.1 r0.2 r1.1 r1.2 r2.1 r2.2 r3.1 r3.2
  exact ⟨s, by rw [g0], by rw [g1], by rw [g2], by rw [g3]⟩
set_option maxRecDepth 100000 in
theorem open_inst {H : Type} {enc : TypeId × Value → H} {W : World} {fuel : Nat} {cs : List Value} {x : DataW H × List MemPlace} (hl : cs.length = 10) (hf : DataW.trod enc Try.prog W 0 (fun _ => true) true fuel 42 cs = some x) : ∃ i : Ins, cs = inC i := by
  obtain ⟨xs, k, hk, hxy, _, hxl, hf⟩ := DataW.trod_struct Try.underlying42 hf
  clear hxy
  match xs, hxl, cs, hl, hf with
  | [y0, y1, y2, y3, y4, y5, y6], _, [v0, v1, v2, v3, v4, v5, v6, v7, v8, v9], _, hf =>
    have F0 := hf 0 _ rfl
    have F1 := hf 1 _ rfl
    have F2 := hf 2 _ rfl
    have F3 := hf 3 _ rfl
    have F4 := hf 4 _ rfl
    have F5 := hf 5 _ rfl
    have F6 := hf 6 _ rfl
    simp [o_int, o_set] at F0 F1 F2 F3 F4 F5 F6
    obtain ⟨x0, e0, _, w0⟩ := DataW.trod_int Try.underlying3 F0
    obtain ⟨x1, e1, _, w1⟩ := DataW.trod_int Try.underlying3 F1
    obtain ⟨x2, e2, _, w2⟩ := DataW.trod_int Try.underlying3 F2
    obtain ⟨x3, e3, _, w3⟩ := DataW.trod_int Try.underlying3 F3
    obtain ⟨x4, e4, _, w4⟩ := DataW.trod_int Try.underlying3 F4
    obtain ⟨x5, e5, _, w5⟩ := DataW.trod_int Try.underlying3 F5
    obtain ⟨s, g0, g1, g2, g3⟩ := open_set4 F6
    cases e0; cases e1; cases e2; cases e3; cases e4; cases e5
    subst g0 g1 g2 g3
    exact ⟨⟨x0, x1, x2, x3, x4, x5, s⟩, rfl⟩
set_option maxRecDepth 100000 in
theorem open_insts {H : Type} {enc : TypeId × Value → H} {W : World} {fuel : Nat} {v : Value} {d : DataW H} {p : List MemPlace} (hf : DataW.trod enc Try.prog W 0 (fun _ => true) true fuel 22 [v] = some (d, p))
    (hw : ∀ n ∈ d.weights Try.prog 22, n ≤ reachBytes) : ∃ (q : Option Addr) (L : List Ins) (c : Nat), v = .slice q L.length c ∧ LI W q L ∧ L.length * 80 ≤ reachBytes ∧ L.length ≤ 9223372036854775807 ∧ (q = none → c = 0) := by
  have hR : reachBytes = 140737488351232 := by decide
  rcases Deep.open_slice Try.underlying22 hf with ⟨h1, h2⟩ | ⟨a, len, cap, m, n, D, Pl, h1, _, hlc, hcap, hm, h2, hx⟩
  · cases h1
    exact ⟨none, [], 0, rfl, fun j i h => by simp at h, by simp, by simp, fun _ => rfl⟩
  · cases h1
    rw [if_pos rfl] at hm
    subst hm
    have hde : d = .slice ((List.range len).map D) ((List.range (m - len)).map fun j => D (len + j)) := (Prod.mk.inj h2).1
    have h3 := hw ((len + (m - len)) * 80) (by rw [hde]; simp [DataW.weights, Try.underlying22, b_inst])
    have each : ∀ i, i < len → ∃ x : Ins, ∀ j v, (inC x)[j]? = some v → W.cell? (a.add (i * 10 + j)) = some v := by
      intro i hi
      obtain ⟨cs', g1, g2⟩ := hx i (by omega)
      rw [o_inst] at g1
      obtain ⟨_, hlen, hcell⟩ := World.cells?_some g1
      obtain ⟨x, rfl⟩ := open_inst hlen g2
      refine ⟨x, fun j v hj => ?_⟩
      have hjl : j < 10 := by have := (List.getElem?_eq_some_iff.1 hj).1; rw [inC_len] at this; exact this
      have := hcell j hjl
      rw [Deep.add_add] at this
      rw [this]
      exact hj
    by_cases hl : len = 0
    · subst hl
      exact ⟨some a, [], m, rfl, fun j i h => by simp at h, by simp, by simp, fun h => by cases h⟩
    · have : Inhabited Ins := ⟨⟨0, 0, 0, 0, 0, 0, 0⟩⟩
      obtain ⟨q, hq⟩ := Deep.choose_lt each
      obtain ⟨b, off, spot⟩ := a
      have c0 := hq 0 (by omega) 0 _ rfl
      have hs : spot = none := by
        cases spot with
        | none => rfl
        | some k =>
          exfalso
          unfold Addr.add World.cell? at c0
          simp at c0
          split at c0 <;> simp_all
      subst hs
      have hadd : ∀ j, (⟨b, off, none⟩ : Addr).add j = ⟨b, off + j, none⟩ := fun j => by unfold Addr.add; split <;> simp_all
      have hb : b < W.heap.size := by
        rw [hadd] at c0
        exact cell_blk c0
      refine ⟨some ⟨b, off, none⟩, (List.range len).map q, m, by simp, fun j i hi => ⟨b, off, rfl, hb, ?_⟩, by simp; omega, by simp; omega, fun h => by cases h⟩
      have hil : j < len := by have := (List.getElem?_eq_some_iff.1 hi).1; simpa using this
      have hqi : q j = i := by simpa [hil] using hi
      have hh := hq j hil
      rw [hqi] at hh
      simp only [hadd] at hh
      simp only [← Nat.add_assoc] at hh
      exact hh
set_option maxRecDepth 100000 in
theorem open_prog {H : Type} {enc : TypeId × Value → H} {W : World} {base : Nat} {v : Value} {d : DataW H} {p : List MemPlace} (hok : Value.okWide Try.prog W .any base 24 v)
    (h : DataW.Trod enc Try.prog W 0 (fun _ => true) true 24 v d p) (hw : ∀ n ∈ d.weights Try.prog 24, n ≤ reachBytes) : ∃ x : Pg, v = .agg #[.slice x.q x.L.length x.c, .int .i64 x.g, .int .i64 x.k, .bool x.f] ∧ PgI W x ∧ x.L.length * 80 ≤ reachBytes ∧ (x.q = none → x.c = 0) := by
  obtain ⟨cs, rfl, hsz⟩ := okWide_struct Try.underlying24 hok
  rw [o_prog] at hsz
  obtain ⟨l⟩ := cs
  obtain ⟨fuel, hf⟩ := h
  obtain ⟨xs, k, hk, hxy, _, hxl, hf⟩ := DataW.trod_struct Try.underlying24 hf
  have hD : d = .agg (xs.map (·.1)) := (Prod.mk.inj hxy).1
  rw [hD] at hw
  simp only [DataW.weights, Try.underlying24] at hw
  clear hD hxy
  match xs, hxl, l, hsz, hf, hw with
  | [y0, y1, y2, y3], _, [v0, v1, v2, v3], _, hf, hw =>
    have F0 := hf 0 _ rfl
    have F1 := hf 1 _ rfl
    have F2 := hf 2 _ rfl
    have F3 := hf 3 _ rfl
    simp [Value.cells, o_int, o_bool, o_insts] at F0 F1 F2 F3
    obtain ⟨x1, e1, _, w1⟩ := DataW.trod_int Try.underlying3 F1
    obtain ⟨x2, e2, _, w2⟩ := DataW.trod_int Try.underlying3 F2
    obtain ⟨b3, e3, _⟩ := DataW.trod_bool Try.underlying4 F3
    obtain ⟨d0, p0⟩ := y0
    obtain ⟨q, L, c, rfl, hL, hr, hm, hc⟩ := open_insts F0 (fun n hn => hw n (DataW.weights_mem_each (j := 0) (t := 22) rfl rfl n hn))
    cases e1; cases e2; cases e3
    exact ⟨⟨q, L, c, x1, x2, b3⟩, rfl, ⟨hm, hL⟩, hr, hc⟩
end Go.Proofs.Ytbghleihgcenmaa
