/-
  Parts of the proof.
-/
import Derived.Test.YtbghleihgcenmaaC19
set_option linter.unusedSimpArgs false
namespace Go.Proofs.Ytbghleihgcenmaa
open Go Go.RowKit
attribute [local go_sem] Oper.semAt_some
def aN : z1_S := 1#256 <<< 97
theorem aN_w : z1_wd aN 0 = 0 ∧ z1_wd aN 1 = 8589934592 ∧ z1_wd aN 2 = 0 ∧ z1_wd aN 3 = 0 := by decide +kernel
theorem nN_w : z1_wd (0#256) 0 = 0 ∧ z1_wd (0#256) 1 = 0 ∧ z1_wd (0#256) 2 = 0 ∧ z1_wd (0#256) 3 = 0 := by decide +kernel
def smN : List Ins := [⟨2, 1, 3, 0, 0, 0, 0#256⟩, ⟨1, 0, 0, 0, 0, 0, aN⟩, ⟨3, 0, 0, 0, 0, 0, 0#256⟩, ⟨11, 0, 0, 0, 0, 0, 0#256⟩]
def twN : List Ins := [⟨1, 0, 0, 0, 0, 0, aN⟩, ⟨11, 0, 0, 0, 0, 0, 0#256⟩]
abbrev lpA : Array Value := #[.int .i64 2, .int .i64 1, .int .i64 3, .int .i64 0, .int .i64 0, .int .i64 0, .int .u64 0, .int .u64 0, .int .u64 0, .int .u64 0, .int .i64 1, .int .i64 0, .int .i64 0, .int .i64 0, .int .i64 0, .int .i64 0, .int .u64 0, .int .u64 8589934592, .int .u64 0, .int .u64 0, .int .i64 3, .int .i64 0, .int .i64 0, .int .i64 0, .int .i64 0, .int .i64 0, .int .u64 0, .int .u64 0, .int .u64 0, .int .u64 0, .int .i64 11, .int .i64 0, .int .i64 0, .int .i64 0, .int .i64 0, .int .i64 0, .int .u64 0, .int .u64 0, .int .u64 0, .int .u64 0]
theorem li_block {w : World} {g o : Nat} {cur : Array Value} {L : List Ins} (h : w.heap[g]? = some (.cells cur 42 (0, 0))) (hc : ∀ (j : Nat) (i : Ins), L[j]? = some i → ∀ (m : Nat) (v : Value), (inC i)[m]? = some v → cur[o + j * 10 + m]? = some v) : LI w (some ⟨g, o, none⟩) L := fun j i hi => by
  refine ⟨g, o, rfl, lt_of_heap h, fun m v hm => ?_⟩
  have := hc j i hi m v hm
  simp [World.cell?, h, this]
theorem inC_at {i : Ins} {m : Nat} {v : Value} (hm : (inC i)[m]? = some v) {P : Nat → Value → Prop} (h0 : P 0 (.int .i64 i.op)) (h1 : P 1 (.int .i64 i.x)) (h2 : P 2 (.int .i64 i.y)) (h3 : P 3 (.int .i64 i.n)) (h4 : P 4 (.int .i64 i.mn)) (h5 : P 5 (.int .i64 i.mx)) (h6 : P 6 (.int .u64 (z1_wd i.s 0))) (h7 : P 7 (.int .u64 (z1_wd i.s 1))) (h8 : P 8 (.int .u64 (z1_wd i.s 2))) (h9 : P 9 (.int .u64 (z1_wd i.s 3))) : P m v := by
  have hm10 : m < 10 := by have := (List.getElem?_eq_some_iff.1 hm).1; rwa [inC_len] at this
  match m, hm10, hm with
  | 0, _, hm => cases hm; exact h0
  | 1, _, hm => cases hm; exact h1
  | 2, _, hm => cases hm; exact h2
  | 3, _, hm => cases hm; exact h3
  | 4, _, hm => cases hm; exact h4
  | 5, _, hm => cases hm; exact h5
  | 6, _, hm => cases hm; exact h6
  | 7, _, hm => cases hm; exact h7
  | 8, _, hm => cases hm; exact h8
  | 9, _, hm => cases hm; exact h9
theorem li_lp {w : World} {g : Nat} (h : w.heap[g]? = some (.cells lpA 42 (0, 0))) : LI w (some ⟨g, 0, none⟩) smN := li_block h fun j i hi m v hm => by
  have hj : j < 4 := (List.getElem?_eq_some_iff.1 hi).1
  obtain ⟨a0, a1, a2, a3⟩ := aN_w
  obtain ⟨n0, n1, n2, n3⟩ := nN_w
  match j, hj, hi with
  | 0, _, hi => cases hi; refine inC_at (P := fun m v => lpA[0 + 0 * 10 + m]? = some v) hm ?_ ?_ ?_ ?_ ?_ ?_ ?_ ?_ ?_ ?_ <;> simp [a0, a1, a2, a3, n0, n1, n2, n3]
  | 1, _, hi => cases hi; refine inC_at (P := fun m v => lpA[0 + 1 * 10 + m]? = some v) hm ?_ ?_ ?_ ?_ ?_ ?_ ?_ ?_ ?_ ?_ <;> simp [a0, a1, a2, a3, n0, n1, n2, n3]
  | 2, _, hi => cases hi; refine inC_at (P := fun m v => lpA[0 + 2 * 10 + m]? = some v) hm ?_ ?_ ?_ ?_ ?_ ?_ ?_ ?_ ?_ ?_ <;> simp [a0, a1, a2, a3, n0, n1, n2, n3]
  | 3, _, hi => cases hi; refine inC_at (P := fun m v => lpA[0 + 3 * 10 + m]? = some v) hm ?_ ?_ ?_ ?_ ?_ ?_ ?_ ?_ ?_ ?_ <;> simp [a0, a1, a2, a3, n0, n1, n2, n3]
set_option maxRecDepth 100000 in
set_option maxHeartbeats 4000000 in
theorem loop_c (w : World) : Calls Try.prog 11 #[] w fun e w' => ∃ g, e = .returned (.agg #[.slice (some ⟨g, 0, none⟩) 4 4, .int .i64 0, .int .i64 0, .bool false]) ∧ w'.heap[g]? = some (.cells lpA 42 (0, 0)) ∧ w.heap.size ≤ g ∧ Below w.heap.size w w' := by
  go_enter Try.func11, Try.ntmps11
  go_wp2
  refine bodyPost_ret (v := .agg #[.slice (some ⟨w.heap.size + 1 + 1, 0, none⟩) 4 4, .int .i64 0, .int .i64 0, .bool false]) (by simp [results, Try.results11, go_sem]) rfl ?_
  refine ⟨_, rfl, ?_, by omega, (((Below.refl _ _).alloc (Nat.le_refl _) _).alloc (by simp) _).alloc (by simp; omega) _⟩
  have := alloc_new ((w.alloc (.cells #[.slice (some ⟨w.heap.size + 1 + 1, 0, none⟩) 4 4, .int .i64 0, .int .i64 0, .bool false] 24)).alloc (.cells #[.int .u64 0, .int .u64 8589934592, .int .u64 0, .int .u64 0] 40)) (.cells lpA 42)
  rw [World.size_alloc, World.size_alloc] at this
  exact this
theorem rt_smN (q : Option Addr) (c : Nat) : rtE ⟨q, smN, c, 0, 0, false⟩ = (0, 0) := by kernel_rfl
theorem rt_twN (q : Option Addr) (c : Nat) : rtE ⟨q, twN, c, 0, 0, false⟩ = (0, 0) := by kernel_rfl
theorem fr_smN (q : Option Addr) (c : Nat) : freeB ⟨q, smN, c, 0, 0, false⟩ = true := by kernel_rfl
theorem fr_twN (q : Option Addr) (c : Nat) : freeB ⟨q, twN, c, 0, 0, false⟩ = true := by kernel_rfl
theorem sm_byte {a : Nat} {i : Ins} (h : smN[a]? = some i) (ho : i.op = 1) : a = 1 ∧ i.s = aN := by
  have hj : a < 4 := (List.getElem?_eq_some_iff.1 h).1
  match a, hj, h with
  | 0, _, h => cases h; exact absurd ho (by decide)
  | 1, _, h => cases h; exact ⟨rfl, rfl⟩
  | 2, _, h => cases h; exact absurd ho (by decide)
  | 3, _, h => cases h; exact absurd ho (by decide)
theorem aN_97 : z1_shas aN 97 = true := by decide +kernel
theorem aN_98 : z1_shas aN 98 = false := by decide +kernel
theorem lg_sm {n : Int} {ok : Bool} (h : LgS smN [97, 97, 98] 0 n ok) : n = 2 ∧ ok = true := by
  have r0 : Rc smN [97, 97, 98] 0 0 0 := Rc.start
  have r1 : Rc smN [97, 97, 98] 0 0 1 := r0.eps (i := ⟨2, 1, 3, 0, 0, 0, 0#256⟩) rfl (by decide)
  have r2 : Rc smN [97, 97, 98] 0 1 2 := r1.byte (i := ⟨1, 0, 0, 0, 0, 0, aN⟩) (c := 97) rfl rfl rfl aN_97
  have r3 : Rc smN [97, 97, 98] 0 1 0 := r2.eps (i := ⟨3, 0, 0, 0, 0, 0, 0#256⟩) rfl (by decide)
  have r4 : Rc smN [97, 97, 98] 0 1 1 := r3.eps (i := ⟨2, 1, 3, 0, 0, 0, 0#256⟩) rfl (by decide)
  have r5 : Rc smN [97, 97, 98] 0 2 2 := r4.byte (i := ⟨1, 0, 0, 0, 0, 0, aN⟩) (c := 97) rfl rfl rfl aN_97
  have r6 : Rc smN [97, 97, 98] 0 2 0 := r5.eps (i := ⟨3, 0, 0, 0, 0, 0, 0#256⟩) rfl (by decide)
  have r7 : Rc smN [97, 97, 98] 0 2 3 := r6.eps (i := ⟨2, 1, 3, 0, 0, 0, 0#256⟩) rfl (by decide)
  have m2 : Mt smN [97, 97, 98] 0 2 := ⟨3, ⟨11, 0, 0, 0, 0, 0, 0#256⟩, r7, rfl, rfl⟩
  have up : ∀ e, Mt smN [97, 97, 98] 0 e → e ≤ 2 := fun e ⟨a, i, hr, _, _⟩ => by
    refine hr.ind (Q := fun pl _ => pl ≤ 2) (by omega) (fun _ _ _ _ _ q _ _ => q) (fun pl a i c _ q hi ho hc hs => ?_)
    rcases Nat.lt_or_eq_of_le q with q | rfl
    · omega
    · obtain ⟨_, hs'⟩ := sm_byte hi ho
      cases hc
      rw [hs'] at hs
      exact absurd (aN_98.symm.trans hs) (by decide)
  rcases h with ⟨rfl, _, h⟩ | ⟨rfl, e, rfl, h1, h2⟩
  · exact absurd m2 (h 2)
  · have := up e h1
    have := h2 2 m2
    exact ⟨by omega, rfl⟩
theorem tw_at {b pl : Nat} {a : Int} (h : Rc twN [98, 97, 98] b pl a) : (pl = b ∧ a = 0) ∨ (b = 1 ∧ pl = 2 ∧ a = 1) := by
  refine h.ind (Q := fun pl a => (pl = b ∧ a = 0) ∨ (b = 1 ∧ pl = 2 ∧ a = 1)) (.inl ⟨rfl, rfl⟩) (fun pl a i x _ q hi hx => ?_) (fun pl a i c _ q hi ho hc hs => ?_)
  · rcases q with ⟨_, rfl⟩ | ⟨_, _, rfl⟩
    · cases hi
      cases hx
    · cases hi
      cases hx
  · rcases q with ⟨rfl, rfl⟩ | ⟨_, _, rfl⟩
    · cases hi
      have hpl : pl < 3 := (List.getElem?_eq_some_iff.1 hc).1
      match pl, hpl, hc with
      | 0, _, hc => cases hc; exact absurd (aN_98.symm.trans hs) (by decide)
      | 1, _, _ => exact .inr ⟨rfl, rfl, rfl⟩
      | 2, _, hc => cases hc; exact absurd (aN_98.symm.trans hs) (by decide)
    · cases hi
      exact absurd ho (by decide)
theorem tw_mt {b e : Nat} (h : Mt twN [98, 97, 98] b e) : b = 1 ∧ e = 2 := by
  obtain ⟨a, i, hr, hi, ho⟩ := h
  rcases tw_at hr with ⟨_, rfl⟩ | ⟨h1, h2, _⟩
  · cases hi
    exact absurd ho (by decide)
  · exact ⟨h1, h2⟩
theorem tw_m : Mt twN [98, 97, 98] 1 2 := by
  have r0 : Rc twN [98, 97, 98] 1 1 0 := Rc.start
  have r1 : Rc twN [98, 97, 98] 1 2 1 := r0.byte (i := ⟨1, 0, 0, 0, 0, 0, aN⟩) (c := 97) rfl rfl rfl aN_97
  exact ⟨1, ⟨11, 0, 0, 0, 0, 0, 0#256⟩, r1, rfl, rfl⟩
theorem fi_tw {F T : Int} {ok : Bool} (h : FinM twN [98, 97, 98] 0 3 ok F T) : F = 1 ∧ T = 2 ∧ ok = true := by
  cases ok with
  | false => exact absurd tw_m (h.no rfl 1 2 (by omega) (by omega))
  | true =>
    obtain ⟨b, e, q1, q2, _, _, q5, _⟩ := h.yes rfl
    obtain ⟨rfl, rfl⟩ := tw_mt q5
    exact ⟨q1, q2, rfl⟩
theorem fi_tw2 {F T : Int} {ok : Bool} (h : FinM twN [98, 97, 98] 2 3 ok F T) : F = 0 ∧ T = 0 ∧ ok = false := by
  cases ok with
  | false => exact ⟨(h.z rfl).1, (h.z rfl).2, rfl⟩
  | true =>
    obtain ⟨b, e, q1, q2, q3, _, q5, _⟩ := h.yes rfl
    obtain ⟨rfl, rfl⟩ := tw_mt q5
    omega
theorem eqIn_span (n : Nat) (a0 a1 b0 b1 : Int) (w : World) : (Op.equalIn (n + 2) 30 (.agg #[.int .i64 a0, .int .i64 a1]) (.agg #[.int .i64 b0, .int .i64 b1])).run Try.prog w = .ok (a0 == b0 && a1 == b1) w := by
  have u3 := Try.underlying3
  have a3' := Try.isAgg3
  have z3 := Try.sizeOf3
  have hS : Try.prog.underlying 30 = some (.struct (Try.prog.fieldsOf 30)) := by kernel_rfl
  have hp : Try.prog.stoodInHeld 30 = false := by kernel_rfl
  rw [show n + 2 = (n + 1) + 1 from rfl, run_equalIn_agg w (n + 1) 30 _ _ hS hp]
  simp only [Program.fieldsOf, Try.underlying30]
  go_simp
  clear hS hp u3 a3' z3
  by_cases h0 : a0 = b0 <;> by_cases h1 : a1 = b1 <;> simp [h0, h1]
theorem eqg_span : Try.prog.eqGuardType Try.prog.depth 30 = false := by kernel_rfl
theorem eq_span (a0 a1 b0 b1 : Int) (w : World) : (binOp .eql 30 (.agg #[.int .i64 a0, .int .i64 a1]) (.agg #[.int .i64 b0, .int .i64 b1])).run Try.prog w = .ok (.bool (a0 == b0 && a1 == b1)) w := by
  have e' : (Op.equal 30 (.agg #[.int .i64 a0, .int .i64 a1]) (.agg #[.int .i64 b0, .int .i64 b1])).run Try.prog w = .ok (a0 == b0 && a1 == b1) w := eqIn_span 9998 _ _ _ _ w
  simp only [binOp]
  simp [e']
theorem neq_span (a0 a1 b0 b1 : Int) (w : World) : (binOp .neq 30 (.agg #[.int .i64 a0, .int .i64 a1]) (.agg #[.int .i64 b0, .int .i64 b1])).run Try.prog w = .ok (.bool (!(a0 == b0 && a1 == b1))) w := by
  have e' : (Op.equal 30 (.agg #[.int .i64 a0, .int .i64 a1]) (.agg #[.int .i64 b0, .int .i64 b1])).run Try.prog w = .ok (a0 == b0 && a1 == b1) w := eqIn_span 9998 _ _ _ _ w
  simp only [binOp]
  simp [e']
end Go.Proofs.Ytbghleihgcenmaa
