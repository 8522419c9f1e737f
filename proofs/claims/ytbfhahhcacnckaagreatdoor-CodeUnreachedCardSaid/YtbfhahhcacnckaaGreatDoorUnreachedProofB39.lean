/-
  Parts of the proof.
-/
import Derived.Test.YtbfhahhcacnckaaGreatDoorUnreachedProofB28
import Derived.Test.YtbfhahhcacnckaaGreatDoorUnreachedProofB29
import Derived.Test.YtbfhahhcacnckaaGreatDoorUnreachedProofB31
import Derived.Test.YtbfhahhcacnckaaGreatDoorUnreachedProofB38
import Derived.Test.YtbfhahhcacnckaaGreatDoorUnreachedProofB37
import Derived.Laws.CopyOwn
set_option linter.unusedSimpArgs false
namespace Go.Proofs.YtbfhahhcacnckaaGreatDoor
open Go Go.RowKit
attribute [local go_sem] Oper.semAt_some ext_cell
theorem pg_own {w : World} {base g c n : Nat} {M : List Ins} {f : Bool} (h : w.ownsRow base 35 10 (.slice (some ⟨g, 0, none⟩) n c) n (ceI14 M)) : PgI w ⟨some ⟨g, 0, none⟩, M, c, 2, 2, f⟩ := by
  refine ⟨?_, LI.of_row h⟩
  have hl := h.1
  rw [ceI14_len] at hl
  rcases h.2 with ⟨_, hz⟩ | ⟨_, cap, _, hv, _, _, h3, h4, _⟩
  · show M.length ≤ _
    omega
  · show M.length ≤ _
    unfold maxLen at h4
    omega
theorem own_len {w : World} {base g c n : Nat} {M : List Ins} (h : w.ownsRow base 35 10 (.slice (some ⟨g, 0, none⟩) n c) n (ceI14 M)) : M.length = n := by
  have hl := h.1
  rw [ceI14_len] at hl
  omega
theorem own_kept {w w' : World} {base : Nat} {t : TypeId} {s n : Nat} {v : Value} {xs : List Value} (h : w.ownsRow base t s v n xs) (hb : Below w.heap.size w w') : w'.ownsRow base t s v n xs := ownsRow_fr h (Fr.of_below (S := fun _ => False) hb) (fun _ _ e => e)
structure MB (n0 : Nat) (W : World) (b g c : Nat) (M : List Ins) (f : Bool) : Prop where
  box : W.heap[b]? = some (.cells #[.slice (some ⟨g, 0, none⟩) M.length c, .int .i64 2, .int .i64 2, .bool f] 24 (0, 0))
  own : W.ownsRow n0 35 10 (.slice (some ⟨g, 0, none⟩) M.length c) M.length (ceI14 M)
  lb : n0 ≤ b
theorem MB.kept {n0 : Nat} {W W' : World} {b g c : Nat} {M : List Ins} {f : Bool} (h : MB n0 W b g c M f) (hb : Below W.heap.size W W') : MB n0 W' b g c M f := ⟨(hb.block _ (lt_of_heap h.box)).trans h.box, own_kept h.own hb, h.lb⟩
theorem MB.pg {n0 : Nat} {W : World} {b g c : Nat} {M : List Ins} {f : Bool} (h : MB n0 W b g c M f) : PgI W ⟨some ⟨g, 0, none⟩, M, c, 2, 2, f⟩ := pg_own h.own
theorem MB.fr {n0 : Nat} {W W' : World} {b g c j : Nat} {M : List Ins} {f : Bool} {i : Ins} (h : MB n0 W b g c M f) (ho : W'.ownsRow n0 35 10 (.slice (some ⟨g, 0, none⟩) M.length c) M.length (ceI14 (M.set j i))) (hf : Fr (At1 g) W W') : MB n0 W' b g c (M.set j i) f := by
  refine ⟨?_, ?_, h.lb⟩
  · rw [List.length_set]
    exact (hf.block _ (lt_of_heap h.box) (fun e => ownsRow_not h.own h.box (by decide) (by rw [show b = g from e]; rfl))).trans h.box
  · rw [List.length_set]
    exact ho
theorem MB.new {n0 : Nat} {W : World} {g c : Nat} {M : List Ins} {f : Bool} (h : W.ownsRow n0 35 10 (.slice (some ⟨g, 0, none⟩) M.length c) M.length (ceI14 M)) (hn : n0 ≤ W.heap.size) : MB n0 (W.alloc (.cells #[.slice (some ⟨g, 0, none⟩) M.length c, .int .i64 2, .int .i64 2, .bool f] 24)) W.heap.size g c M f := ⟨alloc_new W _, World.ownsRow.alloc h _, hn⟩
theorem MB.gle {n0 : Nat} {W : World} {b g c : Nat} {M : List Ins} {f : Bool} (h : MB n0 W b g c M f) : n0 ≤ g ∧ g < W.heap.size ∧ g ≠ b := ⟨(own_ten h.own).2.1, (own_ten h.own).1, fun e => ownsRow_not h.own h.box (by decide) (by rw [← e]; rfl)⟩
abbrev tenW (W : World) (g o : Nat) (i : Ins) : World := (((((((((W.setCell ⟨g, o, none⟩ (.int .i64 i.op)).setCell ⟨g, o + 1, none⟩ (.int .i64 i.x)).setCell ⟨g, o + 2, none⟩ (.int .i64 i.y)).setCell ⟨g, o + 3, none⟩ (.int .i64 i.n)).setCell ⟨g, o + 4, none⟩ (.int .i64 i.mn)).setCell ⟨g, o + 5, none⟩ (.int .i64 i.mx)).setCell ⟨g, o + 6, none⟩ (.int .u64 (z1_wd i.s 0))).setCell ⟨g, o + 7, none⟩ (.int .u64 (z1_wd i.s 1))).setCell ⟨g, o + 8, none⟩ (.int .u64 (z1_wd i.s 2))).setCell ⟨g, o + 9, none⟩ (.int .u64 (z1_wd i.s 3))
theorem tenW_set (W : World) (g o : Nat) (i : Ins) : tenW W g o i = W.setCells g o (inC i) := by simp [World.setCells, inC]
theorem MB.ten {n0 : Nat} {W : World} {b g c m : Nat} {M : List Ins} {f : Bool} (h : MB n0 W b g c M f) (hm : m < M.length) (i : Ins) : MB n0 (tenW W g (m * 10) i) b g c (M.set m i) f ∧ Fr (At1 g) W (tenW W g (m * 10) i) := by
  rw [tenW_set]
  exact ⟨h.fr (own_set h.own hm i) (setA_fr g (inC i) (m * 10) W), setA_fr g (inC i) (m * 10) W⟩
end Go.Proofs.YtbfhahhcacnckaaGreatDoor
namespace Go.Proofs.YtbfhahhcacnckaaGreatDoor
open Go Go.RowKit
structure Bd (n : Nat) (L : List Int) : Prop where
  nd : L.Nodup
  bd : ∀ x ∈ L, 0 ≤ x ∧ x < (n : Int)
theorem Bd.len {n : Nat} {L : List Int} (h : Bd n L) : L.length ≤ n := by
  have h2 := pig n (L.map Int.toNat) ?_ (fun x hx => by
    obtain ⟨y, hy, rfl⟩ := List.mem_map.1 hx
    have := h.bd y hy
    omega)
  · simpa using h2
  · refine List.pairwise_map.2 (h.nd.imp_of_mem fun {a b} ha hb hne e => hne ?_)
    have := h.bd a ha
    have := h.bd b hb
    omega
theorem putL_pre (n : Nat) (L : List Int) (x : Int) : L <+: putL n L x := by
  unfold putL
  split
  · exact List.prefix_append _ _
  · exact List.prefix_refl _
theorem puts_pre (n : Nat) : ∀ (xs L : List Int), L <+: puts n L xs
  | [], L => List.prefix_refl L
  | x :: r, L => (putL_pre n L x).trans (puts_pre n r (putL n L x))
theorem Bd.put {n : Nat} {L : List Int} (h : Bd n L) (x : Int) : Bd n (putL n L x) := by
  unfold putL
  split
  · rename_i hx
    refine ⟨List.nodup_append.2 ⟨h.nd, by simp, fun a ha b hb e => ?_⟩, fun y hy => ?_⟩
    · have := List.mem_singleton.1 hb
      subst this
      subst e
      exact hx.2.2 ha
    · rcases List.mem_append.1 hy with hy | hy
      · exact h.bd y hy
      · obtain rfl := List.mem_singleton.1 hy
        exact ⟨hx.1, hx.2.1⟩
  · exact h
theorem bd_puts {n : Nat} : ∀ (xs L : List Int), Bd n L → Bd n (puts n L xs)
  | [], _, h => h
  | x :: r, L, h => by
    rw [puts_one]
    exact bd_puts r (putL n L x) (h.put x)
theorem putL_in {n : Nat} {L : List Int} {x : Int} (h0 : 0 ≤ x) (h1 : x < n) : x ∈ putL n L x := by
  unfold putL
  split
  · simp
  · rename_i h
    exact Classical.byContradiction fun hx => h ⟨h0, h1, hx⟩
theorem puts_in {n : Nat} : ∀ {xs L : List Int} {y : Int}, y ∈ xs → 0 ≤ y → y < n → y ∈ puts n L xs
  | x :: r, L, y, h, h0, h1 => by
    rcases List.mem_cons.1 h with rfl | h
    · exact (puts_pre n r (putL n L y)).subset (putL_in h0 h1)
    · rw [puts_one]
      exact puts_in h h0 h1
theorem rcL_pre (p : Pg) : ∀ (f k : Nat) (L : List Int), L <+: rcL p f k L
  | 0, _, L => List.prefix_refl L
  | f + 1, k, L => by
    unfold rcL
    split
    · exact List.prefix_refl L
    · split
      · exact List.prefix_refl L
      · exact (puts_pre _ _ _).trans (rcL_pre p f _ _)
theorem rcL_bd (p : Pg) : ∀ (f k : Nat) (L : List Int), Bd p.L.length L → Bd p.L.length (rcL p f k L)
  | 0, _, _, h => h
  | f + 1, k, L, h => by
    unfold rcL
    split
    · exact h
    · split
      · exact h
      · exact rcL_bd p f _ _ (bd_puts _ _ h)
def Cls (p : Pg) (R : List Int) (a : Int) : Prop := ∀ i, p.L[a.toNat]? = some i → ∀ y ∈ ldI i a, 0 ≤ y → y < (p.L.length : Int) → y ∈ R
theorem rcL_cls (p : Pg) : ∀ (f k : Nat) (L : List Int), Bd p.L.length L → p.L.length + 1 ≤ f + k → (∀ j a, j < k → L[j]? = some a → Cls p L a) → ∀ a ∈ rcL p f k L, Cls p (rcL p f k L) a
  | 0, k, L, hb, hf, hc, a, ha => by
    obtain ⟨j, hj⟩ := List.getElem?_of_mem (show a ∈ L from ha)
    have hl := hb.len
    have hjl := (List.getElem?_eq_some_iff.1 hj).1
    exact hc j a (by omega) hj
  | f + 1, k, L, hb, hf, hc, a, ha => by
    unfold rcL at ha ⊢
    split at ha
    · rename_i hk
      obtain ⟨j, hj⟩ := List.getElem?_of_mem ha
      have hjl := (List.getElem?_eq_some_iff.1 hj).1
      have hkl := List.getElem?_eq_none_iff.1 hk
      exact hc j a (by omega) hj
    · rename_i b hk
      have hbb := hb.bd b (List.mem_of_getElem? hk)
      obtain ⟨i, hi⟩ : ∃ i, p.L[b.toNat]? = some i := ⟨_, List.getElem?_eq_getElem (by omega)⟩
      simp only [hi] at ha ⊢
      refine rcL_cls p f (k + 1) _ (bd_puts _ _ hb) (by omega) (fun j x hj hx => ?_) a ha
      have hkl := (List.getElem?_eq_some_iff.1 hk).1
      have hpre := puts_pre p.L.length (ldI i b) L
      obtain ⟨t, ht⟩ := hpre
      have hx2 : L[j]? = some x := by
        rw [← ht, List.getElem?_append_left (by omega)] at hx
        exact hx
      by_cases hjk : j < k
      · intro i' hi' y hy h0 h1
        rw [← ht]
        exact List.mem_append_left _ (hc j x hjk hx2 i' hi' y hy h0 h1)
      · obtain rfl : j = k := by omega
        rw [hk] at hx2
        obtain rfl := Option.some.inj hx2
        intro i' hi' y hy h0 h1
        rw [hi] at hi'
        obtain rfl := Option.some.inj hi'
        exact puts_in hy h0 h1
theorem rcL_agr {p q : Pg} (hl : p.L.length = q.L.length) : ∀ (f k : Nat) (L : List Int), (∀ a ∈ rcL p f k L, q.L[a.toNat]? = p.L[a.toNat]?) → rcL q f k L = rcL p f k L
  | 0, _, _, _ => rfl
  | f + 1, k, L, h => by
    have hpre := (rcL_pre p (f + 1) k L).subset
    rw [rcL, rcL]
    rw [rcL] at h hpre
    cases hk : L[k]? with
    | none => rfl
    | some b =>
      simp only [hk] at h hpre ⊢
      have hb := h b (hpre (List.mem_of_getElem? hk))
      rw [hb]
      cases hi : p.L[b.toNat]? with
      | none => rfl
      | some i =>
        simp only [hi] at h ⊢
        rw [← hl]
        exact rcL_agr hl f (k + 1) _ h
theorem rcM_bd {p : Pg} (h : p.L ≠ []) : Bd p.L.length (rcM p) := rcL_bd p _ _ _ ⟨by simp, fun x hx => by
  obtain rfl := List.mem_singleton.1 hx
  have := List.length_pos_iff.2 h
  omega⟩
theorem rcM_cls {p : Pg} (h : p.L ≠ []) {a : Int} (ha : a ∈ rcM p) : Cls p (rcM p) a := rcL_cls p _ _ _ ⟨by simp, fun x hx => by
  obtain rfl := List.mem_singleton.1 hx
  have := List.length_pos_iff.2 h
  omega⟩ (by omega) (fun j a hj => absurd hj (Nat.not_lt_zero _)) a ha
theorem rcM_agr {p q : Pg} (hl : p.L.length = q.L.length) (h : ∀ a ∈ rcM p, q.L[a.toNat]? = p.L[a.toNat]?) : rcM q = rcM p := by
  unfold rcM at h ⊢
  rw [← hl]
  exact rcL_agr hl _ _ _ h
theorem sortI_mem (F : List Int) (x : Int) : x ∈ sortI F ↔ x ∈ F := by
  unfold sortI
  exact (List.mergeSort_perm F _).mem_iff
end Go.Proofs.YtbfhahhcacnckaaGreatDoor
namespace Go.Proofs.YtbfhahhcacnckaaGreatDoor
open Go Go.RowKit
attribute [local go_sem] Oper.semAt_some ext_cell
def boA (n : Nat) (th : Nat → Bool) : Array Value := ((List.range n).map fun k => Value.bool (th k)).toArray
theorem boA_get {n k : Nat} (th : Nat → Bool) (h : k < n) : (boA n th)[k]? = some (.bool (th k)) := by simp [boA, h]
def Bo (W : World) (b n : Nat) (th : Nat → Bool) : Prop := W.heap[b]? = some (.cells (boA n th) 4 (0, 0))
theorem Bo.cell {W : World} {b n : Nat} {th : Nat → Bool} (h : Bo W b n th) {k : Nat} (hk : k < n) : W.cell? ⟨b, k, none⟩ = some (.bool (th k)) := cell_row h (boA_get th hk)
theorem Bo.kept {W W' : World} {b n : Nat} {th : Nat → Bool} (h : Bo W b n th) (hb : Below W.heap.size W W') : Bo W' b n th := (hb.block _ (lt_of_heap h)).trans h
theorem Bo.fr {S : Nat → Prop} {W W' : World} {b n : Nat} {th : Nat → Bool} (h : Bo W b n th) (hf : Fr S W W') (hs : ¬ S b) : Bo W' b n th := (hf.block _ (lt_of_heap h) hs).trans h
theorem Bo.set {W : World} {b n : Nat} {th : Nat → Bool} (h : Bo W b n th) (k : Nat) {th' : Nat → Bool} (ht : ∀ x, x < n → th' x = if x = k then true else th x) : Bo (W.setCell ⟨b, k, none⟩ (.bool true)) b n th' := by
  have := heap_set_in h k (.bool true)
  unfold Bo
  rw [this]
  congr 2
  apply Array.ext_getElem?
  intro x
  by_cases hx : x < n
  · rw [boA_get th' hx, ht x hx]
    by_cases hk : x = k
    · subst hk
      rw [Array.getElem?_setIfInBounds_self_of_lt (by simp [boA]; omega), if_pos rfl]
    · rw [Array.getElem?_setIfInBounds_ne (by omega), boA_get th hx, if_neg hk]
  · rw [Array.getElem?_eq_none (by simp [boA]; omega), Array.getElem?_eq_none (by simp [boA]; omega)]
theorem size_bool : (Tryz.prog.info? 4).map (fun i => (i.zero, i.size, i.bytes)) = some (some (.bool false), 1, 1) := by kernel_rfl
theorem und_bools : Tryz.prog.underlying 46 = some (.slice 4) := by kernel_rfl
theorem make_bools (n : Nat) (h : n ≤ 1000000) (w : World) :
    (Instr.makeSlice 46 (.int .i64 (n : Int)) (.int .i64 (n : Int))).run Tryz.prog w = .ok (.slice (some ⟨w.heap.size, 0, none⟩) n n) (w.alloc (.cells (boA n fun _ => false) 4)) := by
  obtain ⟨i0, hi, hz0, hz1, hz2⟩ := info_parts size_bool
  have := run_make (P := Tryz.prog) w 46 4 i0 (.bool false) und_bools hi hz0 .i64 .i64 (n : Int) (n : Int) (by omega) (by omega) (by rw [hz2]; omega) (by omega)
  rw [hz1] at this
  have e : madeCells #[.bool false] n = boA n fun _ => false := by
    apply Array.ext
    · simp [madeCells, boA]
    intro i h1 h2
    simp [madeCells, boA, Nat.mod_one]
  simpa [Value.cells, e] using this
set_option maxRecDepth 100000 in
set_option maxHeartbeats 2000000 in
theorem numbers_c {w : World} {g g' c c' : Nat} {l : List Int} (h : RowG w g c l) (h' : RowG w g' c' l) (hl : l.length ≤ 1000000) :
    Calls Tryz.prog 17 #[.slice (some ⟨g, 0, none⟩) l.length c, .slice (some ⟨g', 0, none⟩) l.length c'] w fun e w' => e = .returned (.bool true) ∧ Below w.heap.size w w' := by
  have H := hide h
  have H' := hide h'
  clear h h'
  go_enter Tryz.func17, Tryz.ntmps17
  go_wp2
  go_loopg [5] l.length (fun k i wr => ∃ j : Nat, j + k = l.length ∧ i = .int .i64 (j : Int) ∧ Below w.heap.size w wr)
  case atStart => exact ⟨0, by omega, rfl, Below.refl _ _⟩
  case round =>
    obtain ⟨j, hjk, rfl, hb⟩ := hrel
    have B := hide hb
    have H1 := hide (H.out.kept hb)
    have H2 := hide (H'.out.kept hb)
    clear hb
    by_cases hj : j < l.length
    · have j0 : (0 : Int) ≤ (j : Int) := by omega
      have j1 : (j : Int) < (l.length : Int) := by omega
      have c1 := H1.out.cell (List.getElem?_eq_getElem hj)
      have c2 := H2.out.cell (List.getElem?_eq_getElem hj)
      have l1 := H1.out.lt
      have l2 := H2.out.lt
      generalize l[j] = x at c1 c2
      go_wp2
      go_region
      go_wp2
      go_roundg (l.length - (j + 1))
      case measure => omega
      case rel => exact ⟨j + 1, by omega, by go_num, B.out.drew⟩
    · have j1 : ¬ (j : Int) < (l.length : Int) := by omega
      go_wp2
      go_ret
      exact ⟨rfl, B.out⟩
theorem led {L : List Rw} {q : Option Addr} {c : Nat} {f : Bool} {k : Nat} {i : Ins} (hi : (mdL L)[k]? = some i) (hk : (k : Int) ∈ rcM ⟨q, mdL L, c, 2, 2, f⟩) :
    (hsT (shT i.op) 64 = true → k + 1 < (mdL L).length ∧ ((k + 1 : Nat) : Int) ∈ rcM ⟨q, mdL L, c, 2, 2, f⟩) ∧ (hsT (shT i.op) 2 = true → ∃ x : Nat, i.x = x ∧ x < (mdL L).length ∧ (x : Int) ∈ rcM ⟨q, mdL L, c, 2, 2, f⟩) ∧ (hsT (shT i.op) 4 = true → ∃ x : Nat, i.y = x ∧ x < (mdL L).length ∧ (x : Int) ∈ rcM ⟨q, mdL L, c, 2, 2, f⟩) := by
  have hn : mdL L ≠ [] := fun e => by have := mdL_len L; rw [e] at this; simp at this
  have hc := rcM_cls (p := ⟨q, mdL L, c, 2, 2, f⟩) hn hk i (by rw [Int.toNat_natCast]; exact hi)
  have hf := mdL_fine (p := ⟨q, mdL L, c, 2, 2, f⟩) (L := L) rfl rfl rfl hi
  unfold fineI at hf
  simp only [Bool.and_eq_true, Bool.or_eq_true, Bool.not_eq_true', decide_eq_true_eq] at hf
  obtain ⟨⟨⟨⟨⟨⟨⟨_, _⟩, hx⟩, hy⟩, _⟩, _⟩, _⟩, hnx⟩ := hf
  refine ⟨fun h => ?_, fun h => ?_, fun h => ?_⟩
  · rcases hnx with e | e
    · rw [h] at e; cases e
    · have e2 : (k : Int) + 1 < ((mdL L).length : Int) := e
      refine ⟨by omega, ?_⟩
      have := hc ((k : Int) + 1) (by unfold ldI; simp [h]) (by omega) e2
      exact this
  · rcases hx with e | e
    · rw [h] at e; cases e
    · simp only [blw, Bool.and_eq_true, decide_eq_true_eq] at e
      have e2 : i.x < ((mdL L).length : Int) := e.2
      refine ⟨i.x.toNat, by omega, by omega, ?_⟩
      have := hc i.x (by unfold ldI; simp [h]) e.1 e2
      rw [Int.toNat_of_nonneg e.1]
      exact this
  · rcases hy with e | e
    · rw [h] at e; cases e
    · simp only [blw, Bool.and_eq_true, decide_eq_true_eq] at e
      have e2 : i.y < ((mdL L).length : Int) := e.2
      refine ⟨i.y.toNat, by omega, by omega, ?_⟩
      have := hc i.y (by unfold ldI; simp [h]) e.1 e2
      rw [Int.toNat_of_nonneg e.1]
      exact this
structure Un (K M : List Ins) (th : Nat → Bool) (j : Nat) : Prop where
  len : M.length = K.length
  lo : ∀ x, x < j → x < K.length → M[x]? = if th x then K[x]? else some ⟨11, 0, 0, 0, 0, 0, 0#256⟩
  hi : ∀ x, j ≤ x → M[x]? = K[x]?
theorem Un.keep {K M : List Ins} {th : Nat → Bool} {j : Nat} (h : Un K M th j) (ht : th j = true) : Un K M th (j + 1) := ⟨h.len, fun x hx hl => by
  by_cases e : x = j
  · subst e
    rw [h.hi x (Nat.le_refl _), ht]
    rfl
  · exact h.lo x (by omega) hl, fun x hx => h.hi x (by omega)⟩
theorem Un.put {K M : List Ins} {th : Nat → Bool} {j : Nat} (h : Un K M th j) (ht : th j = false) : Un K (M.set j ⟨11, 0, 0, 0, 0, 0, 0#256⟩) th (j + 1) := ⟨by rw [List.length_set, h.len], fun x hx hl => by
  by_cases e : x = j
  · subst e
    rw [List.getElem?_set_self (by rw [h.len]; exact hl), ht]
    rfl
  · rw [List.getElem?_set_ne (by omega)]
    exact h.lo x (by omega) hl, fun x hx => by
  rw [List.getElem?_set_ne (by omega)]
  exact h.hi x (by omega)⟩
theorem un_right {L : List Rw} {M : List Ins} {th : Nat → Bool} (h : Un (mdL L) M th (mdL L).length) (q : Option Addr) (c : Nat) (f : Bool) : rtE ⟨q, M, c, 2, 2, f⟩ = (0, 0) := by
  have hl := mdL_len L
  have hm := h.len
  have hf : fbI ⟨q, M, c, 2, 2, f⟩ 0 M = none := fb_all fun j i hj => by
    rw [Nat.zero_add]
    have hjl := (List.getElem?_eq_some_iff.1 hj).1
    have := h.lo j (by omega) (by omega)
    rw [hj] at this
    cases ht : th j
    · rw [ht] at this
      obtain rfl := Option.some.inj this
      exact match_fine _ _
    · rw [ht] at this
      exact mdL_fine (p := ⟨q, M, c, 2, 2, f⟩) hm rfl rfl this.symm
  unfold rtE
  rw [if_neg (show ¬ 40000 < M.length by omega), if_neg (show ¬ (!blw 2 31 || !blw 2 41) = true by decide), if_neg (show ¬ M.length = 0 by omega)]
  show (match fbI ⟨q, M, c, 2, 2, f⟩ 0 M with | some k => ((60 : Int), (k : Int)) | none => (0, 0)) = _
  rw [hf]
theorem un_reach {L : List Rw} {M : List Ins} {th : Nat → Bool} {q q' : Option Addr} {c c' : Nat} {f : Bool} (h : Un (mdL L) M th (mdL L).length) (ht : ∀ x : Nat, (x : Int) ∈ rcM ⟨q, mdL L, c, 2, 2, f⟩ → th x = true) : rcM ⟨q', M, c', 2, 2, f⟩ = rcM ⟨q, mdL L, c, 2, 2, f⟩ := by
  have hn : mdL L ≠ [] := fun e => by have := mdL_len L; rw [e] at this; simp at this
  refine rcM_agr (p := ⟨q, mdL L, c, 2, 2, f⟩) (q := ⟨q', M, c', 2, 2, f⟩) h.len.symm fun a ha => ?_
  have hb := (rcM_bd (p := ⟨q, mdL L, c, 2, 2, f⟩) hn).bd a ha
  have hb2 : a < ((mdL L).length : Int) := hb.2
  have := h.lo a.toNat (by omega) (by omega)
  rw [ht a.toNat (by rw [Int.toNat_of_nonneg hb.1]; exact ha)] at this
  exact this
end Go.Proofs.YtbfhahhcacnckaaGreatDoor
