/-
  rows: in how many rows a character's text is.
-/
import Derived.Test.YtihmnibopeljaaaDoorRd6
namespace Go.Proofs.YtihmnibopeljaaaDoor
open Go Go.RowKit
attribute [local go_sem] ext_cell

def inB (r : Rw) (m c k : Nat) : Bool := decide (r.n = m ∧ ∀ j, j < k → byt r.n r.a j ≤ byt m c j ∧ byt m c j ≤ byt r.n r.b j)
def hit (r : Rw) (c : Nat) : Nat := if r.a ≤ c ∧ c ≤ r.b then 1 else 0
theorem ins_one {n m c : Nat} (h : InS n c c) (h' : InS m c c) : n = m := by
  obtain ⟨x, y, h, h1, _, h2⟩ := h
  obtain ⟨x', y', h', h1', _, h2'⟩ := h'
  unfold Spn at h h'
  omega
theorem inB_end {r : Rw} {m c : Nat} (hp : Piece r.n r.a r.b) (hc : InS m c c) : inB r m c m = decide (r.a ≤ c ∧ c ≤ r.b) := by
  unfold inB
  apply decide_eq_decide.2
  constructor
  · rintro ⟨rfl, h⟩
    exact (piece_in hp hc).2 h
  · intro h
    have e : r.n = m := ins_one (hp.1.sub h.1 (Nat.le_refl _) h.2) hc
    subst e
    exact ⟨rfl, (piece_in hp hc).1 h⟩
theorem inB_false {r : Rw} {m c k : Nat} (h : inB r m c k = false) (hk : k ≤ m) : inB r m c m = false := by
  unfold inB at h ⊢
  have h := of_decide_eq_false h
  exact decide_eq_false fun q => h ⟨q.1, fun j hj => q.2 j (by omega)⟩
theorem hit_false {r : Rw} {m c k : Nat} (hp : Piece r.n r.a r.b) (hc : InS m c c) (h : inB r m c k = false) (hk : k ≤ m) : hit r c = 0 := by
  have := inB_false h hk
  rw [inB_end hp hc] at this
  exact if_neg (of_decide_eq_false this)
theorem hit_true {r : Rw} {m c : Nat} (hp : Piece r.n r.a r.b) (hc : InS m c c) (h : inB r m c m = true) : hit r c = 1 := by
  rw [inB_end hp hc] at h
  exact if_pos (of_decide_eq_true h)
theorem inB_next {r : Rw} {m c k : Nat} (h : inB r m c k = true) : inB r m c (k + 1) = decide (byt r.n r.a k ≤ byt m c k ∧ byt m c k ≤ byt r.n r.b k) := by
  unfold inB at h ⊢
  have h := of_decide_eq_true h
  apply decide_eq_decide.2
  constructor
  · intro q; exact q.2 k (by omega)
  · intro q
    refine ⟨h.1, fun j hj => ?_⟩
    by_cases e : j = k
    · subst e; exact q
    · exact h.2 j (by omega)

set_option maxHeartbeats 8000000 in
set_option maxRecDepth 1000000 in
theorem rowsIn_c {w : World} {v : Value} {R : List Rw} {s : ByteArray} {m c : Nat} (h : RV w v R) (hp : ∀ r ∈ R, Piece r.n r.a r.b) (hl : R.length ≤ 30) (hm : s.size = m) (hc : InS m c c) (hs : ∀ (k : Nat) (hk : k < s.size), (s[k]'hk).toNat = byt m c k) :
    Calls Tryd.prog 16 #[v, .string s] w fun e w' => e = .returned (.int .i64 (cnt c R : Int)) ∧ Below w.heap.size w w' := by
  have H : Hid (RV w v R) := h
  obtain ⟨q, cap, rfl, _, _⟩ := h.ex
  have HP : Hid (∀ r ∈ R, Piece r.n r.a r.b) := hp
  have HC : Hid (InS m c c) := hc
  have HS : Hid (∀ (k : Nat) (hk : k < s.size), (s[k]'hk).toNat = byt m c k) := hs
  have HM : Hid (s.size = m) := hm
  have hm4 : m ≤ 4 := hc.n.2.1
  clear h hp hs hc
  go_enter Tryd.func16, Tryd.ntmps16
  go_wp2
  go_loopw [5, 6] (fun n i wr => ∃ k : Nat, i = .int .i64 (k : Int) ∧ n = .int .i64 (cnt c (R.take k) : Int) ∧ k ≤ R.length ∧ Below w.heap.size w wr) (fun _ i _ => R.length - (intOf i).toNat)
  case atStart => exact ⟨0, rfl, rfl, Nat.zero_le _, Below.refl _ _⟩
  case round =>
    obtain ⟨i, rfl, rfl, hi, hb⟩ := hrel
    have B : Hid (Below w.heap.size w wr) := hb
    clear hb
    rename World => W1
    by_cases hlt : i < R.length
    · have hr : R[i]? = some R[i] := List.getElem?_eq_getElem hlt
      obtain ⟨r, hre⟩ : ∃ r, R[i] = r := ⟨_, rfl⟩
      rw [hre] at hr
      have P : Hid (Piece r.n r.a r.b) := HP.out r (List.mem_of_getElem? hr)
      have HR : Hid (R[i]? = some r) := hr
      clear hr hre
      have hn := P.out.1.n
      have HT : Hid (cnt c (R.take (i + 1)) = cnt c (R.take i) + hit r c) := cnt_take HR.out
      have hT := cnt_le c (R.take i)
      rw [List.length_take] at hT
      obtain ⟨T, hTe⟩ : ∃ T : Nat, cnt c (R.take i) = T := ⟨_, rfl⟩
      rw [hTe] at hT HT ⊢
      have hwT : IntKind.wrap .i64 ((T : Int) + 1) = (T : Int) + 1 := wrap_small _ (by omega) (by omega)
      obtain ⟨q', cap', e', _, hc'⟩ := (H.out.below B.out).ex
      obtain ⟨rfl, rfl⟩ : q = q' ∧ cap = cap' := by injection e' with e1 e2 e3; exact ⟨e1, e3⟩
      obtain ⟨G, rfl, g1, g2, c1, c2⟩ := hc' i r HR.out
      have C2 : Hid (∀ k, k < r.n → W1.cell? ⟨r.g, k * 2, none⟩ = some (.int .i64 (byt r.n r.a k : Int)) ∧ W1.cell? ⟨r.g, k * 2 + 1, none⟩ = some (.int .i64 (byt r.n r.b k : Int))) := c2
      have G1 : Hid (G < W1.heap.size ∧ r.g < W1.heap.size) := ⟨g1, g2⟩
      have C1 : Hid (W1.cell? ⟨G, i, none⟩ = some (.slice (some ⟨r.g, 0, none⟩) r.n r.n)) := c1
      have c1' : W1.cell? ⟨G, i, none⟩ = some (.slice (some ⟨r.g, 0, none⟩) r.n r.n) := c1
      clear hc' c2 e' c1 hTe hT
      have i0 : (0 : Int) ≤ (i : Int) := by omega
      have i1 : (i : Int) < (R.length : Int) := by omega
      have hwi : IntKind.wrap .i64 ((i : Int) + 1) = (i : Int) + 1 := wrap_small _ (by omega) (by omega)
      have hn4 : r.n ≤ 4 := hn.2.1
      obtain ⟨X0, hX0⟩ : ∃ X0, inB r m c 0 = X0 := ⟨_, rfl⟩
      have HX0 : Hid (inB r m c 0 = X0) := hX0
      have e0 : decide (r.n = m) = X0 := by rw [← hX0]; unfold inB; apply decide_eq_decide.2; exact ⟨fun q => ⟨q, fun j hj => by omega⟩, fun q => q.1⟩
      have e0' : decide ((r.n : Int) = (m : Int)) = X0 := by rw [← e0]; apply decide_eq_decide.2; omega
      clear hn hX0
      go_wp2
      go_loopw [7, 8] (fun p j wr => ∃ k : Nat, j = .int .i64 (k : Int) ∧ p = .bool (inB r m c k) ∧ k ≤ m ∧ Below W1.heap.size W1 wr) (fun _ j _ => m - (intOf j).toNat)
      case atStart => exact ⟨0, rfl, by rw [HX0.out]; first | rfl | exact congrArg Value.bool e0 | exact congrArg Value.bool e0' | exact congrArg Value.bool (by rw [← e0, HM.out]) | (trace_state; fail), Nat.zero_le _, Below.refl _ _⟩
      case round =>
        obtain ⟨k, rfl, rfl, hk, hb2⟩ := hrel
        have B2 : Hid (Below W1.heap.size W1 wr) := hb2
        have d1 := (hb2.cell (p := ⟨G, i, none⟩) G1.out.1).trans C1.out
        have s1 := Nat.lt_of_lt_of_le G1.out.1 hb2.size
        have s2 := Nat.lt_of_lt_of_le G1.out.2 hb2.size
        clear e0 e0' c1'
        rcases hin : inB r m c k with _ | _
        · have HH : Hid (hit r c = 0) := hit_false P.out HC.out hin hk
          clear hin hb2
          by_cases hkm : k < m
          · have k1 : (k : Int) < (m : Int) := by omega
            go_wp2
            go_roundw
            case rel => exact ⟨i + 1, by go_num, by rw [HT.out, HH.out]; rfl, by omega, chain B.out B2.out (Nat.le_refl _)⟩
            case measure => simp only [intOf]; omega
          · have k1 : ¬ (k : Int) < (m : Int) := by omega
            go_wp2
            go_roundw
            case rel => exact ⟨i + 1, by go_num, by rw [HT.out, HH.out]; rfl, by omega, chain B.out B2.out (Nat.le_refl _)⟩
            case measure => simp only [intOf]; omega
        · by_cases hkm : k < m
          · have hrm : r.n = m := (of_decide_eq_true hin).1
            have hkn : k < r.n := by omega
            have e1 := (hb2.cell (p := ⟨r.g, k * 2, none⟩) G1.out.2).trans (C2.out k hkn).1
            have e2 := (hb2.cell (p := ⟨r.g, k * 2 + 1, none⟩) G1.out.2).trans (C2.out k hkn).2
            have hks : k < s.size := by omega
            have hx := HS.out k hks
            obtain ⟨x, hxe⟩ : ∃ x, s[k]'hks = x := ⟨_, rfl⟩
            rw [hxe] at hx
            have x0 := x.toNat_lt
            have hwx : IntKind.wrap .i64 (x.toNat : Int) = (x.toNat : Int) := wrap_small _ (by omega) (by omega)
            have NX : Hid (inB r m c (k + 1) = decide (byt r.n r.a k ≤ byt m c k ∧ byt m c k ≤ byt r.n r.b k)) := inB_next hin
            obtain ⟨A, hA⟩ : ∃ A : Int, (byt r.n r.a k : Int) = A := ⟨_, rfl⟩
            obtain ⟨B', hB⟩ : ∃ B' : Int, (byt r.n r.b k : Int) = B' := ⟨_, rfl⟩
            rw [hA] at e1
            rw [hB] at e2
            have NX2 : Hid (inB r m c (k + 1) = decide (A ≤ (x.toNat : Int) ∧ (x.toNat : Int) ≤ B')) := by
              show inB r m c (k + 1) = _
              rw [NX.out]
              apply decide_eq_decide.2
              omega
            have k0 : (0 : Int) ≤ (k : Int) := by omega
            have k1 : (k : Int) < (m : Int) := by omega
            have k2 : (k : Int) < (r.n : Int) := by omega
            have k3 : (k : Int) < (s.size : Int) := by omega
            have hwk : IntKind.wrap .i64 ((k : Int) + 1) = (k : Int) + 1 := wrap_small _ (by omega) (by omega)
            clear hb2 hA hB NX hin hx hrm
            by_cases q1 : A ≤ (x.toNat : Int)
            · by_cases q2 : (x.toNat : Int) ≤ B'
              · have a1 : decide (A ≤ (x.toNat : Int)) = true := decide_eq_true q1
                have a2 : decide ((x.toNat : Int) ≤ B') = true := decide_eq_true q2
                have E : Hid (inB r m c (k + 1) = true) := by show inB r m c (k + 1) = true; rw [NX2.out]; exact decide_eq_true ⟨q1, q2⟩
                go_wp2
                refine wp_region_ext (by kernel_rfl) (by kernel_rfl) ?_
                repeat (go_big_quiet_step (first | exact rfl))
                refine wpQuiet_nil ?_
                intro w9 hw9
                have B3 : Hid (Below W1.heap.size W1 w9) := chain B2.out (ext_of hw9) (Nat.le_refl _)
                clear hw9
                go_wp2
                go_roundw
                case rel => exact ⟨k + 1, by go_num, by rw [E.out], by omega, B3.out⟩
                case measure => simp only [intOf]; omega
              · have a1 : decide (A ≤ (x.toNat : Int)) = true := decide_eq_true q1
                have a2 : decide ((x.toNat : Int) ≤ B') = false := decide_eq_false q2
                have E : Hid (inB r m c (k + 1) = false) := by show inB r m c (k + 1) = false; rw [NX2.out]; exact decide_eq_false (fun q => q2 q.2)
                go_wp2
                refine wp_region_ext (by kernel_rfl) (by kernel_rfl) ?_
                repeat (go_big_quiet_step (first | exact rfl))
                refine wpQuiet_nil ?_
                intro w9 hw9
                have B3 : Hid (Below W1.heap.size W1 w9) := chain B2.out (ext_of hw9) (Nat.le_refl _)
                clear hw9
                go_wp2
                go_roundw
                case rel => exact ⟨k + 1, by go_num, by rw [E.out], by omega, B3.out⟩
                case measure => simp only [intOf]; omega
            · have a1 : decide (A ≤ (x.toNat : Int)) = false := decide_eq_false q1
              have E : Hid (inB r m c (k + 1) = false) := by show inB r m c (k + 1) = false; rw [NX2.out]; exact decide_eq_false (fun q => q1 q.1)
              go_wp2
              refine wp_region_ext (by kernel_rfl) (by kernel_rfl) ?_
              repeat (go_big_quiet_step (first | exact rfl))
              refine wpQuiet_nil ?_
              intro w9 hw9
              have B3 : Hid (Below W1.heap.size W1 w9) := chain B2.out (ext_of hw9) (Nat.le_refl _)
              clear hw9
              go_wp2
              go_roundw
              case rel => exact ⟨k + 1, by go_num, by rw [E.out], by omega, B3.out⟩
              case measure => simp only [intOf]; omega
          · obtain rfl : k = m := by omega
            have k1 : ¬ (k : Int) < (k : Int) := by omega
            have HH : Hid (hit r c = 1) := hit_true P.out HC.out hin
            clear hin hb2
            go_wp2
            go_roundw
            case rel => exact ⟨i + 1, by go_num, by rw [HT.out, HH.out]; rfl, by omega, chain B.out B2.out (Nat.le_refl _)⟩
            case measure => simp only [intOf]; omega
    · obtain rfl : i = R.length := by omega
      have i1 : ¬ (R.length : Int) < (R.length : Int) := by omega
      have e : Hid (R.take R.length = R) := List.take_length
      rw [e.out]
      go_wp2
      go_ret
      exact ⟨rfl, B.out⟩
end Go.Proofs.YtihmnibopeljaaaDoor
