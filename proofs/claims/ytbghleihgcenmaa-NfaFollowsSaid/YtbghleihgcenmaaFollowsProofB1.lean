/-
  Parts of the proof.
-/
import Derived.Test.YtbghleihgcenmaaFollowsProofB0
import Derived.Deep.DeepCutAuto
import Derived.Deep.CutBlock
set_option linter.unusedSimpArgs false
namespace Go.Proofs.Ytbghleihgcenmaa
open Go Go.RowKit
attribute [local go_sem] Oper.semAt_some neq_span eqg_span
section
variable {P : List Ins} {l : List UInt8}
def Sea (P : List Ins) (l : List UInt8) (a i : Nat) (f e : Int) : Prop :=
  (f = -1 ∧ e = 0 ∧ a ≤ i ∧ ∀ b, a ≤ b → b < i → ∀ x, ¬ Mt P l b x) ∨ (∃ b y : Nat, f = b ∧ e = y ∧ a ≤ b ∧ i = b + 1 ∧ b ≤ l.length ∧ (∀ c, a ≤ c → c < b → ∀ x, ¬ Mt P l c x) ∧ Mt P l b y ∧ ∀ x, Mt P l b x → x ≤ y)
theorem sea_0 {a : Nat} : Sea P l a a (-1) 0 := .inl ⟨rfl, rfl, Nat.le_refl _, fun b h1 h2 => by omega⟩
theorem sea_no {a i : Nat} {n f e : Int} (h : Sea P l a i f e) (hf : f < 0) (hg : LgS P l i n false) : Sea P l a (i + 1) f e := by
  rcases h with ⟨h1, h2, h3, h4⟩ | ⟨b, y, rfl, _⟩
  · refine .inl ⟨h1, h2, by omega, fun b q1 q2 x hx => ?_⟩
    rcases Nat.lt_or_ge b i with q | q
    · exact h4 b q1 q x hx
    · obtain rfl : b = i := by omega
      rcases hg with ⟨_, _, q⟩ | ⟨q, _⟩
      · exact q x hx
      · cases q
  · omega
theorem sea_yes {a i : Nat} {n f e : Int} (h : Sea P l a i f e) (hf : f < 0) (hi : i ≤ l.length) (hg : LgS P l i n true) : Sea P l a (i + 1) (i : Int) n := by
  rcases h with ⟨h1, h2, h3, h4⟩ | ⟨b, y, rfl, _⟩
  · rcases hg with ⟨q, _⟩ | ⟨_, y, rfl, q1, q2⟩
    · cases q
    · exact .inr ⟨i, y, rfl, rfl, h3, rfl, hi, h4, q1, q2⟩
  · omega
theorem sea_end {a i : Nat} {f e F T : Int} {fd : Bool} (h : Sea P l a i f e) (hs : ¬ (i ≤ l.length ∧ f < 0)) (hF : FinM P l a l.length fd F T) : fd = decide (0 ≤ f) ∧ (fd = true → F = f ∧ T = e) := by
  rcases h with ⟨h1, h2, h3, h4⟩ | ⟨b, y, rfl, rfl, h1, h2, h3, h4, h5, h6⟩
  · cases fd with
    | false => exact ⟨by rw [decide_eq_false (by omega)], fun q => by cases q⟩
    | true =>
      obtain ⟨b, y, _, _, q1, q2, q3, _⟩ := hF.yes rfl
      exact absurd q3 (h4 b q1 (by omega) y)
  · cases fd with
    | false => exact absurd h5 (hF.no rfl b y h1 h3)
    | true =>
      obtain ⟨c, z, rfl, rfl, q1, q2, q3, q4⟩ := hF.yes rfl
      have k1 := q4 b y h1 h3 h5
      have hc : c = b := by
        rcases Nat.lt_or_ge c b with r | r
        · exact absurd q3 (h4 c q1 r z)
        · omega
      subst hc
      have := k1.2 rfl
      have := h6 z q3
      exact ⟨by rw [decide_eq_true (by omega)], fun _ => ⟨rfl, by omega⟩⟩
theorem fin_next {a : Nat} {F T : Int} {fd : Bool} (h : FinM P l a l.length fd F T) : ∀ F2 T2, FinM P l (a + 1) l.length true F2 T2 → F ≤ F2 := fun F2 T2 h2 => by
  obtain ⟨b, y, rfl, _, q1, q2, q3, _⟩ := h2.yes rfl
  cases fd with
  | false =>
    have := (h.z rfl).1
    omega
  | true =>
    obtain ⟨c, z, rfl, _, r1, r2, r3, r4⟩ := h.yes rfl
    have := (r4 b y (by omega) q2 q3).1
    omega
end
set_option maxRecDepth 100000 in
set_option maxHeartbeats 8000000 in
theorem follows_c {w : World} {p : Pg} (h : PgI w p) (s : ByteArray) : Calls Try.prog 3 #[.agg #[.slice p.q p.L.length p.c, .int .i64 p.g, .int .i64 p.k, .bool p.f], .string s] w fun e w' => e = .returned (.bool true) ∧ Below w.heap.size w w' := by
  have B1 : Hid (Below w.heap.size w (w.alloc (.cells #[.slice p.q p.L.length p.c, .int .i64 p.g, .int .i64 p.k, .bool p.f] 24))) := (Below.refl _ _).alloc (Nat.le_refl _) _
  have X1 : Hid ((w.alloc (.cells #[.slice p.q p.L.length p.c, .int .i64 p.g, .int .i64 p.k, .bool p.f] 24)).heap[w.heap.size]? = some (.cells #[.slice p.q p.L.length p.c, .int .i64 p.g, .int .i64 p.k, .bool p.f] 24 (0, 0))) := alloc_new w _
  have H := hide h
  clear h
  go_enter Try.func3, Try.ntmps3
  go_upto_region 1 with fail
  generalize (w.alloc (.cells #[.slice p.q p.L.length p.c, .int .i64 p.g, .int .i64 p.k, .bool p.f] 24)) = w1 at B1 X1 ⊢
  go_upto_region 2 with (go_at_call 7; (with_reducible refine (known_c _).mono ?_); rintro e w2 ⟨rfl, h2⟩; have B2 := hide (chain B1.out h2 (Nat.le_refl _)); have X2 := hide ((h2.block _ (lt_of_heap X1.out)).trans X1.out); clear h2)
  go_cut [26] (fun v wx => v = .bool (decide (60 < s.size)) ∧ wx = w2)
  case first =>
    by_cases hb : 60 < s.size
    · have i0 : (60 : Int) < (s.size : Int) := by omega
      have HE : Hid (decide (60 < s.size) = true) := hide (decide_eq_true hb)
      clear hb
      go_wp2
      go_meet
      exact ⟨by rw [HE.out], rfl⟩
    · have i0 : ¬ (60 : Int) < (s.size : Int) := by omega
      have HE : Hid (decide (60 < s.size) = false) := hide (decide_eq_false hb)
      clear hb
      go_wp2
      go_meet
      exact ⟨by rw [HE.out], rfl⟩
  case rest =>
  obtain ⟨h26, hwx⟩ := hcut
  subst h26
  subst hwx
  go_upto_if 26 with fail
  go_cut [1] (fun v wx => ∃ z : ByteArray, v = .string z ∧ z.size ≤ 60 ∧ wx = wc)
  case first =>
    by_cases hb : 60 < s.size
    · have i0 : (60 : Int) ≤ (s.size : Int) := by omega
      have e : decide (60 < s.size) = true := decide_eq_true hb
      have HB := hide hb
      rw [e]
      clear hb e
      go_wp2
      go_meet
      exact ⟨_, rfl, by rw [ByteArray.size_extract]; have := HB.out; omega, rfl⟩
    · have e : decide (60 < s.size) = false := decide_eq_false hb
      have HB := hide hb
      rw [e]
      clear hb e
      go_wp2
      go_meet
      exact ⟨_, rfl, by have := HB.out; omega, rfl⟩
  case rest =>
  obtain ⟨z, h1, hzs, hwx⟩ := hcut
  subst h1
  subst hwx
  have P3 := hide X2.out
  have B3 := hide B2.out
  clear X2 B2
  have p0 := cell_row P3.out (i := 0) rfl
  have p1 := cell_row P3.out (i := 1) rfl
  have p2 := cell_row P3.out (i := 2) rfl
  have p3 := cell_row P3.out (i := 3) rfl
  by_cases hz : wrM p z.size 0 = 0
  case neg =>
    have LB := hide (longest_bad (H.out.kept B3.out) z 0 hz)
    obtain ⟨v, hv⟩ : ∃ v, wrM p z.size 0 = v := ⟨_, rfl⟩
    rw [hv] at LB hz
    have z0 : (v != 0) = true := by simp [hz]
    clear hv hz
    go_wp2_with (go_at_call 8; (with_reducible refine (LB.out).mono ?_); rintro e w4 ⟨rfl, h2⟩; have B4 := hide (chain B3.out h2 (Nat.le_refl _)); clear h2)
    go_ret
    exact ⟨rfl, B4.out⟩
  obtain ⟨hr, hf, -, -⟩ := wrM_ok hz
  have LO : Hid (Calls Try.prog 8 #[.agg #[.slice p.q p.L.length p.c, .int .i64 p.g, .int .i64 p.k, .bool p.f], .string z, .int .i64 0] wc fun e w' => (∃ n ok st, e = .returned (.tuple #[.int .i64 n, .bool ok, .int .i64 st, .int .i64 0]) ∧ LgS p.L (sL z) 0 n ok) ∧ Below wc.heap.size wc w') := longest_ok (H.out.kept B3.out) z 0 hz (by omega)
  have HZ := hide (fun (a : Nat) (ha : a ≤ z.size) => wrM_0 (p := p) (n := z.size) (pl := (a : Int)) hr hf (by omega) (by omega))
  clear hz hr hf
  go_wp2_with (go_at_call 8; (with_reducible refine (LO.out).mono ?_); rintro e w4 ⟨⟨n, ok, st, rfl, h1⟩, h2⟩; have B4 := hide (chain B3.out h2 (Nat.le_refl _)); have X4 := hide ((h2.block _ (lt_of_heap P3.out)).trans P3.out); clear h1 h2)
  clear p0 p1 p2 p3 LO P3 B3
  go_loopw [10, 11] (fun x y wr => ∃ (a : Nat) (lv : Int), x = .int .i64 lv ∧ y = .int .i64 (a : Int) ∧ a ≤ z.size + 1 ∧ (∀ F2 T2, FinM p.L (sL z) a (sL z).length true F2 T2 → lv ≤ F2) ∧ Below w.heap.size w wr ∧ wr.heap[w.heap.size]? = some (.cells #[.slice p.q p.L.length p.c, .int .i64 p.g, .int .i64 p.k, .bool p.f] 24 (0, 0))) (fun x y _ => z.size + 2 - (intOf y).toNat)
  case atStart => exact ⟨0, 0, rfl, rfl, Nat.zero_le _, fun F2 T2 h => by
    obtain ⟨b, e, rfl, _⟩ := h.yes rfl
    omega, B4.out, X4.out⟩
  case round =>
    obtain ⟨a, lv, rfl, rfl, ha, hlv, hB, hX⟩ := hrel
    have B5 := hide hB
    have X5 := hide hX
    have LV := hide hlv
    clear hB hX hlv B4 X4
    by_cases has : a ≤ z.size
    case neg =>
      have i0 : ¬ (a : Int) ≤ (z.size : Int) := by omega
      go_wp2
      go_ret
      exact ⟨rfl, B5.out⟩
    case pos =>
      have i0 : (a : Int) ≤ (z.size : Int) := by omega
      have HAS := hide has
      have p0 := cell_row X5.out (i := 0) rfl
      have p1 := cell_row X5.out (i := 1) rfl
      have p2 := cell_row X5.out (i := 2) rfl
      have p3 := cell_row X5.out (i := 3) rfl
      have FC : Hid (Calls Try.prog 9 #[.agg #[.slice p.q p.L.length p.c, .int .i64 p.g, .int .i64 p.k, .bool p.f], .string z, .int .i64 (a : Int)] wr fun e w' => (∃ F T ok st, e = .returned (.tuple #[.agg #[.int .i64 F, .int .i64 T], .bool ok, .int .i64 st, .int .i64 0]) ∧ FinM p.L (sL z) a (sL z).length ok F T) ∧ Below wr.heap.size wr w') := hide (by rw [sL_len]; exact find_ok (H.out.kept B5.out) z a (HZ.out a HAS.out) (by omega))
      go_upto_region 12 with (go_at_call 9; (with_reducible refine (FC.out).mono ?_); rintro e w6 ⟨⟨F, T, fd, st3, rfl, h1⟩, h2⟩; have S6 := hide h1; have B6 := hide (chain B5.out h2 (Nat.le_refl _)); have X6 := hide ((h2.block _ (lt_of_heap X5.out)).trans X5.out); clear h1 h2)
      clear p0 p1 p2 p3 FC
      have BA : Below w6.heap.size w6 (w6.alloc (.cells #[.int .i64 F, .int .i64 T] 30)) := (Below.refl _ _).alloc (Nat.le_refl _) _
      have X7 := hide ((BA.block _ (lt_of_heap X6.out)).trans X6.out)
      have Y7 : Hid ((w6.alloc (.cells #[.int .i64 F, .int .i64 T] 30)).heap[w6.heap.size]? = some (.cells #[.int .i64 F, .int .i64 T] 30 (0, 0))) := alloc_new w6 _
      have B7 := hide (chain B6.out BA (Nat.le_refl _))
      clear BA X6 B6
      generalize (w6.alloc (.cells #[.int .i64 F, .int .i64 T] 30)) = w7 at X7 Y7 B7 ⊢
      obtain ⟨sb, hsb⟩ : ∃ sb, w6.heap.size = sb := ⟨_, rfl⟩
      rw [hsb] at Y7 ⊢
      clear hsb
      go_upto_block 2 with fail
      go_cut [16, 17] (fun fv ev wx => ∃ (i : Nat) (f e : Int), fv = .int .i64 f ∧ ev = .int .i64 e ∧ Sea p.L (sL z) a i f e ∧ ¬ (i ≤ (sL z).length ∧ f < 0) ∧ Below w.heap.size w wx ∧ wx.heap[w.heap.size]? = some (.cells #[.slice p.q p.L.length p.c, .int .i64 p.g, .int .i64 p.k, .bool p.f] 24 (0, 0)) ∧ wx.heap[sb]? = some (.cells #[.int .i64 F, .int .i64 T] 30 (0, 0)))
      case first =>
        go_wp2
        go_loopw [16, 17, 18] (fun fv ev iv wx => ∃ (i : Nat) (f e : Int), fv = .int .i64 f ∧ ev = .int .i64 e ∧ iv = .int .i64 (i : Int) ∧ i ≤ z.size + 1 ∧ Sea p.L (sL z) a i f e ∧ Below w.heap.size w wx ∧ wx.heap[w.heap.size]? = some (.cells #[.slice p.q p.L.length p.c, .int .i64 p.g, .int .i64 p.k, .bool p.f] 24 (0, 0)) ∧ wx.heap[sb]? = some (.cells #[.int .i64 F, .int .i64 T] 30 (0, 0))) (fun fv ev iv _ => z.size + 2 - (intOf iv).toNat)
        case atStart => exact ⟨a, -1, 0, rfl, rfl, rfl, by omega, sea_0, B7.out, X7.out, Y7.out⟩
        case round =>
          obtain ⟨i, f, e, rfl, rfl, rfl, hi, hS, hB, hX, hY⟩ := hrel
          have B8 := hide hB
          have X8 := hide hX
          have Y8 := hide hY
          have S8 := hide hS
          clear hB hX hY hS
          have hw1 : IntKind.wrap .i64 ((i : Int) + 1) = (i : Int) + 1 := wrap_small _ (by omega) (by omega)
          by_cases his : i ≤ z.size
          case neg =>
            have i1 : ¬ (i : Int) ≤ (z.size : Int) := by omega
            have HN : Hid (¬ (i ≤ (sL z).length ∧ f < 0)) := hide (by rw [sL_len]; omega)
            clear his
            go_wp2
            go_meet
            exact ⟨i, f, e, rfl, rfl, S8.out, HN.out, B8.out, X8.out, Y8.out⟩
          case pos =>
            have i1 : (i : Int) ≤ (z.size : Int) := by omega
            have HIS := hide his
            clear his
            by_cases hf : f < 0
            case neg =>
              have HN : Hid (¬ (i ≤ (sL z).length ∧ f < 0)) := hide (by omega)
              go_wp2
              go_meet
              exact ⟨i, f, e, rfl, rfl, S8.out, HN.out, B8.out, X8.out, Y8.out⟩
            case pos =>
              have HF := hide hf
              have p0 := cell_row X8.out (i := 0) rfl
              have p1 := cell_row X8.out (i := 1) rfl
              have p2 := cell_row X8.out (i := 2) rfl
              have p3 := cell_row X8.out (i := 3) rfl
              have LC : Hid (Calls Try.prog 8 #[.agg #[.slice p.q p.L.length p.c, .int .i64 p.g, .int .i64 p.k, .bool p.f], .string z, .int .i64 (i : Int)] wr fun e w' => (∃ n ok st, e = .returned (.tuple #[.int .i64 n, .bool ok, .int .i64 st, .int .i64 0]) ∧ LgS p.L (sL z) i n ok) ∧ Below wr.heap.size wr w') := hide (longest_ok (H.out.kept B8.out) z i (HZ.out i HIS.out) (by omega))
              go_upto_region 18 with (go_at_call 8; (with_reducible refine (LC.out).mono ?_); rintro e w9 ⟨⟨n9, ok9, st9, rfl, h1⟩, h2⟩; have S9 := hide h1; have B9 := hide (chain B8.out h2 (Nat.le_refl _)); have X9 := hide ((h2.block _ (lt_of_heap X8.out)).trans X8.out); have Y9 := hide ((h2.block _ (lt_of_heap Y8.out)).trans Y8.out); clear h1 h2)
              clear p0 p1 p2 p3 LC
              cases ok9 with
              | false =>
                have SN := hide (sea_no S8.out HF.out S9.out)
                go_wp2
                go_roundw
                case rel => exact ⟨i + 1, f, _, rfl, rfl, by go_num, Nat.succ_le_succ HIS.out, SN.out, B9.out, X9.out, Y9.out⟩
                case measure => simp only [intOf]; omega
              | true =>
                have SN := hide (sea_yes S8.out HF.out (by rw [sL_len]; exact HIS.out) S9.out)
                go_wp2
                go_roundw
                case rel => exact ⟨i + 1, (i : Int), n9, rfl, rfl, by go_num, Nat.succ_le_succ HIS.out, SN.out, B9.out, X9.out, Y9.out⟩
                case measure => simp only [intOf]; omega
      case rest =>
      obtain ⟨i, f, e, h16, h17, hS, hN, hB, hX, hY⟩ := hcut
      subst h16
      subst h17
      have B8 := hide hB
      have X8 := hide hX
      have Y8 := hide hY
      have SE := sea_end hS hN S6.out
      have NX := hide (fin_next S6.out)
      clear hB hX hY hS hN B7 X7 Y7
      obtain ⟨hfd, hft⟩ := SE
      have y0 := cell_row Y8.out (i := 0) rfl
      have y1 := cell_row Y8.out (i := 1) rfl
      have hw1 : IntKind.wrap .i64 ((a : Int) + 1) = (a : Int) + 1 := wrap_small _ (by omega) (by omega)
      cases fd with
      | false =>
        have HN : Hid (¬ 0 ≤ f) := hide (by simpa using hfd.symm)
        have hf : f < 0 := by have := HN.out; omega
        clear hfd hft
        go_wp2
        go_roundw
        case rel => exact ⟨a + 1, F, rfl, by go_num, Nat.succ_le_succ HAS.out, NX.out, B8.out, X8.out⟩
        case measure => simp only [intOf]; omega
      | true =>
        have hf : 0 ≤ f := by simpa using hfd.symm
        obtain ⟨hF, hT⟩ := hft rfl
        have hlF : ¬ F < lv := by have := LV.out F T S6.out; omega
        subst hF
        subst hT
        clear hfd hft
        go_wp2
        go_roundw
        case rel => exact ⟨a + 1, _, rfl, by go_num, Nat.succ_le_succ HAS.out, NX.out, B8.out, X8.out⟩
        case measure => simp only [intOf]; omega
end Go.Proofs.Ytbghleihgcenmaa
