/-
  The laws' own helpers: pick, filled.
-/
import Derived.Test.YtofiidfnjgoenaaKnown
import Derived.Test.YtofiidfnjgoenaaFrame
namespace Go.Proofs.Ytofiidfnjgoenaa
open Go Go.RowKit

def pk (c : Int) (n : Int) : Int := (if c < 0 then -(c + 1) else c).tmod n
theorem pk_range {c : Int} {n : Nat} (hn : 0 < n) : 0 ≤ pk c n ∧ pk c n < n := by
  unfold pk
  have h0 : 0 ≤ (if c < 0 then -(c + 1) else c) := by split <;> omega
  rw [Int.tmod_eq_emod_of_nonneg h0]
  exact ⟨Int.emod_nonneg _ (by omega), Int.emod_lt_of_pos _ (by omega)⟩
theorem wf_range {x : Int} (h : (Lit.int .i64 x).wf = true) : -9223372036854775808 ≤ x ∧ x ≤ 9223372036854775807 := by
  simp [Lit.wf, IntKind.min, IntKind.max, IntKind.signed, IntKind.bits] at h
  omega

set_option maxHeartbeats 1000000 in
theorem pick_c (c : Int) (n : Nat) (hn : 0 < n) (hs : n ≤ 1000000) (hc : (Lit.int .i64 c).wf = true) (w : World) :
    Calls Try.prog 14 #[.int .i64 c, .int .i64 n] w fun e w' => e = .returned (.int .i64 (pk c n)) ∧ w' = w := by
  have hr := wf_range hc
  have hq := pk_range (c := c) hn
  have hz : ¬ ((n : Int) = 0) := by omega
  by_cases h0 : c < 0
  · have e1 : IntKind.i64.wrap (c + 1) = c + 1 := by rw [IntKind.wrap_i64]; omega
    have e2 : IntKind.i64.wrap (-(c + 1)) = -(c + 1) := by rw [IntKind.wrap_i64]; omega
    have e4 : pk c n = (-(c + 1)).tmod n := by unfold pk; rw [if_pos h0]
    have e3 : IntKind.i64.wrap ((-(c + 1)).tmod n) = (-(c + 1)).tmod n := by rw [← e4, IntKind.wrap_i64]; omega
    have HE : Hid _ := e4
    clear e4 hq
    go_enter Try.func14, Try.ntmps14
    go_wp2
    go_ret
    exact ⟨by rw [HE.out, Int.neg_tmod]; rfl, rfl⟩
  · have e4 : pk c n = c.tmod n := by unfold pk; rw [if_neg h0]
    have e3 : IntKind.i64.wrap (c.tmod n) = c.tmod n := by rw [← e4, IntKind.wrap_i64]; omega
    have HE : Hid _ := e4
    clear e4 hq
    go_enter Try.func14, Try.ntmps14
    go_wp2
    go_ret
    exact ⟨by rw [HE.out, Int.tmod_eq_emod_of_nonneg h0]; rfl, rfl⟩

theorem pick_i (c : Int) (n : Int) (hn : 0 < n) (hs : n ≤ 1000000) (hc : (Lit.int .i64 c).wf = true) (w : World) :
    Calls Try.prog 14 #[.int .i64 c, .int .i64 n] w fun e w' => e = .returned (.int .i64 (pk c n)) ∧ w' = w := by
  obtain ⟨m, rfl⟩ : ∃ m : Nat, n = m := ⟨n.toNat, by omega⟩
  exact pick_c c m (by omega) (by omega) hc w
/-- A room that was picked. -/
theorem pick_room (c : Int) : ∃ r : Nat, r ≤ 100000 ∧ pk c 100001 = r := by
  have h := pk_range (c := c) (n := 100001) (by decide)
  exact ⟨(pk c 100001).toNat, by have := h.2; have e : pk c ((100001 : Nat) : Int) = pk c 100001 := rfl; omega, by have := h.1; have e : pk c ((100001 : Nat) : Int) = pk c 100001 := rfl; omega⟩

/-- What is there when numbers were put in, one behind the other. -/
def fillL (room : Nat) (l : List Int) : List Int := l.foldl (putL room) []
theorem fillL_snoc (room : Nat) (l : List Int) (x : Int) : fillL room (l ++ [x]) = putL room (fillL room l) x := by simp [fillL]

theorem ArgI.slice {W : World} {v : Value} {zs : List Int} (h : ArgI W v zs) : ∃ q cap, v = .slice q zs.length cap ∧ zs.length ≤ maxLen ∧
    (∀ (i : Nat) (x : Int), zs[i]? = some x → ∃ g off, q = some ⟨g, off, none⟩ ∧ g < W.heap.size ∧ W.cell? ⟨g, off + i, none⟩ = some (.int .i64 x)) := by
  rcases h with ⟨p, cap, rfl, rfl⟩ | ⟨g, off, cap, rfl, h2, h3, h4, h5⟩
  · exact ⟨p, cap, rfl, Nat.zero_le _, fun i x hx => by simp at hx⟩
  · exact ⟨_, cap, rfl, Nat.le_trans h3 h4, fun i x hx => ⟨g, off, rfl, h2, h5 i x hx⟩⟩

set_option maxRecDepth 100000 in
set_option maxHeartbeats 4000000 in
theorem filled_c (room : Nat) (hr : room ≤ 100000) (zs : List Int) (v : Value) (w : World) (hz : ArgI w v zs) :
    Calls Try.prog 22 #[.int .i64 room, v] w fun e w' => ∃ b o p, e = .returned (.pointer (some ⟨b, 0, none⟩)) ∧ MAt w' b o p room (fillL room (zs.take 300)) ∧ New3 w.heap.size b o p ∧ Below w.heap.size w w' := by
  obtain ⟨q, cap, rfl, hlen, hcell⟩ := hz.slice
  have HC : Hid (∀ (i : Nat) (x : Int), zs[i]? = some x → ∃ g off, q = some ⟨g, off, none⟩ ∧ g < w.heap.size ∧ w.cell? ⟨g, off + i, none⟩ = some (.int .i64 x)) := hcell
  clear hcell hz
  unfold maxLen at hlen
  go_enter Try.func22, Try.ntmps22
  go_wp2_with (go_at_call 10; refine (new_c room hr _).mono ?_; rintro e w0 ⟨b, o, p, rfl, hm, hn, hb⟩; have M0 : Hid (MAt w0 b o p room []) := hm; have N0 : Hid (New3 w.heap.size b o p) := hn; have B0 : Hid (Below w.heap.size w w0) := hb; clear hm hn hb)
  go_loopw [7] (fun i wr => ∃ k : Nat, k ≤ zs.length ∧ k ≤ 300 ∧ i = .int .i64 k ∧ MAt wr b o p room (fillL room (zs.take k)) ∧ Below w.heap.size w wr) (fun i _ => zs.length - (intOf i).toNat)
  case atStart => exact ⟨0, Nat.zero_le _, Nat.zero_le _, rfl, by simpa [fillL] using M0.out, B0.out⟩
  case round =>
    obtain ⟨k, hk, hk3, rfl, hm, hb⟩ := hrel
    have M : Hid (MAt wr b o p room (fillL room (zs.take k))) := hm
    have B : Hid (Below w.heap.size w wr) := hb
    clear hm hb M0 B0
    by_cases hlt : k < zs.length
    · by_cases h3 : k < 300
      · have HX : Hid (zs.take (k + 1) = zs.take k ++ [zs[k]]) := take_next zs k hlt
        obtain ⟨g, off, rfl, hg, hc⟩ := HC.out k _ (List.getElem?_eq_getElem hlt)
        have hc' := (B.out.cell (p := ⟨g, off + k, none⟩) hg).trans hc
        generalize zs[k] = x at hc' HX
        clear hc
        have i0 : (0 : Int) ≤ (k : Int) := by omega
        have i1 : (k : Int) < (zs.length : Int) := by omega
        have i3 : (k : Int) < 300 := by omega
        go_wp2_with (go_at_call 13; refine (put_c M.out _).mono ?_; rintro e w2 ⟨rfl, hm, hf⟩; have M2 : Hid (MAt w2 b o p room (putL room (fillL room (zs.take k)) x)) := hm; have B2 : Hid (Below w.heap.size w w2) := chainF B.out hf (Nat.le_refl _) N0.out.own; clear hm hf)
        go_roundw
        case rel => exact ⟨k + 1, by omega, by omega, by go_num, by rw [HX.out, fillL_snoc]; exact M2.out, B2.out⟩
        case measure => simp [intOf]; omega
      · obtain rfl : k = 300 := by omega
        have i1 : (300 : Int) < (zs.length : Int) := by omega
        go_wp2
        go_ret
        first | exact ⟨b, o, p, rfl, M.out, N0.out, B.out⟩ | exact ⟨b, rfl, o, p, M.out, N0.out, B.out⟩
    · have e : zs.take k = zs.take 300 := by rw [List.take_of_length_le (by omega), List.take_of_length_le (by omega)]
      rw [e] at M
      clear e
      have i1 : ¬ ((k : Int) < (zs.length : Int)) := by omega
      go_wp2
      go_ret
      first | exact ⟨b, o, p, rfl, M.out, N0.out, B.out⟩ | exact ⟨b, rfl, o, p, M.out, N0.out, B.out⟩
end Go.Proofs.Ytofiidfnjgoenaa
