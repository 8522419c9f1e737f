/-
  For the law of rows: is, a character's text, rows that are written over.
-/
import Derived.Test.YtihmnibopeljaaaDoorRd7
import Derived.Test.YtihmnibopeljaaaDoorWalk5
import Derived.Test.YtihmnibopeljaaaDoorExamples
namespace Go.Proofs.YtihmnibopeljaaaDoor
open Go Go.RowKit

set_option maxHeartbeats 2000000 in
theorem is_c (c : Int) (w : World) : Calls Tryd.prog 14 #[.int .i64 c] w fun e w' => e = .returned (.bool (isC c)) ∧ w' = w := by
  by_cases h0 : 0 ≤ c
  · by_cases h1 : c ≤ 1114111
    · by_cases h2 : c < 55296
      · have hc : isC c = true := by simp [isC]; omega
        go_enter Tryd.func14, Tryd.ntmps14
        go_wp2
        go_ret
        first | exact ⟨rfl, rfl⟩ | exact ⟨by rw [hc]; rfl, rfl⟩
      · by_cases h3 : 57343 < c
        · have hc : isC c = true := by simp [isC]; omega
          go_enter Tryd.func14, Tryd.ntmps14
          go_wp2
          go_ret
          first | exact ⟨rfl, rfl⟩ | exact ⟨by rw [hc]; rfl, rfl⟩
        · have hc : isC c = false := by simp [isC]; omega
          go_enter Tryd.func14, Tryd.ntmps14
          go_wp2
          go_ret
          first | exact ⟨rfl, rfl⟩ | exact ⟨by rw [hc]; rfl, rfl⟩
    · have hc : isC c = false := by simp [isC]; omega
      go_enter Tryd.func14, Tryd.ntmps14
      go_wp2
      go_ret
      first | exact ⟨rfl, rfl⟩ | exact ⟨by rw [hc]; rfl, rfl⟩
  · have hc : isC c = false := by simp [isC]; omega
    go_enter Tryd.func14, Tryd.ntmps14
    go_wp2
    go_ret
    first | exact ⟨rfl, rfl⟩ | exact ⟨by rw [hc]; rfl, rfl⟩

theorem u8_of (z : Int) (n : Nat) (h : z = (n : Int)) (hn : n < 256) : (z.toNat.toUInt8).toNat = n := by
  subst h
  rw [Int.toNat_natCast]
  exact ofN n hn
theorem enc_txt {c : Int} (h : isC c = true) : ∃ (m d : Nat), c = (d : Int) ∧ InS m d d ∧ (txt (Lib.encodeRune c)).size = m ∧ ∀ (k : Nat) (hk : k < (txt (Lib.encodeRune c)).size), ((txt (Lib.encodeRune c))[k]'hk).toNat = byt m d k := by
  have hc : 0 ≤ c ∧ c ≤ 1114111 ∧ (c < 55296 ∨ 57343 < c) := of_decide_eq_true h
  obtain ⟨d, rfl⟩ : ∃ d : Nat, c = (d : Int) := ⟨c.toNat, by omega⟩
  have hh : d ≤ 127 ∨ (128 ≤ d ∧ d ≤ 2047) ∨ (2048 ≤ d ∧ d ≤ 55295) ∨ (57344 ≤ d ∧ d ≤ 65535) ∨ (65536 ≤ d ∧ d ≤ 1114111) := by omega
  rcases hh with q | q | q | q | q
  · have e : Lib.encodeRune (d : Int) = [((d : Int)).toNat.toUInt8] := by unfold Lib.encodeRune; rw [Lib.encodeRuneZ_one (by omega) (by omega)]; rfl
    refine ⟨1, d, rfl, ⟨0, 127, .inl ⟨rfl, rfl, rfl⟩, by omega, by omega, by omega⟩, by rw [e]; rfl, ?_⟩
    rw [e]
    intro k hk
    have hk : k < 1 := hk
    have : k = 0 := by omega
    subst this
    show ((d : Int).toNat.toUInt8).toNat = _
    rw [u8_of _ d (by omega) (by omega)]; simp [byt]
  · have e : Lib.encodeRune (d : Int) = [(192 + (d : Int) / 64).toNat.toUInt8, (128 + (d : Int) % 64).toNat.toUInt8] := by unfold Lib.encodeRune; rw [Lib.encodeRuneZ_two (by omega) (by omega)]; rfl
    refine ⟨2, d, rfl, ⟨128, 2047, .inr (.inl ⟨rfl, rfl, rfl⟩), by omega, by omega, by omega⟩, by rw [e]; rfl, ?_⟩
    rw [e]
    intro k hk
    have hk : k < 2 := hk
    have : k = 0 ∨ k = 1 := by omega
    rcases this with rfl | rfl
    · show ((192 + (d : Int) / 64).toNat.toUInt8).toNat = _
      rw [u8_of _ (192 + d / 64) (by omega) (by omega)]; simp [byt]
    · show ((128 + (d : Int) % 64).toNat.toUInt8).toNat = _
      rw [u8_of _ (128 + d % 64) (by omega) (by omega)]; simp [byt]
  · have e : Lib.encodeRune (d : Int) = [(224 + (d : Int) / 4096).toNat.toUInt8, (128 + (d : Int) / 64 % 64).toNat.toUInt8, (128 + (d : Int) % 64).toNat.toUInt8] := by unfold Lib.encodeRune; rw [Lib.encodeRuneZ_three (by omega)]; rfl
    refine ⟨3, d, rfl, ⟨2048, 55295, .inr (.inr (.inl ⟨rfl, rfl, rfl⟩)), by omega, by omega, by omega⟩, by rw [e]; rfl, ?_⟩
    rw [e]
    intro k hk
    have hk : k < 3 := hk
    have : k = 0 ∨ k = 1 ∨ k = 2 := by omega
    rcases this with rfl | rfl | rfl
    · show ((224 + (d : Int) / 4096).toNat.toUInt8).toNat = _
      rw [u8_of _ (224 + d / 4096) (by omega) (by omega)]; simp [byt]
    · show ((128 + (d : Int) / 64 % 64).toNat.toUInt8).toNat = _
      rw [u8_of _ (128 + d / 64 % 64) (by omega) (by omega)]; simp [byt]
    · show ((128 + (d : Int) % 64).toNat.toUInt8).toNat = _
      rw [u8_of _ (128 + d % 64) (by omega) (by omega)]; simp [byt]
  · have e : Lib.encodeRune (d : Int) = [(224 + (d : Int) / 4096).toNat.toUInt8, (128 + (d : Int) / 64 % 64).toNat.toUInt8, (128 + (d : Int) % 64).toNat.toUInt8] := by unfold Lib.encodeRune; rw [Lib.encodeRuneZ_three (by omega)]; rfl
    refine ⟨3, d, rfl, ⟨57344, 65535, .inr (.inr (.inr (.inl ⟨rfl, rfl, rfl⟩))), by omega, by omega, by omega⟩, by rw [e]; rfl, ?_⟩
    rw [e]
    intro k hk
    have hk : k < 3 := hk
    have : k = 0 ∨ k = 1 ∨ k = 2 := by omega
    rcases this with rfl | rfl | rfl
    · show ((224 + (d : Int) / 4096).toNat.toUInt8).toNat = _
      rw [u8_of _ (224 + d / 4096) (by omega) (by omega)]; simp [byt]
    · show ((128 + (d : Int) / 64 % 64).toNat.toUInt8).toNat = _
      rw [u8_of _ (128 + d / 64 % 64) (by omega) (by omega)]; simp [byt]
    · show ((128 + (d : Int) % 64).toNat.toUInt8).toNat = _
      rw [u8_of _ (128 + d % 64) (by omega) (by omega)]; simp [byt]
  · have e : Lib.encodeRune (d : Int) = [(240 + (d : Int) / 262144).toNat.toUInt8, (128 + (d : Int) / 4096 % 64).toNat.toUInt8, (128 + (d : Int) / 64 % 64).toNat.toUInt8, (128 + (d : Int) % 64).toNat.toUInt8] := by unfold Lib.encodeRune; rw [Lib.encodeRuneZ_four (by omega) (by omega)]; rfl
    refine ⟨4, d, rfl, ⟨65536, 1114111, .inr (.inr (.inr (.inr ⟨rfl, rfl, rfl⟩))), by omega, by omega, by omega⟩, by rw [e]; rfl, ?_⟩
    rw [e]
    intro k hk
    have hk : k < 4 := hk
    have : k = 0 ∨ k = 1 ∨ k = 2 ∨ k = 3 := by omega
    rcases this with rfl | rfl | rfl | rfl
    · show ((240 + (d : Int) / 262144).toNat.toUInt8).toNat = _
      rw [u8_of _ (240 + d / 262144) (by omega) (by omega)]; simp [byt]
    · show ((128 + (d : Int) / 4096 % 64).toNat.toUInt8).toNat = _
      rw [u8_of _ (128 + d / 4096 % 64) (by omega) (by omega)]; simp [byt]
    · show ((128 + (d : Int) / 64 % 64).toNat.toUInt8).toNat = _
      rw [u8_of _ (128 + d / 64 % 64) (by omega) (by omega)]; simp [byt]
    · show ((128 + (d : Int) % 64).toNat.toUInt8).toNat = _
      rw [u8_of _ (128 + d % 64) (by omega) (by omega)]; simp [byt]

theorem newsL (W : World) (l : List Value) (t : TypeId) : ∀ (j : Nat) (u : Value), l[j]? = some u → (W.alloc (.cells l.toArray t)).cell? ((⟨W.heap.size, 0, none⟩ : Addr).add j) = some u := by
  intro j u h
  have : (W.alloc (.cells l.toArray t)).heap[W.heap.size]? = some (.cells l.toArray t (0, 0)) := alloc_new W _
  have e : ((⟨W.heap.size, 0, none⟩ : Addr).add j) = ⟨W.heap.size, j, none⟩ := by unfold Addr.add; simp; omega
  rw [e]
  exact cell_row this (by simpa using h)

/-- Rows that are written over: their blocks' sizes alone. -/
structure RS (base : Nat) (w : World) (v : Value) (R : List Rw) : Prop where
  own : w.ownsRow base 35 1 v R.length (R.map rv)
  row : ∀ r ∈ R, base ≤ r.g ∧ ∃ cs : Array Value, w.heap[r.g]? = some (.cells cs 37 (0, 0)) ∧ cs.size = r.n * 2
theorem RA.rs {base : Nat} {w : World} {v : Value} {R : List Rw} (h : RA base w v R) : RS base w v R :=
  ⟨h.own, fun r hr => by obtain ⟨cs, h1, h2, _⟩ := (h.row r hr).blk; exact ⟨(h.row r hr).lo, cs, h1, h2⟩⟩
theorem RS.put {base : Nat} {w : World} {v : Value} {R : List Rw} (h : RS base w v R) {r : Rw} (hr : r ∈ R) (o : Nat) (x : Value) : RS base (w.setCell ⟨r.g, o, none⟩ x) v R := by
  obtain ⟨_, cs0, q0, _⟩ := h.row r hr
  have hf : Fr (fun k => k = r.g) w (w.setCell ⟨r.g, o, none⟩ x) := (Fr.refl (fun k => k = r.g) w).setCell (p := ⟨r.g, o, none⟩) rfl x
  refine ⟨ownsRow_fr h.own hf (fun k hk e => ownsRow_not h.own q0 (by decide) (e ▸ hk)), fun r' hr' => ?_⟩
  obtain ⟨h1, cs, h2, h3⟩ := h.row r' hr'
  refine ⟨h1, ?_⟩
  by_cases e : r'.g = r.g
  · rw [e] at h2 ⊢
    exact ⟨_, heap_set_in h2 _ _, by simpa using h3⟩
  · exact ⟨cs, (hf.block _ (lt_of_heap h2) e).trans h2, h3⟩
theorem RS.cell {base : Nat} {w : World} {v : Value} {R : List Rw} (h : RS base w v R) {r : Rw} (hr : r ∈ R) {o : Nat} (ho : o < r.n * 2) : (∃ u, w.cell? ⟨r.g, o, none⟩ = some u) ∧ w.frozen? ⟨r.g, o, none⟩ = false := by
  obtain ⟨_, cs, h2, h3⟩ := h.row r hr
  exact ⟨⟨_, cell_row h2 (Array.getElem?_eq_getElem (by omega))⟩, frz_row h2 o⟩
theorem RS.at {base : Nat} {w : World} {v : Value} {R : List Rw} (h : RS base w v R) {i : Nat} {r : Rw} (hr : R[i]? = some r) : ∃ G cap, v = .slice (some ⟨G, 0, none⟩) R.length cap ∧ w.cell? ⟨G, i, none⟩ = some (.slice (some ⟨r.g, 0, none⟩) r.n r.n) := by
  have hi := (List.getElem?_eq_some_iff.1 hr).1
  obtain ⟨G, c, rfl⟩ := ownsRow_some h.own (by omega)
  exact ⟨G, c, rfl, ownsRow_cell h.own (u := rv r) (by simp [hr])⟩
end Go.Proofs.YtihmnibopeljaaaDoor
