/-
  The reader takes a unit: contracts.
-/
import Derived.Test.YtihmnibopeljaaaDoorRdr
namespace Go.Proofs.YtihmnibopeljaaaDoor
open Go Go.RowKit

/-- What a reader holds. -/
structure Rs where
  L : List UInt8
  st : Int
  bg : Int
  hi : Int
/-- It is in order. -/
def Rs.ok (x : Rs) : Prop := (x.st = 0 ∨ x.st = 1 ∨ x.st = 2 ∨ x.st = 3) ∧ (x.st = 3 → 0 ≤ x.hi ∧ x.hi < 16)
/-- Right behind the backslash; within an escape. -/
def kindS (x : Rs) (r : Int) : Option Rs :=
  if r = 92 then some ⟨x.L ++ [92], 0, x.bg, x.hi⟩ else if r = 110 then some ⟨x.L ++ [10], 0, x.bg, x.hi⟩ else if r = 120 then some ⟨x.L, 2, x.bg, x.hi⟩ else none
def byteS (h d : Int) : UInt8 := UInt8.ofNat (h * 16 + d).toNat
def escS (x : Rs) (r : Int) : Option Rs :=
  if x.st = 1 then kindS x r else if hexv r < 0 then none else if x.st = 2 then some ⟨x.L, 3, x.bg, hexv r⟩ else some ⟨x.L ++ [byteS x.hi (hexv r)], 0, x.bg, x.hi⟩
/-- What a call leaves. -/
def Aft (base : Nat) (w : World) (b : Nat) (v : Value) (y : Option Rs) (w' : World) : Prop :=
  Fr (foot b v) w w' ∧ (y = none → w'.heap[b]? = w.heap[b]?) ∧ ∀ z, y = some z → ∃ v', RD base w' b v' z.L z.st z.bg z.hi
theorem Aft.none {base : Nat} {w w' : World} {b : Nat} {v : Value} (h : Fr (foot b v) w w') (he : w'.heap[b]? = w.heap[b]?) : Aft base w b v none w' := ⟨h, fun _ => he, fun z hz => by cases hz⟩
theorem Aft.some {base : Nat} {w w' : World} {b : Nat} {v v' : Value} {z : Rs} (h : Fr (foot b v) w w') (hr : RD base w' b v' z.L z.st z.bg z.hi) : Aft base w b v (some z) w' := ⟨h, fun q => (by cases q), fun y hy => by cases hy; exact ⟨v', hr⟩⟩

set_option maxHeartbeats 4000000 in
set_option maxRecDepth 1000000 in
theorem takeKind_c {base : Nat} {w : World} {b : Nat} {v : Value} {x : Rs} (h : RD base w b v x.L x.st x.bg x.hi) (hbase : base ≤ w.heap.size) (hl : x.L.length ≤ 70368744177664) (r : Int) :
    Calls Tryd.prog 51 #[.pointer (some ⟨b, 0, none⟩), .int .i32 r] w fun e w' => e = .returned (.bool (kindS x r).isSome) ∧ Aft base w b v (kindS x r) w' := by
  have H : Hid (RD base w b v x.L x.st x.bg x.hi) := h
  have c1 := h.cells.2.1
  have f1 := h.frz 1
  have lb := lt_of_heap h.hb
  clear h
  by_cases h1 : r = 92
  · subst h1
    have hk : Hid (kindS x 92 = some ⟨x.L ++ [92], 0, x.bg, x.hi⟩) := by show kindS x 92 = _; simp [kindS]
    have he := end_c H.out 92 hbase hl
    go_enter Tryd.func51, Tryd.ntmps51
    go_wp2_with (go_at_call 53; refine Calls.mono he ?_; rintro e w6 ⟨rfl, v6, h6, m6, f6⟩; have A6 : Hid (Aft base w b v (some ⟨x.L ++ [92], 0, x.bg, x.hi⟩) w6) := Aft.some f6 h6; clear h6 m6 f6)
    go_ret
    rw [hk.out]
    exact ⟨rfl, A6.out⟩
  have b1 : (r == 92) = false := by simpa using h1
  by_cases h2 : r = 110
  · subst h2
    have hk : Hid (kindS x 110 = some ⟨x.L ++ [10], 0, x.bg, x.hi⟩) := by show kindS x 110 = _; simp [kindS]
    have he := end_c H.out 10 hbase hl
    go_enter Tryd.func51, Tryd.ntmps51
    go_wp2_with (go_at_call 53; refine Calls.mono he ?_; rintro e w6 ⟨rfl, v6, h6, m6, f6⟩; have A6 : Hid (Aft base w b v (some ⟨x.L ++ [10], 0, x.bg, x.hi⟩) w6) := Aft.some f6 h6; clear h6 m6 f6)
    go_ret
    rw [hk.out]
    exact ⟨rfl, A6.out⟩
  have b2 : (r == 110) = false := by simpa using h2
  by_cases h3 : r = 120
  · subst h3
    have hk : Hid (kindS x 120 = some ⟨x.L, 2, x.bg, x.hi⟩) := by show kindS x 120 = _; simp [kindS]
    go_enter Tryd.func51, Tryd.ntmps51
    go_wp2
    go_ret
    rw [hk.out]
    exact ⟨rfl, Aft.some ((Fr.refl _ w).setCell (p := ⟨b, 1, none⟩) (.inl rfl) _) (H.out.state 2)⟩
  have b3 : (r == 120) = false := by simpa using h3
  have hk : Hid (kindS x r = none) := by show kindS x r = none; simp [kindS, h1, h2, h3]
  go_enter Tryd.func51, Tryd.ntmps51
  go_wp2
  go_ret
  rw [hk.out]
  exact ⟨rfl, Aft.none (Fr.refl _ w) rfl⟩

theorem or_hex : ∀ h d : Fin 16, bits .or .i64 ((h.val : Int) * 16) (d.val : Int) = (h.val : Int) * 16 + (d.val : Int) := by decide +kernel
theorem Aft.from {base : Nat} {w w1 w' : World} {b : Nat} {v : Value} {y : Option Rs} (hb : Below w.heap.size w w1) (hl : b < w.heap.size) (h : Aft base w1 b v y w') : Aft base w b v y w' :=
  ⟨(Fr.of_below hb).trans h.1, fun q => (h.2.1 q).trans (hb.block b hl), h.2.2⟩

set_option maxHeartbeats 4000000 in
set_option maxRecDepth 1000000 in
theorem takeEscape_c {base : Nat} {w : World} {b : Nat} {v : Value} {x : Rs} (h : RD base w b v x.L x.st x.bg x.hi) (hok : x.ok) (hst : x.st ≠ 0) (hbase : base ≤ w.heap.size) (hl : x.L.length ≤ 70368744177664) (r : Int) (hr0 : 0 ≤ r) (hrv : Lib.validRune r = true) :
    Calls Tryd.prog 47 #[.pointer (some ⟨b, 0, none⟩), .int .i32 r] w fun e w' => e = .returned (.bool (escS x r).isSome) ∧ Aft base w b v (escS x r) w' := by
  have H : Hid (RD base w b v x.L x.st x.bg x.hi) := h
  have c1 := h.cells.2.1
  have lb := lt_of_heap h.hb
  by_cases s1 : x.st = 1
  · rw [s1] at c1
    have hk : Hid (escS x r = kindS x r) := by show escS x r = _; rw [escS, if_pos s1]
    have he := takeKind_c h hbase hl r
    obtain ⟨y, hy⟩ : ∃ y, kindS x r = y := ⟨_, rfl⟩
    rw [hy] at he hk
    clear h hok hst s1 hy
    go_enter Tryd.func47, Tryd.ntmps47
    go_wp2_with (go_at_call 51; refine Calls.mono he ?_; rintro e w6 ⟨rfl, a6⟩; have A6 : Hid (Aft base w b v y w6) := a6; clear a6)
    go_ret
    rw [hk.out]
    exact ⟨rfl, A6.out⟩
  have b1 : (x.st == 1) = false := by simpa using s1
  have hix := index_c r w hr0 hrv
  obtain ⟨d, hd⟩ : ∃ d, hexv r = d := ⟨_, rfl⟩
  have hdr := hexv_range r
  rw [hd] at hix hdr
  by_cases hdn : d < 0
  · have hk : Hid (escS x r = none) := by show escS x r = _; rw [escS, if_neg s1, hd, if_pos hdn]
    clear h hok hst s1 hd
    go_enter Tryd.func47, Tryd.ntmps47
    go_wp2_with (go_at_call 52; refine Calls.mono hix ?_; rintro e w5 ⟨rfl, h5⟩; have B5 : Hid (Below w.heap.size w w5) := h5; clear h5)
    go_ret
    rw [hk.out]
    exact ⟨rfl, Aft.none (Fr.of_below B5.out) (B5.out.block b lb)⟩
  by_cases s2 : x.st = 2
  · have hk : Hid (escS x r = some ⟨x.L, 3, x.bg, d⟩) := by show escS x r = _; rw [escS, if_neg s1, hd, if_neg hdn, if_pos s2]
    rw [s2] at c1 b1
    clear h hok hst s1 hd
    go_enter Tryd.func47, Tryd.ntmps47
    go_wp2_with (go_at_call 52; refine Calls.mono hix ?_; rintro e w5 ⟨rfl, h5⟩; have B5 : Hid (Below w.heap.size w w5) := h5; have H5 : Hid (RD base w5 b v x.L x.st x.bg x.hi) := H.out.then h5; have k1 : w5.cell? ⟨b, 1, none⟩ = some (.int .i64 2) := s2 ▸ H5.out.cells.2.1; have g1 := H5.out.frz 1; have k3 : (w5.setCell ⟨b, 1, none⟩ (.int .i64 3)).cell? ⟨b, 3, none⟩ = some (.int .i64 x.hi) := (H5.out.state 3).cells.2.2.2; have g3 := (H5.out.state 3).frz 3; clear h5)
    go_ret
    rw [hk.out]
    refine ⟨rfl, Aft.from B5.out lb (Aft.some ?_ ((H5.out.state 3).high d))⟩
    exact ((Fr.refl _ w5).setCell (p := ⟨b, 1, none⟩) (.inl rfl) _).setCell (p := ⟨b, 3, none⟩) (.inl rfl) _
  · have s3 : x.st = 3 := by rcases hok.1 with q | q | q | q <;> first | exact absurd q hst | exact absurd q s1 | exact absurd q s2 | exact q
    obtain ⟨hh0, hh1⟩ := hok.2 s3
    have hk : Hid (escS x r = some ⟨x.L ++ [byteS x.hi d], 0, x.bg, x.hi⟩) := by show escS x r = _; rw [escS, if_neg s1, hd, if_neg hdn, if_neg s2]
    rw [s3] at c1 b1
    have hbv : ((byteS x.hi d).toNat : Int) = x.hi * 16 + d := by
      unfold byteS
      rw [UInt8.toNat_ofNat']
      omega
    obtain ⟨hv, hhv⟩ : ∃ y, x.hi = y := ⟨_, rfl⟩
    have hwr : IntKind.wrap .i64 (hv * 16) = hv * 16 := by rw [← hhv]; exact wrap_small _ (by omega) (by omega)
    have hor : bits .or .i64 (hv * 16) d = hv * 16 + d := by
      rw [← hhv]
      have := or_hex ⟨x.hi.toNat, by omega⟩ ⟨d.toNat, by omega⟩
      have e1 : ((x.hi.toNat : Nat) : Int) = x.hi := by omega
      have e2 : ((d.toNat : Nat) : Int) = d := by omega
      simp only [e1, e2] at this
      exact this
    have hw8 : IntKind.wrap .u8 (hv * 16 + d) = hv * 16 + d := by rw [← hhv, IntKind.wrap_u8]; omega
    have hsh : (2 : Int) ≠ 3 := by decide
    clear h hok hst s1 hd s2
    go_enter Tryd.func47, Tryd.ntmps47
    go_wp2_with first
      | (go_at_call 52; refine Calls.mono hix ?_; rintro e w5 ⟨rfl, h5⟩; have B5 : Hid (Below w.heap.size w w5) := h5; have H5 : Hid (RD base w5 b v x.L x.st x.bg x.hi) := H.out.then h5; have k1 : w5.cell? ⟨b, 1, none⟩ = some (.int .i64 3) := s3 ▸ H5.out.cells.2.1; have k3 : w5.cell? ⟨b, 3, none⟩ = some (.int .i64 hv) := hhv ▸ H5.out.cells.2.2.2; have he : Hid (Calls Tryd.prog 53 #[.pointer (some ⟨b, 0, none⟩), .int .u8 (hv * 16 + d)] w5 fun e w' => e = .returned (.tuple #[]) ∧ ∃ v', RD base w' b v' (x.L ++ [byteS x.hi d]) 0 x.bg x.hi ∧ moved v v' w5.heap.size ∧ Fr (foot b v) w5 w') := (by have q := end_c H5.out (byteS x.hi d) (Nat.le_trans hbase h5.size) hl; rw [hbv, hhv] at q; rw [hhv]; exact q); clear h5)
      | (go_at_call 53; refine Calls.mono he.out ?_; rintro e w6 ⟨rfl, v6, h6, m6, f6⟩; have A6 : Hid (Aft base w5 b v (some ⟨x.L ++ [byteS x.hi d], 0, x.bg, x.hi⟩) w6) := Aft.some f6 h6; clear h6 m6 f6)
    go_ret
    rw [hk.out]
    exact ⟨rfl, Aft.from B5.out lb A6.out⟩
end Go.Proofs.YtihmnibopeljaaaDoor
