/-
  addRows, Rows: contracts.
-/
import Derived.Test.YtihmnibopeljaaaDoorCut6
namespace Go.Proofs.YtihmnibopeljaaaDoor
open Go Go.RowKit

/-- A row in memory: its block, how many bytes, from which character to which. -/
structure Rw where
  g : Nat
  n : Nat
  a : Nat
  b : Nat
def rv (r : Rw) : Value := .slice (some ⟨r.g, 0, none⟩) r.n r.n
structure RowP (base : Nat) (w : World) (r : Rw) : Prop where
  lo : base ≤ r.g
  blk : ∃ cs : Array Value, w.heap[r.g]? = some (.cells cs 37 (0, 0)) ∧ cs.size = r.n * 2 ∧ ∀ k, k < r.n → cs[k * 2]? = some (.int .i64 (byt r.n r.a k : Int)) ∧ cs[k * 2 + 1]? = some (.int .i64 (byt r.n r.b k : Int))
structure RA (base : Nat) (w : World) (v : Value) (R : List Rw) : Prop where
  own : w.ownsRow base 35 1 v R.length (R.map rv)
  row : ∀ r ∈ R, RowP base w r
theorem RowP.lt {base : Nat} {w : World} {r : Rw} (h : RowP base w r) : r.g < w.heap.size := by obtain ⟨cs, q, _⟩ := h.blk; exact lt_of_heap q
theorem RowP.then {base : Nat} {w w' : World} {r : Rw} (h : RowP base w r) (hb : w'.heap[r.g]? = w.heap[r.g]?) : RowP base w' r := by
  obtain ⟨cs, h1, h2⟩ := h.blk
  exact ⟨h.lo, cs, hb.trans h1, h2⟩
theorem RA.fr {base : Nat} {w w' : World} {v : Value} {R : List Rw} (h : RA base w v R) (hf : Fr (fun _ => False) w w') : RA base w' v R :=
  ⟨ownsRow_fr h.own hf (fun _ _ q => q), fun r hr => (h.row r hr).then (hf.block _ (h.row r hr).lt (fun q => q))⟩
theorem RA.below {base : Nat} {w w' : World} {v : Value} {R : List Rw} (h : RA base w v R) (hb : Below w.heap.size w w') : RA base w' v R := h.fr (Fr.of_below hb)
theorem RA.nil (base : Nat) (w : World) : RA base w (.slice none 0 0) [] := ⟨World.ownsRow_nil _ _ _ _, fun r hr => by cases hr⟩

/-- How many rows a character is in; how many characters there are in all. -/
def cnt (c : Nat) (R : List Rw) : Nat := R.countP (fun r => decide (r.a ≤ c ∧ c ≤ r.b))
def tot (R : List Rw) : Int := (R.map (fun r => (r.b : Int) - r.a + 1)).sum
structure Cov (a b : Int) (R : List Rw) : Prop where
  pc : ∀ r ∈ R, Piece r.n r.a r.b
  cn : ∀ c : Nat, cnt c R = if a ≤ (c : Int) ∧ (c : Int) ≤ b then 1 else 0
  tt : tot R = max 0 (b - a + 1)
theorem Cov.app {a b m : Int} {R R' : List Rw} (h : Cov a m R) (h' : Cov (m + 1) b R') (h1 : a ≤ m) (h2 : m + 1 ≤ b) : Cov a b (R ++ R') := by
  refine ⟨fun r hr => ?_, fun c => ?_, ?_⟩
  · rcases List.mem_append.1 hr with q | q
    · exact h.pc r q
    · exact h'.pc r q
  · have e : cnt c (R ++ R') = cnt c R + cnt c R' := by simp [cnt]
    rw [e, h.cn, h'.cn]
    (repeat' split) <;> omega
  · have e : tot (R ++ R') = tot R + tot R' := by simp [tot]
    rw [e, h.tt, h'.tt]
    omega
theorem Cov.none {a b : Int} (h : b < a) : Cov a b [] := ⟨fun r hr => (by cases hr), fun c => (by rw [if_neg (by omega)]; rfl), by simp [tot]; omega⟩
theorem Cov.one {n a b g : Nat} (h : Piece n a b) : Cov (a : Int) (b : Int) [⟨g, n, a, b⟩] := by
  have hab := h.1.n.2.2.1
  refine ⟨fun r hr => ?_, fun c => ?_, ?_⟩
  · obtain rfl := List.mem_singleton.1 hr
    exact h
  · unfold cnt
    by_cases hc : a ≤ c ∧ c ≤ b
    · rw [if_pos (by omega)]
      simp [hc]
    · rw [if_neg (by omega), List.countP_singleton, if_neg (by simpa using hc)]
  · simp [tot]; omega

set_option maxHeartbeats 8000000 in
set_option maxRecDepth 1000000 in
/-- A piece becomes one row. -/
theorem addRows_one {base n a b : Nat} {w : World} {v : Value} {R : List Rw} (hp : Piece n a b) (h : RA base w v R) (hb : base ≤ w.heap.size) (hl : R.length ≤ 100) :
    Calls Tryd.prog 31 #[v, .int .i64 (a : Int), .int .i64 (b : Int)] w fun e w' => ∃ v' R', e = .returned v' ∧ RA base w' v' (R ++ R') ∧ Cov (a : Int) (b : Int) R' ∧ R'.length ≤ 1 ∧ Below base w w' ∧ base ≤ w'.heap.size := by
  obtain ⟨t0, hi, hz0, hz1, hz2⟩ := info_parts size_rowT
  have hs := hp.1
  have hn := hs.n
  have ea := enc_byt (hs.sub (Nat.le_refl _) (Nat.le_refl _) hn.2.2.1)
  have eb := enc_byt (hs.sub hn.2.2.1 (Nat.le_refl _) (Nat.le_refl _))
  have hrow := rowOf_c (a : Int) (b : Int) w (by omega) (by omega) (by omega) (by omega) n ea.1 eb.1 (by omega)
  have hcut := cutAt_c hs w
  have hcut' : Calls Tryd.prog 42 #[.int .i64 (a : Int), .int .i64 (b : Int)] w fun e w' => e = .returned (.int .i64 (b : Int)) ∧ w' = w := hcut.mono (by
    rintro e w' ⟨c, rfl, hc, hw⟩
    rw [cut_piece hp hc]
    exact ⟨rfl, hw⟩)
  have EA : Hid (∀ k, k < n → ((Utf8.encode (a : Int)).get! k).toNat = byt n a k) := ea.2.1
  have EB : Hid (∀ k, k < n → ((Utf8.encode (b : Int)).get! k).toNat = byt n b k) := eb.2.1
  have HP : Hid (Piece n a b) := hp
  have H : Hid (RA base w v R) := h
  have hab : ¬ (b : Int) < (a : Int) := by omega
  have hbb : ¬ (b : Int) < (b : Int) := by omega
  obtain ⟨qv, cv, rfl⟩ := ownsRow_shape h.own
  have HB : Hid (base ≤ w.heap.size) := hb
  have HN : Hid (1 ≤ n ∧ n ≤ 4 ∧ a ≤ b ∧ b ≤ 1114111) := hn
  have HL : Hid (R.length ≤ 100) := hl
  clear hcut ea eb hs hp h hn hb hl
  go_enter Tryd.func31, Tryd.ntmps31
  go_wp2_with first
    | (go_at_call 42; refine hcut'.mono ?_; rintro e w' ⟨rfl, h5⟩; subst w')
    | (go_at_call 43; refine Calls.mono hrow ?_; rintro e w5 ⟨rfl, hR5, h5, hg5⟩; have B5 : Hid (Below w.heap.size w w5) := h5; have R5 : Hid (RowB (Utf8.encode (a : Int)) (Utf8.encode (b : Int)) n n w5 w.heap.size) := hR5; have hsz := h5.size; clear h5 hR5)
    | (at_builtin; refine wpList_append_own_at _ rfl _ _ 24 rfl base 35 t0 (.slice none 0 0) 1 24 und_rows hi hz0 hz1 hz2 rfl (by decide) (.slice qv R.length cv) R.length (R.map rv) rfl ((H.out.below (chain B5.out ((Below.refl _ w5).alloc (Nat.le_refl _) (.cells #[.slice (some ⟨w.heap.size, 0, none⟩) n n] 35)) (Nat.le_refl _))).own) ⟨w5.heap.size, 0, none⟩ 1 1 [.slice (some ⟨w.heap.size, 0, none⟩) n n] rfl rfl (news1 _ _ _) (by simp [Value.oneCell']) (by have := HL.out; unfold maxLen; omega) (by have := HL.out; omega) (by have := HB.out; have := B5.out.size; simp; omega) ?_; intro v' w6 hown' hgrow _ hblk; have O6 : Hid (w6.ownsRow base 35 1 v' (R.length + 1) (R.map rv ++ [.slice (some ⟨w.heap.size, 0, none⟩) n n])) := hown'; have F6 : Hid (Fr (fun k => (Value.slice qv R.length cv).ownBlock = some k) w5 w6) := ((Fr.refl _ w5).alloc _).grown hgrow (fun z hz => hz); obtain ⟨q6, cap6, rfl⟩ := ownsRow_shape hown'; clear hown' hgrow hblk)
  go_ret
  have hne : ∀ g cs, w5.heap[g]? = some (.cells cs 37 (0, 0)) → (Value.slice qv R.length cv).ownBlock ≠ some g := fun g cs hg => ownsRow_not (H.out.below B5.out).own hg (by decide)
  refine ⟨_, [⟨w.heap.size, n, a, b⟩], rfl, ⟨?_, ?_⟩, Cov.one HP.out, Nat.le_refl _, ?_, ?_⟩
  · have := O6.out
    simpa [rv] using this
  · intro r hr
    rcases List.mem_append.1 hr with hr | hr
    · have h5 := (H.out.below B5.out).row r hr
      obtain ⟨cs, q1, _⟩ := h5.blk
      exact h5.then (F6.out.block _ h5.lt (hne _ _ q1))
    · obtain rfl := List.mem_singleton.1 hr
      obtain ⟨cs, q1, q2, q3⟩ := R5.out.blk
      refine ⟨HB.out, cs, (F6.out.block _ (lt_of_heap q1) (hne _ _ q1)).trans q1, q2, fun k hk => ?_⟩
      have := q3 k hk
      rw [EA.out k hk, EB.out k hk] at this
      exact this
  · refine chainF (B5.out.mono HB.out) F6.out HB.out (fun k hk => ?_)
    exact (ownsRow_at (H.out.below B5.out).own hk).1
  · exact Nat.le_trans HB.out (Nat.le_trans B5.out.size F6.out.size)

end Go.Proofs.YtihmnibopeljaaaDoor
