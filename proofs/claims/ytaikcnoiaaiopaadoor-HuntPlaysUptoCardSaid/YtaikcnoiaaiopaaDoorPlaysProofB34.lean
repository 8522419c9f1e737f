/-
  Parts of the proof.
-/
import Derived.Test.YtaikcnoiaaiopaaDoorPlaysProofB33
import Derived.Lib.ConvBytes
import Derived.Laws.IdiomStrings
set_option linter.unusedSimpArgs false
namespace Go.Proofs.YtaikcnoiaaiopaaDoor
open Go Go.RowKit Go.Shelf
attribute [local go_sem] Oper.semAt_some
theorem prC_two : ∀ {l : List (Nat × Nat)} {j : Nat} {x : Nat × Nat}, l[j]? = some x → (prC l)[j * 2]? = some (.int .i64 (x.1 : Int)) ∧ (prC l)[j * 2 + 1]? = some (.int .i64 (x.2 : Int))
  | [], j, x, h => by simp at h
  | a :: l, 0, x, h => by
    simp at h; subst h
    exact ⟨rfl, rfl⟩
  | a :: l, j + 1, x, h => by
    have h2 := prC_two (l := l) (j := j) (x := x) (by simpa using h)
    rw [show (j + 1) * 2 = j * 2 + 1 + 1 by omega]
    exact h2
theorem pr_at {w : World} {base : Nat} {q : Option Addr} {c : Nat} {L : List (Nat × Nat)} (h : w.ownsRow base 52 2 (.slice q L.length c) L.length (prC L)) {j : Nat} {x : Nat × Nat} (hx : L[j]? = some x) :
    ∃ g, q = some ⟨g, 0, none⟩ ∧ g < w.heap.size ∧ w.cell? ⟨g, j * 2, none⟩ = some (.int .i64 (x.1 : Int)) ∧ w.cell? ⟨g, j * 2 + 1, none⟩ = some (.int .i64 (x.2 : Int)) := by
  have hj : j < L.length := (List.getElem?_eq_some_iff.1 hx).1
  obtain ⟨g, rfl⟩ : ∃ g, q = some ⟨g, 0, none⟩ := by
    rcases h.2 with ⟨_, e2⟩ | ⟨g, cap, cur, e, _⟩
    · omega
    · injection e with e _ _; exact ⟨g, e⟩
  exact ⟨g, rfl, (h.lt g rfl).2, (h.cellAt (j * 2) (by omega)).trans (prC_two hx).1, (h.cellAt (j * 2 + 1) (by omega)).trans (prC_two hx).2⟩
set_option maxRecDepth 100000 in
set_option maxHeartbeats 2000000 in
theorem same_c {w : World} {b1 b2 : Nat} {v1 v2 : Value} {L : List (Nat × Nat)} (h1 : w.ownsRow b1 52 2 v1 L.length (prC L)) (h2 : w.ownsRow b2 52 2 v2 L.length (prC L)) (hl : L.length ≤ 200000000) :
    Calls Tryd.prog 20 #[v1, v2] w fun e w' => e = .returned (.bool true) ∧ Below w.heap.size w w' := by
  obtain ⟨q1, c1, rfl⟩ := ownsRow_shape h1
  obtain ⟨q2, c2, rfl⟩ := ownsRow_shape h2
  have H1 := hide h1
  have H2 := hide h2
  clear h1 h2
  go_enter Tryd.func20, Tryd.ntmps20
  go_wp2
  go_loopw [5] (fun i wr => ∃ (k : Nat), i = .int .i64 (k : Int) ∧ k ≤ L.length ∧ Below w.heap.size w wr) (fun i _ => L.length + 1 - (intOf i).toNat)
  case atStart => exact ⟨0, rfl, by omega, Below.refl _ _⟩
  case round =>
    obtain ⟨k, rfl, hk, hb⟩ := hrel
    have HB := hide hb
    by_cases hlt : k < L.length
    · have i0 : (k : Int) < (L.length : Int) := by omega
      have i00 : (0 : Int) ≤ (k : Int) := by omega
      obtain ⟨x, hx⟩ : ∃ x, L[k]? = some x := ⟨_, List.getElem?_eq_getElem hlt⟩
      obtain ⟨g1, rfl, _, ca, cb⟩ := pr_at (ownsRow_fr (S := fun _ => False) H1.out (Fr.of_below hb) (fun _ _ q => q)) hx
      obtain ⟨g2, rfl, _, cc, cd⟩ := pr_at (ownsRow_fr (S := fun _ => False) H2.out (Fr.of_below hb) (fun _ _ q => q)) hx
      have wk : IntKind.wrap .i64 ((k : Int) + 1) = (k : Int) + 1 := wrap_small _ (by omega) (by omega)
      clear hx hb
      go_upto_region 6 with fail
      go_quiet (fail)
      have FIN := hide (show Below w.heap.size w (wr.drewN nq) from chain HB.out (below_drewN _ _) (Nat.le_refl _))
      go_wp2
      go_roundw
      case rel => exact ⟨k + 1, by go_num, by omega, FIN.out⟩
      case measure => simp [intOf]; omega
    · have i0 : ¬ (k : Int) < (L.length : Int) := by omega
      clear hb
      go_wp2
      go_ret
      exact ⟨rfl, HB.out⟩
def lowB (s : ByteArray) : ByteArray := ⟨s.data.map fun b => UInt8.ofNat (cB true b.toNat)⟩
theorem lowB_size (s : ByteArray) : (lowB s).size = s.size := Array.size_map
theorem cL_low (s : ByteArray) : cL false (lowB s) = cL true s := by
  unfold cL bL lowB
  simp only [Array.toList_map, List.map_map]
  refine List.map_congr_left fun b _ => ?_
  have h := cB_lt true b.toNat_lt
  simp only [Function.comp]
  have e : (UInt8.ofNat (cB true b.toNat)).toNat = cB true b.toNat := by
    rw [UInt8.toNat_ofNat']
    exact Nat.mod_eq_of_lt h
  rw [e]
  simp [cB]
def LowR (B : Nat) (s : ByteArray) (k : Nat) (W : World) : Prop := ∃ cur : Array Value, W.heap[B]? = some (.cells cur 5 (cur.size, cur.size + 1)) ∧ s.size ≤ cur.size ∧ ∀ (j : Nat) (hj : j < s.size), cur[j]? = some (.int .u8 ((if j < k then cB true (s[j]'hj).toNat else (s[j]'hj).toNat : Nat) : Int))
theorem cellF {W : World} {b : Nat} {c : Array Value} {t : TypeId} {fr : Nat × Nat} (h : W.heap[b]? = some (.cells c t fr)) {i : Nat} {v : Value} (hi : c[i]? = some v) : W.cell? ⟨b, i, none⟩ = some v := by simp [World.cell?, h, hi]
theorem LowR.get {B k : Nat} {s : ByteArray} {W : World} (h : LowR B s k W) {j : Nat} (hj : j < s.size) : W.cell? ⟨B, j, none⟩ = some (.int .u8 ((if j < k then cB true (s[j]'hj).toNat else (s[j]'hj).toNat : Nat) : Int)) := by
  obtain ⟨cur, h1, _, h3⟩ := h
  exact cellF h1 (h3 j hj)
theorem LowR.frz {B k : Nat} {s : ByteArray} {W : World} (h : LowR B s k W) {j : Nat} (hj : j < s.size) : W.frozen? ⟨B, j, none⟩ = false := by
  obtain ⟨cur, h1, h2, _⟩ := h
  simp [World.frozen?, h1]
  omega
theorem LowR.lt {B k : Nat} {s : ByteArray} {W : World} (h : LowR B s k W) : B < W.heap.size := by
  obtain ⟨cur, h1, _⟩ := h
  exact (Array.getElem?_eq_some_iff.1 h1).1
theorem LowR.put {B k : Nat} {s : ByteArray} {W : World} (h : LowR B s k W) (hk : k < s.size) : LowR B s (k + 1) (W.setCell ⟨B, k, none⟩ (.int .u8 ((cB true (s[k]'hk).toNat : Nat) : Int))) := by
  obtain ⟨cur, h1, h2, h3⟩ := h
  refine ⟨_, (heap_set_in h1 k _).trans (by rw [Array.size_setIfInBounds]), by rw [Array.size_setIfInBounds]; exact h2, fun j hj => ?_⟩
  rw [Array.getElem?_setIfInBounds]
  by_cases e : k = j
  · subst e
    rw [if_pos rfl, if_pos (by omega), if_pos (by omega)]
  · rw [if_neg e, h3 j hj]
    congr 3
    by_cases q : j < k
    · rw [if_pos q, if_pos (by omega)]
    · rw [if_neg q, if_neg (by omega)]
theorem LowR.skip {B k : Nat} {s : ByteArray} {W : World} (h : LowR B s k W) (hk : k < s.size) (e : cB true (s[k]'hk).toNat = (s[k]'hk).toNat) : LowR B s (k + 1) W := by
  obtain ⟨cur, h1, h2, h3⟩ := h
  refine ⟨cur, h1, h2, fun j hj => ?_⟩
  rw [h3 j hj]
  congr 3
  by_cases q : j < k
  · rw [if_pos q, if_pos (by omega)]
  · rw [if_neg q]
    by_cases q2 : j = k
    · subst q2
      rw [if_pos (by omega), e]
    · rw [if_neg (by omega)]
theorem low_new (w : World) (s : ByteArray) : LowR w.heap.size s 0 (Lib.bytesWorld w 5 s) := by
  refine ⟨_, Lib.bytesWorld_at_new w 5 s, ?_, fun j hj => ?_⟩
  · unfold Lib.bytesCells
    rw [Array.size_append, Array.size_map]
    exact Nat.le_add_right _ _
  · unfold Lib.bytesCells
    rw [Array.getElem?_append_left (by rw [Array.size_map]; exact hj), Array.getElem?_map, if_neg (by omega)]
    have : s.data[j]? = some (s[j]'hj) := by rw [Array.getElem?_eq_getElem hj]; rfl
    rw [this]; rfl
theorem low_below (w : World) (s : ByteArray) : Below w.heap.size w (Lib.bytesWorld w 5 s) := ⟨rfl, rfl, rfl, by rw [Lib.bytesWorld_size]; omega, fun k hk => Lib.bytesWorld_at_old w _ s k hk⟩
set_option maxRecDepth 100000 in
set_option maxHeartbeats 2000000 in
theorem lower_c (s : ByteArray) (w : World) (hs : s.size ≤ maxLen) :
    Calls Tryd.prog 19 #[.string s] w fun e w' => e = .returned (.string (lowB s)) ∧ Below w.heap.size w w' := by
  have hcv := Lib.run_convert_string_bytes (P := Tryd.prog) w 9 55 5 s Tryd.underlying9 Tryd.underlying55 Tryd.underlying5
  have LB := hide (low_below w s)
  have LN := hide (low_new w s)
  have mx : maxLen = 9223372036854775807 := rfl
  go_enter Tryd.func19, Tryd.ntmps19
  go_wp2
  go_loopw [4] (fun i wr => ∃ (k : Nat), i = .int .i64 (k : Int) ∧ k ≤ s.size ∧ Below w.heap.size w wr ∧ LowR w.heap.size s k wr) (fun i _ => s.size + 1 - (intOf i).toNat)
  case atStart => exact ⟨0, rfl, by omega, LB.out, LN.out⟩
  case round =>
    obtain ⟨k, rfl, hk, hb, hr⟩ := hrel
    have HB := hide hb
    have HR := hide hr
    clear hb hr
    by_cases hlt : k < s.size
    · have i0 : (k : Int) < (s.size : Int) := by omega
      have i00 : (0 : Int) ≤ (k : Int) := by omega
      have wk : IntKind.wrap .i64 ((k : Int) + 1) = (k : Int) + 1 := wrap_small _ (by omega) (by omega)
      have ck := HR.out.get hlt
      rw [if_neg (by omega)] at ck
      have fk := HR.out.frz hlt
      have hb8 : (s[k]'hlt).toNat < 256 := (s[k]'hlt).toNat_lt
      have PT := hide (HR.out.put hlt)
      have SK := hide (fun e => HR.out.skip hlt e)
      obtain ⟨b, hbb⟩ : ∃ b, (s[k]'hlt).toNat = b := ⟨_, rfl⟩
      rw [hbb] at ck hb8 PT SK
      clear hbb
      by_cases h65 : 65 ≤ b
      · have j0 : (65 : Int) ≤ (b : Int) := by omega
        by_cases h90 : b ≤ 90
        · have j1 : (b : Int) ≤ 90 := by omega
          have wb : IntKind.wrap .u8 ((b : Int) + 32) = (b : Int) + 32 := by rw [IntKind.wrap_u8]; omega
          have EQ : cB true b = b + 32 := by unfold cB; rw [if_pos ⟨rfl, h65, h90⟩]
          rw [EQ] at PT
          have FIN := hide (show Below w.heap.size w (wr.setCell ⟨w.heap.size, k, none⟩ (.int .u8 ((b : Int) + 32))) ∧ LowR w.heap.size s (k + 1) (wr.setCell ⟨w.heap.size, k, none⟩ (.int .u8 ((b : Int) + 32))) from ⟨HB.out.setCell (Nat.le_refl _) _, by have := PT.out; push_cast at this; exact this⟩)
          clear PT SK EQ h65 h90
          go_wp2
          go_roundw
          case rel => exact ⟨k + 1, by go_num, by omega, FIN.out⟩
          case measure => simp [intOf]; omega
        · have j1 : ¬ (b : Int) ≤ 90 := by omega
          have EQ : cB true b = b := by unfold cB; rw [if_neg (fun q => h90 q.2.2)]
          have FIN := hide (SK.out EQ)
          clear PT SK EQ h65 h90
          go_wp2
          go_roundw
          case rel => exact ⟨k + 1, by go_num, by omega, HB.out, FIN.out⟩
          case measure => simp [intOf]; omega
      · have j0 : ¬ (65 : Int) ≤ (b : Int) := by omega
        have EQ : cB true b = b := by unfold cB; rw [if_neg (fun q => h65 q.2.1)]
        have FIN := hide (SK.out EQ)
        clear PT SK EQ h65
        go_wp2
        go_roundw
        case rel => exact ⟨k + 1, by go_num, by omega, HB.out, FIN.out⟩
        case measure => simp [intOf]; omega
    · have i0 : ¬ (k : Int) < (s.size : Int) := by omega
      obtain rfl : k = s.size := by omega
      have hcv2 : ∀ c, (convert 55 9 (.slice (some ⟨w.heap.size, 0, none⟩) s.size c)).run Tryd.prog wr = .ok (.string (lowB s)) wr := fun c => by
        have hl : (lowB s).data.toList.length = s.size := by rw [Array.length_toList]; exact lowB_size s
        have := run_convert_bytes_back (P := Tryd.prog) wr 55 9 5 ⟨w.heap.size, 0, none⟩ c (lowB s).data.toList Tryd.underlying55 Tryd.underlying5 Tryd.underlying9 (fun j hj => by
          have hj' : j < s.size := by omega
          have hg := HR.out.get hj'
          rw [if_pos hj'] at hg
          rw [Addr.add_lit]
          simp only [Nat.zero_add]
          rw [hg]
          congr 2
          have h8 := cB_lt true (s[j]'hj').toNat_lt
          simp only [lowB, Array.getElem_toList, Array.getElem_map]
          have e : (UInt8.ofNat (cB true (s[j]'hj').toNat)).toNat = cB true (s[j]'hj').toNat := by
            rw [UInt8.toNat_ofNat']
            exact Nat.mod_eq_of_lt h8
          exact congrArg Int.ofNat e.symm)
        rw [hl] at this
        simpa using this
      go_wp2
      go_ret
      exact ⟨rfl, HB.out⟩
theorem sd_low {ws : List ByteArray} {line : ByteArray} {p k : Nat} : Sd false (ws.map lowB) (lowB line) p k ↔ Sd true ws line p k := by
  unfold Sd
  rw [cL_low]
  constructor
  · rintro ⟨s, h1, h2⟩
    rw [List.getElem?_map] at h1
    obtain ⟨s', h3, rfl⟩ := Option.map_eq_some_iff.1 h1
    exact ⟨s', h3, by rwa [cL_low] at h2⟩
  · rintro ⟨s, h1, h2⟩
    exact ⟨lowB s, by rw [List.getElem?_map, h1]; rfl, by rwa [cL_low]⟩
theorem allM_low {ws : List ByteArray} {line : ByteArray} (n : Nat) : allM false (ws.map lowB) (lowB line) n = allM true ws line n := by
  unfold allM allAt
  rw [List.length_map]
  congr 1
  funext p
  congr 1
  exact List.filter_congr (fun k _ => decide_eq_decide.2 sd_low)
theorem mayB_low (ws : List ByteArray) : mayB (ws.map lowB) = mayB ws := by
  unfold mayB
  rw [List.all_map, List.length_map]
  congr 2
  congr 1
  congr 1
  funext s
  simp only [Function.comp, wOk, lowB_size]
theorem Kp.other {base b0 n0 hb hb2 : Nat} {w0 V V' : World} {f : Bool} {T : Pt} {D : List Nat → Prop} {R : List Nat → Nat → Prop} {K : List Nat → Kn} {lg : Int} {cur : Array Value} (h : Kp base b0 w0 f T D R K hb lg V) (hf : Fr (fun k => k = hb2 ∨ n0 ≤ k) V V') (hn : V.heap.size ≤ n0) (h2 : V.heap[hb2]? = some (.cells cur 67 (0, 0))) (hne : hb2 ≠ hb) (h02 : hb2 ≠ 0) : Kp base b0 V' f T D R K hb lg V' := by
  obtain ⟨h1, st, h3⟩ := h.hi
  have hlt := lt_of_heap h3
  have nS : ¬ (hb = hb2 ∨ n0 ≤ hb) := fun q => by rcases q with q | q <;> omega
  refine ⟨⟨h1.keep (TrK.fr hf (fun i cur' t' hi hc q => ?_)), st, (hf.block _ hlt nS).trans h3⟩, tab_fr h.tab hf (fun q => by have := h.pos; have := h.lb; rcases q with q | q <;> omega), Below.refl _ _, h.pos, h.lb, Nat.le_trans h.lw (Nat.le_trans h.bl.size hf.size), fun st' h' => h.sw st' (by
    have h9 := (hf.block _ hlt nS).trans h3
    have := HM.inj h' h9
    subst this; exact h3)⟩
  have hlc := lt_of_heap hc
  rcases hi with hi | hi
  · subst hi
    rw [h2] at hc
    injection hc with hc
    injection hc with _ hc _
    rcases q with q | q <;> exact absurd (hc.trans q) (by decide)
  · omega
end Go.Proofs.YtaikcnoiaaiopaaDoor
