/-
  Places and Decode: contracts. The document's Right. Trees put together, as mathematics: Cat of Cats, Alt of Alts. The node of one character; the characters of a text.
-/
import Derived.Test.YtlodjinejeajcaaRightProofB7
import Derived.Test.YtlodjinejeajcaaC15
import Derived.Test.YtlodjinejeajcaaC16
import Derived.Test.YtlodjinejeajcaaC10
import Derived.OwnWalk
import Derived.Laws.MakeOwn
namespace Go.Proofs.Ytlodjinejeajcaa
open Go Go.RowKit

theorem news1 (W : World) (a : Value) (t : TypeId) : ∀ (j : Nat) (u : Value), [a][j]? = some u → (W.alloc (.cells #[a] t)).cell? ((⟨W.heap.size, 0, none⟩ : Addr).add j) = some u := by
  intro j u h
  match j, h with
  | 0, h => simp at h; subst h; simp [Addr.add]

/-- A text that is gone through beside a list of one's own (cells of the type e). -/
structure RI5 (s : ByteArray) (w : World) (k pos : Nat) (e : TypeId) (v : Value) (n : Nat) (L : List Value) (wr : World) : Prop where
  lo : w.heap.size ≤ k
  it : wr.heap[k]? = some (.stringIter s pos)
  own : wr.ownsRow w.heap.size e 1 v n L
  bel : Below w.heap.size w wr
theorem RI5.len {s : ByteArray} {w wr : World} {k pos n : Nat} {e : TypeId} {v : Value} {L : List Value} (h : RI5 s w k pos e v n L wr) : w.heap.size ≤ wr.heap.size := h.bel.size
theorem own_iterAt {wr : World} {base k p p' n : Nat} {e : TypeId} {s : ByteArray} {v : Value} {L : List Value} (h : wr.ownsRow base e 1 v n L) (hk : wr.heap[k]? = some (.stringIter s p)) : (wr.iterAt k s p').ownsRow base e 1 v n L := by
  obtain ⟨h1, h2 | ⟨g, cap, cur, q1, q2, q3, q4⟩⟩ := h
  · exact ⟨h1, .inl h2⟩
  · refine ⟨h1, .inr ⟨g, cap, cur, q1, q2, ?_, q4⟩⟩
    rw [Lib.iterAt_other _ _ _ _ _ (fun q => by rw [q, hk] at q3; cases q3)]
    exact q3
theorem RI5.next {s : ByteArray} {w wr : World} {k pos n : Nat} {e : TypeId} {v : Value} {L : List Value} (h : RI5 s w k pos e v n L wr) (p : Nat) : RI5 s w k p e v n L (wr.iterAt k s p) :=
  ⟨h.lo, Lib.iterAt_heap wr k s pos p h.it, own_iterAt h.own h.it, iter_below h.bel h.lo p⟩
theorem RI5.app {s : ByteArray} {w wr w6 : World} {k pos n m : Nat} {e : TypeId} {v v' : Value} {L M : List Value} {o : Obj} (h : RI5 s w k pos e v n L wr) (hown : w6.ownsRow w.heap.size e 1 v' m M) (hg : (wr.alloc o).grownBy w6 v.ownBlock) : RI5 s w k pos e v' m M w6 := by
  have hk := lt_of_heap h.it
  refine ⟨h.lo, ?_, hown, ?_⟩
  · rw [hg.block k (by simp; omega) ?_, Below.heap_alloc _ _ _ hk]
    · exact h.it
    · intro q
      obtain ⟨_, _, cur, hc⟩ := ownsRow_at h.own q.symm
      rw [h.it] at hc; cases hc
  · exact chainF h.bel (((Fr.refl (fun z => v.ownBlock = some z) wr).alloc _).grown hg (fun z hz => hz)) (Nat.le_refl _) (fun z hz => (ownsRow_at h.own hz).1)
theorem RI5.app0 {s : ByteArray} {w wr w6 : World} {k pos n m : Nat} {e : TypeId} {v v' : Value} {L M : List Value} (h : RI5 s w k pos e v n L wr) (hown : w6.ownsRow w.heap.size e 1 v' m M) (hg : wr.grownBy w6 v.ownBlock) : RI5 s w k pos e v' m M w6 := by
  have hk := lt_of_heap h.it
  refine ⟨h.lo, ?_, hown, ?_⟩
  · rw [hg.block k hk ?_]
    · exact h.it
    · intro q
      obtain ⟨_, _, cur, hc⟩ := ownsRow_at h.own q.symm
      rw [h.it] at hc; cases hc
  · exact chainF h.bel ((Fr.refl (fun z => v.ownBlock = some z) wr).grown hg (fun z hz => hz)) (Nat.le_refl _) (fun z hz => (ownsRow_at h.own hz).1)

/-- The places, and the characters, of units. -/
def plc (l : List (Nat × Int)) : List Int := l.map fun u => (u.1 : Int)
def chs (l : List (Nat × Int)) : List Int := l.map fun u => u.2
theorem plc_len (l : List (Nat × Int)) : (plc l).length = l.length := by simp [plc]
theorem chs_len (l : List (Nat × Int)) : (chs l).length = l.length := by simp [chs]

/-- Are all units characters? -/
def good (l : List (Nat × Int)) : Bool := l.all fun u => decide (0 ≤ u.2)
def dErr (l : List (Nat × Int)) : Int := if good l then 0 else 20
def dList (l : List (Nat × Int)) : List Int := if good l then chs l else []
set_option maxHeartbeats 4000000 in
set_option maxRecDepth 1000000 in
theorem decode_c (s : ByteArray) (w : World) (hs : s.size ≤ 1099511627776) :
    Calls Try.prog 57 #[.string s] w fun e w' => ∃ v, e = .returned (.tuple #[v, .int .i64 (dErr (us s))]) ∧ w'.ownsRow w.heap.size 3 1 v (dList (us s)).length (ints (dList (us s))) ∧ Below w.heap.size w w' := by
  obtain ⟨t0, hi, hz0, hz1, hz2⟩ := info_parts size_int
  go_enter Try.func57, Try.ntmps57
  go_wp2
  go_loopw [4] (fun t wr => ∃ (pos f : Nat) (acc : List (Nat × Int)), RI5 s w w.heap.size pos 3 t acc.length (ints (chs acc)) wr ∧ acc ++ uFrom s f pos = us s ∧ good acc = true ∧ s.size ≤ pos + f ∧ acc.length ≤ pos) (fun _ wr => s.size - wr.iterPos w.heap.size)
  case atStart => exact ⟨0, s.size, [], ⟨Nat.le_refl _, World.iter_heap w s 0, World.ownsRow_nil _ _ _ _, (Below.refl _ w).alloc (Nat.le_refl _) _⟩, rfl, rfl, by omega, by simp⟩
  case round =>
    obtain ⟨pos, f, acc, hR, hacc, hgd, hfu, hap⟩ := hrel
    obtain ⟨q, c, rfl⟩ := ownsRow_shape hR.own
    have R : Hid _ := hR
    have A : Hid (acc ++ uFrom s f pos = us s) := hacc
    have G : Hid (good acc = true) := hgd
    have hit := hR.it
    have hsz := hR.len
    clear hR hacc hgd
    by_cases hp : pos < s.size
    · obtain ⟨W2, hW2⟩ : ∃ W2, wr.iterAt w.heap.size s (pos + wd s pos) = W2 := ⟨_, rfl⟩
      have hnx : ∀ ty, (Instr.next (.pointer (some ⟨w.heap.size, 0, none⟩)) true ty).run Try.prog wr = .ok (.tuple #[.bool true, .int .i64 (pos : Int), .int .i32 ((Utf8.decode s pos).1 : Int)]) W2 := fun ty => by rw [← hW2]; exact Lib.run_next_any_at wr w.heap.size s pos ty hit hp
      have R2 : Hid (RI5 s w w.heap.size (pos + wd s pos) 3 (.slice q acc.length c) acc.length (ints (chs acc)) W2) := by rw [← hW2]; exact R.out.next (pos + wd s pos)
      clear hW2
      obtain ⟨f, rfl⟩ : ∃ g, f = g + 1 := ⟨f - 1, by omega⟩
      have A2 := A.out
      rw [uFrom_more s f pos hp] at A2
      have A3 : Hid (acc ++ ((pos, ch s pos) :: uFrom s f (pos + wd s pos)) = us s) := A2
      have hw := wd_pos s pos
      have hwd := (wd_le s pos hp).2
      have I : Hid (wr.heap[w.heap.size]? = some (.stringIter s pos)) := hit
      have hc := broken_c s pos
      have hdl := dec_le s pos
      clear A2 hit
      have hsz2 := R2.out.len
      rcases hb : bad s pos with _ | _
      · have e1 : Hid (ch s pos = (Utf8.decode s pos).1) := ch_good hb
        obtain ⟨r, hr⟩ : ∃ r, (Utf8.decode s pos).1 = r := ⟨_, rfl⟩
        rw [hr] at hnx hc hdl
        have e2' : ch s pos = (r : Int) := by rw [e1.out, hr]
        have e2 : Hid (ch s pos = (r : Int)) := e2'
        clear e2'
        clear hr
        have hwr : IntKind.wrap .i64 (r : Int) = (r : Int) := wrap_small _ (by omega) (by omega)
        go_wp2_with first
          | (go_at_call 68; (with_reducible refine (hc _ hp).mono ?_); rw [hb]; rintro e w5 ⟨rfl, h5⟩; subst w5)
          | (at_builtin; refine wpList_append_own_at _ rfl _ _ 59 rfl w.heap.size 3 t0 (.int .i64 0) 1 8 und_ints hi hz0 hz1 hz2 rfl (by decide) (.slice q acc.length c) acc.length (ints (chs acc)) rfl (World.ownsRow.alloc R2.out.own (.cells #[.int .i64 (r : Int)] 3)) ⟨W2.heap.size, 0, none⟩ 1 1 [.int .i64 (r : Int)] rfl rfl (news1 _ _ _) (by simp [Value.oneCell']) (by unfold maxLen; omega) (by omega) (by simp; omega) ?_; intro v' w6 hown' hgrow _ hblk; obtain ⟨g6, cap6, rfl⟩ := ownsRow_some hown' (Nat.succ_pos _); have R6 : Hid (RI5 s w w.heap.size (pos + wd s pos) 3 (.slice (some ⟨g6, 0, none⟩) (acc.length + 1) cap6) (acc.length + 1) (ints (chs acc) ++ [.int .i64 (r : Int)]) w6) := R2.out.app hown' hgrow; clear hown' hgrow hblk)
        go_roundw
        case rel =>
          refine ⟨pos + wd s pos, f, acc ++ [(pos, ch s pos)], ?_, by rw [← A3.out]; simp, ?_, by omega, by simp; omega⟩
          · have := R6.out
            rw [List.length_append, List.length_singleton, chs, List.map_append, ints_append]
            simp only [List.map_cons, List.map_nil, e2.out]
            exact this
          · have := G.out
            simp only [good, List.all_append, Bool.and_eq_true] at this ⊢
            refine ⟨this, ?_⟩
            simp [e2.out]
        case measure =>
          simp only [World.iterPos, R6.out.it, I.out]
          omega
      · have e1 : Hid _ := ch_bad hb
        go_wp2_with (go_at_call 68; (with_reducible refine (hc _ hp).mono ?_); rw [hb]; rintro e w5 ⟨rfl, h5⟩; subst w5)
        go_ret2
        have hn : good (us s) = false := by
          rw [← A3.out]
          simp [good, e1.out.1]
        have d1 : dErr (us s) = 20 := by rw [dErr, hn]; rfl
        have d2 : dList (us s) = [] := by rw [dList, hn]; rfl
        rw [d1, d2]
        exact ⟨_, rfl, World.ownsRow_nil _ _ _ _, R2.out.bel⟩
    · have hnx : ∀ ty, (Instr.next (.pointer (some ⟨w.heap.size, 0, none⟩)) true ty).run Try.prog wr = _ := fun ty => Lib.run_next_end_at wr w.heap.size s pos ty hit hp
      have A2 := A.out
      rw [uFrom_end s f pos hp, List.append_nil] at A2
      have A3 : Hid (acc = us s) := A2
      clear hit A2
      go_wp2
      go_ret2
      have hG : good (us s) = true := by rw [← A3.out]; exact G.out
      have d1 : dErr (us s) = 0 := by rw [dErr, hG]; rfl
      have d2 : dList (us s) = chs acc := by rw [dList, hG, ← A3.out]; rfl
      rw [d1, d2, chs_len]
      exact ⟨_, rfl, R.out.own, R.out.bel⟩
end Go.Proofs.Ytlodjinejeajcaa
namespace Go.Proofs.Ytlodjinejeajcaa
open Go Go.RowKit

theorem tl_to (most : Nat) : ∀ (a : List El) (k j : Nat) (z : Zl), (tl most k a)[j]? = some z → z.2 = min (k + j + z.1.2.sz) most
  | [], k, j, z, h => by simp [tl] at h
  | x :: a, k, 0, z, h => by
    rw [tl] at h
    simp at h
    subst h
    rfl
  | x :: a, k, j + 1, z, h => by
    rw [tl, List.getElem?_cons_succ] at h
    have := tl_to most a (k + 1) j z h
    omega
theorem laid_to {t : Tr} {j : Nat} {z : Zl} (h : (laidL 2001 t)[j]? = some z) : z.2 = min (j + z.1.2.sz) 2001 := by
  have h' : ((tl 2001 0 (pp [] t)).take 2001)[j]? = some z := by
    unfold laidL layS at h
    rw [List.nil_append, List.length_nil, Nat.sub_zero] at h
    exact h
  have hj : (tl 2001 0 (pp [] t))[j]? = some z := by
    obtain ⟨hl, hv⟩ := List.getElem?_eq_some_iff.1 h'
    rw [List.length_take] at hl
    rw [List.getElem_take] at hv
    exact List.getElem?_eq_some_iff.2 ⟨by omega, hv⟩
  have := tl_to _ _ _ _ _ hj
  omega
theorem look_num {c f : Bool} {p : Way} {t : Tr} {i g : Nat} (h : lookM c f p t i g = 0) (hk : t.f.k = 7) : t.f.n = (g : Int) + 1 := by
  obtain ⟨h1, h2, h3⟩ := look_parts h
  exact (table_iff.1 ⟨(by rw [hk]; rfl), h2, h3⟩).2 hk
/-- All these nodes are right. -/
def RG (c f : Bool) (pre : List El) : Prop := ∀ (j : Nat) (y : El), pre[j]? = some y → lookM c f y.1 y.2 j (grpM (pre.take j)) = 0
theorem RG.nil (c f : Bool) : RG c f [] := fun j y h => by simp at h
theorem RG.step {c f : Bool} {pre : List El} {x : El} (h : RG c f pre) (hx : lookM c f x.1 x.2 pre.length (grpM pre) = 0) : RG c f (pre ++ [x]) := fun j y hy => by
  rcases Nat.lt_or_ge j pre.length with hj | hj
  · rw [List.getElem?_append_left hj] at hy
    rw [List.take_append_of_le_length (by omega)]
    exact h j y hy
  · rw [List.getElem?_append_right hj] at hy
    have h0 : j - pre.length = 0 := by
      rcases Nat.eq_zero_or_pos (j - pre.length) with z | z
      · exact z
      · rw [show j - pre.length = (j - pre.length - 1) + 1 by omega] at hy
        simp at hy
    rw [h0] at hy
    simp at hy
    subst hy
    have hj2 : j = pre.length := by omega
    subst hj2
    rw [List.take_left]
    exact hx
theorem right_skip {c f : Bool} : ∀ (a b : List El) (i g : Nat), (∀ (j : Nat) (y : El), a[j]? = some y → lookM c f y.1 y.2 (i + j) (g + grpM (a.take j)) = 0) → rightM c f i g (a ++ b) = rightM c f (i + a.length) (g + grpM a) b
  | [], b, i, g, _ => by simp [grpM]
  | x :: a, b, i, g, h => by
    have h0 := h 0 x rfl
    rw [List.take_zero, Nat.add_zero] at h0
    have h0' : lookM c f x.1 x.2 i g = 0 := h0
    have ih := right_skip a b (i + 1) (g + (if x.2.f.k = 7 then 1 else 0)) (fun j y hy => by
      have := h (j + 1) y (by rw [List.getElem?_cons_succ]; exact hy)
      rw [List.take_succ_cons, grpM] at this
      rw [show i + 1 + j = i + (j + 1) by omega, Nat.add_assoc]
      exact this)
    rw [List.cons_append]
    simp only [rightM, h0', ne_eq, not_true, if_false]
    rw [ih, List.length_cons, grpM, show i + 1 + a.length = i + (a.length + 1) by omega, Nat.add_assoc]
theorem RG.stop {c f : Bool} {t : Tr} {j : Nat} {x : El} {m : Int} (h : RG c f ((pp [] t).take j)) (hx : (pp [] t)[j]? = some x) (hm : lookM c f x.1 x.2 j (grpM ((pp [] t).take j)) = m) (h0 : m ≠ 0) : rightM c f 0 0 (pp [] t) = m := by
  have hj := (List.getElem?_eq_some_iff.1 hx).1
  have e : pp [] t = (pp [] t).take j ++ x :: (pp [] t).drop (j + 1) := by
    have := List.take_append_drop j (pp [] t)
    rw [List.drop_eq_getElem_cons hj, (List.getElem?_eq_some_iff.1 hx).2] at this
    exact this.symm
  have hl : ((pp [] t).take j).length = j := by rw [List.length_take]; omega
  have hs := right_skip ((pp [] t).take j) (x :: (pp [] t).drop (j + 1)) 0 0 (fun k y hy => by rw [Nat.zero_add, Nat.zero_add]; exact h k y hy)
  rw [← e, Nat.zero_add, Nat.zero_add, hl] at hs
  rw [hs]
  simp only [rightM, hm, ne_eq, h0, not_false_eq_true, if_true]
theorem RG.all {c f : Bool} {t : Tr} (h : RG c f (pp [] t)) : rightM c f 0 0 (pp [] t) = 0 := by
  have hs := right_skip (pp [] t) [] 0 0 (fun k y hy => by rw [Nat.zero_add, Nat.zero_add]; exact h k y hy)
  rw [List.append_nil] at hs
  rw [hs]
  rfl
theorem take_pre {t : Tr} {j : Nat} {x : El} (hx : (pp [] t)[j]? = some x) : (pp [] t).take j ++ [x] <+: pp [] t := by
  have : (pp [] t).take (j + 1) = (pp [] t).take j ++ [x] := by rw [List.take_add_one, hx]; rfl
  rw [← this]
  exact List.take_prefix _ _
theorem take_at {t : Tr} {j k : Nat} {y : El} (h : ((pp [] t).take j)[k]? = some y) : (pp [] t)[k]? = some y := by
  obtain ⟨hl, hv⟩ := List.getElem?_eq_some_iff.1 h
  rw [List.length_take] at hl
  rw [List.getElem_take] at hv
  exact List.getElem?_eq_some_iff.2 ⟨by omega, hv⟩
open Classical in
theorem look_doc {c f : Bool} {p : Way} {t : Tr} {i g : Nat} (hbr : ∀ par i r, p = (par, i) :: r → par.f.k = 5 → brP r = true) : lookM c f p t i g = if i = 2000 then 42 else if 40 < p.length + 1 then 43 else if ¬ (formedR c f p t ∧ (t.f.k = 7 → t.f.n = (g : Int) + 1)) then 50 else if t.f.k = 7 ∧ 30 < t.f.n then 42 else if t.f.k = 8 ∧ ¬ (endP p t.f.n = false ∧ t.f.n ≤ (g : Int)) then 41 else 0 := by
  unfold lookM
  simp only [formed_iff hbr]
/-- How Right's loop stands. -/
structure RS (w5 : World) (t : Tr) (c f : Bool) (j gr : Nat) (v : Value) (W : World) : Prop where
  le : j ≤ 2000
  cnt : grpM ((pp [] t).take j) = gr
  row : W.ownsRow w5.heap.size 3 1 v gr (ints ((gpos 0 ((pp [] t).take j)).map Int.ofNat))
  bel : Below w5.heap.size w5 W
  ok : RG c f ((pp [] t).take j)
theorem RS.next {w5 W W' : World} {t : Tr} {c f : Bool} {j gr : Nat} {v : Value} {x : El} (h : RS w5 t c f j gr v W) (hx : (pp [] t)[j]? = some x) (hj : j < 2000) (h0 : lookM c f x.1 x.2 j gr = 0) (hk : x.2.f.k ≠ 7) (hb : Below W.heap.size W W') : RS w5 t c f (j + 1) gr v W' := by
  have hl := (List.getElem?_eq_some_iff.1 hx).1
  have hlen : ((pp [] t).take j).length = j := by rw [List.length_take]; omega
  have e : (pp [] t).take (j + 1) = (pp [] t).take j ++ [x] := by rw [List.take_add_one, hx]; rfl
  refine ⟨by omega, ?_, ?_, chain h.bel hb (Nat.le_refl _), ?_⟩
  · rw [e, grpM_snoc, if_neg hk, h.cnt]; rfl
  · rw [e, gpos_snoc, if_neg hk, List.append_nil]
    exact ownsRow_fr h.row (Fr.of_below (S := fun _ => False) hb) (fun _ _ z => z)
  · rw [e]
    refine h.ok.step ?_
    rw [hlen, h.cnt]
    exact h0
theorem RS.group {w5 W W' : World} {t : Tr} {c f : Bool} {j gr : Nat} {v v' : Value} {x : El} (h : RS w5 t c f j gr v W) (hx : (pp [] t)[j]? = some x) (hj : j < 2000) (h0 : lookM c f x.1 x.2 j gr = 0) (hk : x.2.f.k = 7) (hr : W'.ownsRow w5.heap.size 3 1 v' (gr + 1) (ints ((gpos 0 ((pp [] t).take j)).map Int.ofNat) ++ [.int .i64 (j : Int)])) (hb : Below w5.heap.size w5 W') : RS w5 t c f (j + 1) (gr + 1) v' W' := by
  have hl := (List.getElem?_eq_some_iff.1 hx).1
  have hlen : ((pp [] t).take j).length = j := by rw [List.length_take]; omega
  have e : (pp [] t).take (j + 1) = (pp [] t).take j ++ [x] := by rw [List.take_add_one, hx]; rfl
  refine ⟨by omega, ?_, ?_, hb, ?_⟩
  · rw [e, grpM_snoc, if_pos hk, h.cnt]
  · rw [e, gpos_snoc, if_pos hk, hlen, List.map_append, ints_append]
    exact hr
  · rw [e]
    refine h.ok.step ?_
    rw [hlen, h.cnt]
    exact h0
/-- A number back: where its group ends. -/
theorem RS.back {w5 W : World} {t : Tr} {c f : Bool} {j gr : Nat} {v : Value} {x : El} (h : RS w5 t c f j gr v W) (hx : (pp [] t)[j]? = some x) (hj : j < 2000) {N : Nat} (hN : N < gr) : ∃ jj : Nat, (gpos 0 ((pp [] t).take j))[N]? = some jj ∧ ∃ y, (pp [] t)[jj]? = some y ∧ jj < j ∧ (endP x.1 ((N : Int) + 1) = false ↔ min (jj + y.2.sz) 2001 ≤ j) := by
  have hl := (List.getElem?_eq_some_iff.1 hx).1
  have hlen : ((pp [] t).take j).length = j := by rw [List.length_take]; omega
  have hg : N < (gpos 0 ((pp [] t).take j)).length := by rw [gpos_len, h.cnt]; exact hN
  obtain ⟨jj, hjj⟩ : ∃ jj, (gpos 0 ((pp [] t).take j))[N]? = some jj := ⟨_, List.getElem?_eq_getElem hg⟩
  obtain ⟨y, hy, hiff⟩ := ended (take_pre hx) (fun k z hz hk => look_num (h.ok k z hz) hk) (by omega) hjj
  rw [hlen] at hiff
  have := (List.getElem?_eq_some_iff.1 hy).1
  exact ⟨jj, hjj, y, take_at hy, by omega, hiff⟩
set_option maxRecDepth 100000 in
set_option maxHeartbeats 16000000 in
theorem rright8 {w : World} {t : Tr} (c f : Bool) (hta : TA w t) (hsm : ∀ x ∈ pp [] t, x.2.f.rs.length ≤ 1048580) : Calls Try.prog 22 #[.agg #[.int .i64 t.f.k, .int .i64 t.f.n, .int .i64 t.f.mn, .int .i64 t.f.mx, .slice t.f.rq t.f.rs.length t.f.rc, .slice t.f.kq t.f.kl t.f.kc], .agg #[.bool c, .bool f]] w fun e w' => e = .returned (.int .i64 (rightM c f 0 0 (pp [] t))) ∧ Below w.heap.size w w' := by
  have B1 : Hid (Below w.heap.size w ((w.alloc (.cells #[.int .i64 t.f.k, .int .i64 t.f.n, .int .i64 t.f.mn, .int .i64 t.f.mx, .slice t.f.rq t.f.rs.length t.f.rc, .slice t.f.kq t.f.kl t.f.kc] 25)).alloc (.cells #[.bool c, .bool f] 27))) := ((Below.refl _ _).alloc (Nat.le_refl _) _).alloc (by simp) _
  have N1 : Hid (BoxN ((w.alloc (.cells #[.int .i64 t.f.k, .int .i64 t.f.n, .int .i64 t.f.mn, .int .i64 t.f.mx, .slice t.f.rq t.f.rs.length t.f.rc, .slice t.f.kq t.f.kl t.f.kc] 25)).alloc (.cells #[.bool c, .bool f] 27)) w.heap.size t.f) := (Below.heap_alloc _ _ _ (by simp)).trans (alloc_new w _)
  have M1 : Hid (((w.alloc (.cells #[.int .i64 t.f.k, .int .i64 t.f.n, .int .i64 t.f.mn, .int .i64 t.f.mx, .slice t.f.rq t.f.rs.length t.f.rc, .slice t.f.kq t.f.kl t.f.kc] 25)).alloc (.cells #[.bool c, .bool f] 27)).heap[w.heap.size + 1]? = some (.cells #[.bool c, .bool f] 27 (0, 0))) := (by
    have := alloc_new (w.alloc (.cells #[.int .i64 t.f.k, .int .i64 t.f.n, .int .i64 t.f.mn, .int .i64 t.f.mx, .slice t.f.rq t.f.rs.length t.f.rc, .slice t.f.kq t.f.kl t.f.kc] 25)) (.cells #[.bool c, .bool f] 27)
    rwa [World.size_alloc] at this)
  have HTA := hide hta
  have HSM := hide hsm
  obtain ⟨R, hR⟩ : ∃ R, rightM c f 0 0 (pp [] t) = R := ⟨_, rfl⟩
  rw [hR]
  have HR := hide hR
  clear hta hsm hR
  go_enter Try.func22, Try.ntmps22
  go_upto_region 1 with fail
  generalize ((w.alloc (.cells #[.int .i64 t.f.k, .int .i64 t.f.n, .int .i64 t.f.mn, .int .i64 t.f.mx, .slice t.f.rq t.f.rs.length t.f.rc, .slice t.f.kq t.f.kl t.f.kc] 25)).alloc (.cells #[.bool c, .bool f] 27)) = W1 at B1 N1 M1 ⊢
  generalize w.heap.size + 1 = bm at M1 ⊢
  obtain ⟨c0, c1, c2, c3, c4, c5⟩ := N1.out.six
  simp only [Nat.zero_add] at c1 c2 c3 c4 c5
  have LA := hide (laid_c (w := W1) 2001 (by omega) (HTA.out.kept B1.out))
  have HZL := hide (laidL_len 2001 t)
  have HZM := hide (laidL_map 2001 t)
  have HTO := hide (fun (j : Nat) (z : Zl) (h : (laidL 2001 t)[j]? = some z) => laid_to h)
  have hz := laidL_len 2001 t
  have hzl : (laidL 2001 t).length ≤ 2001 := by omega
  clear hz
  generalize laidL 2001 t = Z at LA HZL HZM HTO hzl
  go_upto_region 5 with (go_at_call 41; refine (LA.out).mono ?_; rintro e w5 ⟨q5, k5, rfl, h51, h52⟩; have Z5 := hide h51; have B5 := hide h52; clear h51 h52)
  have M5 := hide ((B5.out.block _ (lt_of_heap M1.out)).trans M1.out)
  have B6 := hide (chain B1.out B5.out (Nat.le_refl _))
  clear c0 c1 c2 c3 c4 c5 LA B1 B5 N1 M1
  go_loopw [8, 7, 6] (fun i v g wr => ∃ (j gr : Nat) (q : Option Addr) (ca : Nat), j ≤ Z.length ∧ i = .int .i64 (j : Int) ∧ v = .slice q gr ca ∧ g = .int .i64 (gr : Int) ∧ RS w5 t c f j gr (.slice q gr ca) wr) (fun i _ _ _ => Z.length - (intOf i).toNat)
  case atStart => exact ⟨0, 0, none, 0, Nat.zero_le _, rfl, rfl, rfl, ⟨Nat.zero_le _, rfl, World.ownsRow_nil _ _ _ _, Below.refl _ _, RG.nil c f⟩⟩
  case round =>
    obtain ⟨j, gr, q, ca, hj, rfl, rfl, rfl, hs⟩ := hrel
    have HS := hide hs
    have hgr : gr ≤ 2000 := by
      have h1 := hs.cnt
      have h2 := grpM_le ((pp [] t).take j)
      rw [List.length_take] at h2
      have := hs.le
      omega
    have hj2 := hs.le
    clear hs
    by_cases hjl : j < Z.length
    case neg =>
      have i0 : ¬ (j : Int) < (Z.length : Int) := by omega
      have HD := hide (show R = 0 by
        rw [← HR.out]
        have h1 := HZL.out
        have h2 := HS.out.ok
        rw [List.take_of_length_le (by omega)] at h2
        exact h2.all)
      have BX := hide (chain B6.out HS.out.bel (Nat.le_refl _))
      clear hjl
      go_wp2
      go_ret
      exact ⟨congrArg (fun z => Ending.returned (.int .i64 z)) HD.out.symm, BX.out⟩
    have i0 : (j : Int) < (Z.length : Int) := by omega
    obtain ⟨⟨x, o⟩, hx⟩ : ∃ z, Z[j]? = some z := ⟨_, List.getElem?_eq_getElem hjl⟩
    obtain ⟨ga, cz, hq⟩ := ownsRow_some Z5.out (by omega)
    injection hq with hq1 _ hq2
    subst hq1 hq2
    have YA : ZR W1.heap.size wr (.slice (some ⟨ga, 0, none⟩) Z.length k5) Z := ownsRow_fr Z5.out (Fr.of_below (S := fun _ => False) HS.out.bel) (fun _ _ z => z)
    have x0 : wr.cell? ⟨ga, j * 12, none⟩ = some (.int .i64 x.2.f.k) := YA.cells hx (j := 0) rfl
    have x1 : wr.cell? ⟨ga, j * 12 + 1, none⟩ = some (.int .i64 x.2.f.n) := YA.cells hx (j := 1) rfl
    have x2 : wr.cell? ⟨ga, j * 12 + 2, none⟩ = some (.int .i64 x.2.f.mn) := YA.cells hx (j := 2) rfl
    have x3 : wr.cell? ⟨ga, j * 12 + 3, none⟩ = some (.int .i64 x.2.f.mx) := YA.cells hx (j := 3) rfl
    have x4 : wr.cell? ⟨ga, j * 12 + 4, none⟩ = some (.slice x.2.f.rq x.2.f.rs.length x.2.f.rc) := YA.cells hx (j := 4) rfl
    have x5 : wr.cell? ⟨ga, j * 12 + 5, none⟩ = some (.slice x.2.f.kq x.2.f.kl x.2.f.kc) := YA.cells hx (j := 5) rfl
    have x6 : wr.cell? ⟨ga, j * 12 + 6, none⟩ = some (.int .i64 ((x.1.length : Int) + 1)) := YA.cells hx (j := 6) rfl
    have x7 : wr.cell? ⟨ga, j * 12 + 7, none⟩ = some (.int .i64 (arP x.1)) := YA.cells hx (j := 7) rfl
    have x8 : wr.cell? ⟨ga, j * 12 + 8, none⟩ = some (.bool (fiP x.1)) := YA.cells hx (j := 8) rfl
    have x9 : wr.cell? ⟨ga, j * 12 + 9, none⟩ = some (.bool (laP x.1)) := YA.cells hx (j := 9) rfl
    have x10 : wr.cell? ⟨ga, j * 12 + 10, none⟩ = some (.bool (brP x.1)) := YA.cells hx (j := 10) rfl
    have x11 : wr.cell? ⟨ga, j * 12 + 11, none⟩ = some (.int .i64 (o : Int)) := YA.cells hx (j := 11) rfl
    have hxt : (pp [] t)[j]? = some x := take_at (j := 2001) (by rw [← HZM.out, List.getElem?_map, hx]; rfl)
    have HX := hide hxt
    have HBR := hide (br_ok (take_pre hxt) HS.out.ok)
    have HST := hide (fun (m : Int) (h : lookM c f x.1 x.2 j gr = m) (h0 : m ≠ 0) => HR.out.symm.trans (HS.out.ok.stop hxt (by rw [HS.out.cnt]; exact h) h0))
    have BW := hide (chain B6.out HS.out.bel (Nat.le_refl _))
    have HNA := hide ((HTA.out.at (List.mem_of_getElem? hxt)).node.ck (CK.of_below BW.out))
    have HSL := hide (HSM.out x (List.mem_of_getElem? hxt))
    have MW := hide ((HS.out.bel.block _ (lt_of_heap M5.out)).trans M5.out)
    have hdp := told_deep (t := t) (pre := (pp [] t).take j) (x := x) (take_pre hxt)
    rw [List.length_take] at hdp
    have hdp2 : x.1.length ≤ 2001 := by omega
    have lga : ga < wr.heap.size := (ownsRow_at YA (g := ga) rfl).2.1
    have HYA := hide YA
    clear hx hxt YA hdp
    go_upto_region 8 with fail
    have K2 := hide (show Below wr.heap.size wr (wr.alloc (.cells #[.int .i64 x.2.f.k, .int .i64 x.2.f.n, .int .i64 x.2.f.mn, .int .i64 x.2.f.mx, .slice x.2.f.rq x.2.f.rs.length x.2.f.rc, .slice x.2.f.kq x.2.f.kl x.2.f.kc, .int .i64 ((x.1.length : Int) + 1), .int .i64 (arP x.1), .bool (fiP x.1), .bool (laP x.1), .bool (brP x.1), .int .i64 (o : Int)] 66)) from (Below.refl _ _).alloc (Nat.le_refl _) _)
    have P2 := hide (alloc_new wr (.cells #[.int .i64 x.2.f.k, .int .i64 x.2.f.n, .int .i64 x.2.f.mn, .int .i64 x.2.f.mx, .slice x.2.f.rq x.2.f.rs.length x.2.f.rc, .slice x.2.f.kq x.2.f.kl x.2.f.kc, .int .i64 ((x.1.length : Int) + 1), .int .i64 (arP x.1), .bool (fiP x.1), .bool (laP x.1), .bool (brP x.1), .int .i64 (o : Int)] 66))
    have M2 := hide ((K2.out.block _ (lt_of_heap MW.out)).trans MW.out)
    have A2 := hide (HNA.out.ck (CK.of_below K2.out))
    clear x0 x1 x2 x3 x4 x5 x6 x7 x8 x9 x10 x11
    generalize (wr.alloc (.cells #[.int .i64 x.2.f.k, .int .i64 x.2.f.n, .int .i64 x.2.f.mn, .int .i64 x.2.f.mx, .slice x.2.f.rq x.2.f.rs.length x.2.f.rc, .slice x.2.f.kq x.2.f.kl x.2.f.kc, .int .i64 ((x.1.length : Int) + 1), .int .i64 (arP x.1), .bool (fiP x.1), .bool (laP x.1), .bool (brP x.1), .int .i64 (o : Int)] 66)) = W2 at K2 P2 M2 A2 ⊢
    obtain ⟨b8, hb8⟩ : ∃ b8, wr.heap.size = b8 := ⟨_, rfl⟩
    have HNB := hide (show (Value.slice q gr ca).ownBlock ≠ some wr.heap.size from fun e => absurd (ownsRow_at HS.out.row e).2.1 (Nat.lt_irrefl _))
    rw [hb8] at P2 HNB ⊢
    clear hb8
    have B2 := hide (chain BW.out K2.out (Nat.le_refl _))
    have p0 : W2.cell? ⟨b8, 0, none⟩ = some (.int .i64 x.2.f.k) := cell_row P2.out (i := 0) rfl
    have p1 : W2.cell? ⟨b8, 1, none⟩ = some (.int .i64 x.2.f.n) := cell_row P2.out (i := 1) rfl
    have p2 : W2.cell? ⟨b8, 2, none⟩ = some (.int .i64 x.2.f.mn) := cell_row P2.out (i := 2) rfl
    have p3 : W2.cell? ⟨b8, 3, none⟩ = some (.int .i64 x.2.f.mx) := cell_row P2.out (i := 3) rfl
    have p4 : W2.cell? ⟨b8, 4, none⟩ = some (.slice x.2.f.rq x.2.f.rs.length x.2.f.rc) := cell_row P2.out (i := 4) rfl
    have p5 : W2.cell? ⟨b8, 5, none⟩ = some (.slice x.2.f.kq x.2.f.kl x.2.f.kc) := cell_row P2.out (i := 5) rfl
    have p6 : W2.cell? ⟨b8, 6, none⟩ = some (.int .i64 ((x.1.length : Int) + 1)) := cell_row P2.out (i := 6) rfl
    have p7 : W2.cell? ⟨b8, 7, none⟩ = some (.int .i64 (arP x.1)) := cell_row P2.out (i := 7) rfl
    have p8 : W2.cell? ⟨b8, 8, none⟩ = some (.bool (fiP x.1)) := cell_row P2.out (i := 8) rfl
    have p9 : W2.cell? ⟨b8, 9, none⟩ = some (.bool (laP x.1)) := cell_row P2.out (i := 9) rfl
    have p10 : W2.cell? ⟨b8, 10, none⟩ = some (.bool (brP x.1)) := cell_row P2.out (i := 10) rfl
    have p11 : W2.cell? ⟨b8, 11, none⟩ = some (.int .i64 (o : Int)) := cell_row P2.out (i := 11) rfl
    have m0 : W2.cell? ⟨bm, 0, none⟩ = some (.bool c) := cell_row M2.out (i := 0) rfl
    have m1 : W2.cell? ⟨bm, 1, none⟩ = some (.bool f) := cell_row M2.out (i := 1) rfl
    by_cases h2000 : j = 2000
    · have e1 : (2000 : Int) ≤ (j : Int) := by omega
      have HD := hide (show R = 42 from HST.out 42 (by unfold lookM; rw [if_pos h2000]) (by decide))
      clear h2000
      go_wp2
      go_ret
      exact ⟨congrArg (fun z => Ending.returned (.int .i64 z)) HD.out.symm, B2.out⟩
    have e1 : ¬ (2000 : Int) ≤ (j : Int) := by omega
    have hj3 : j < 2000 := by omega
    by_cases h40 : 40 < x.1.length + 1
    · have e2 : (40 : Int) < (x.1.length : Int) + 1 := by omega
      have HD := hide (show R = 43 from HST.out 43 (by unfold lookM; rw [if_neg h2000, if_pos h40]) (by decide))
      clear h2000 h40
      go_wp2
      go_ret
      exact ⟨congrArg (fun z => Ending.returned (.int .i64 z)) HD.out.symm, B2.out⟩
    have e2 : ¬ (40 : Int) < (x.1.length : Int) + 1 := by omega
    have FM := hide (rformed x.1 x.2 o c f A2.out HSL.out)
    have HL := hide (show lookM c f x.1 x.2 j gr = _ by rw [look_doc HBR.out, if_neg h2000, if_neg h40])
    clear h2000 h40
    go_upto_region 13 with (go_at_call 42; (with_reducible refine (FM.out).mono ?_); rintro e W3 ⟨b3, rfl, hb3, h3⟩; have I3 := hide hb3; have B3 := hide h3; clear hb3 h3)
    have K3 := hide (chain K2.out B3.out (Nat.le_refl _))
    have BZ := hide (chain B2.out B3.out (Nat.le_refl _))
    have P3 := hide ((B3.out.block _ (lt_of_heap P2.out)).trans P2.out)
    clear m0 m1 p0 p1 p2 p3 p4 p5 p6 p7 p8 p9 p10 p11 FM e2
    have p0 : W3.cell? ⟨b8, 0, none⟩ = some (.int .i64 x.2.f.k) := cell_row P3.out (i := 0) rfl
    have p1 : W3.cell? ⟨b8, 1, none⟩ = some (.int .i64 x.2.f.n) := cell_row P3.out (i := 1) rfl
    cases b3 with
    | false =>
      have HD := hide (show R = 50 from HST.out 50 (by rw [HL.out, if_pos (fun z => by cases I3.out.2 z.1)]) (by decide))
      go_wp2
      go_ret
      exact ⟨congrArg (fun z => Ending.returned (.int .i64 z)) HD.out.symm, BZ.out⟩
    | true =>
      have HF := hide (I3.out.1 rfl)
      by_cases h7 : x.2.f.k = 7
      · have e7 : (x.2.f.k == 7) = true := beq_iff_eq.2 h7
        have e8 : (x.2.f.k == 8) = false := beq_eq_false_iff_ne.2 (by omega)
        have H7 := hide h7
        clear h7
        by_cases hn : x.2.f.n = (gr : Int) + 1
        case neg =>
          have en : (x.2.f.n != (gr : Int) + 1) = true := bne_iff_ne.2 hn
          have HD := hide (show R = 50 from HST.out 50 (by rw [HL.out, if_pos (fun z => hn (z.2 H7.out))]) (by decide))
          clear hn
          go_wp2
          go_ret
          exact ⟨congrArg (fun z => Ending.returned (.int .i64 z)) HD.out.symm, BZ.out⟩
        have en : (x.2.f.n != (gr : Int) + 1) = false := by simpa using hn
        have HN := hide hn
        clear hn
        have R3 := hide (ownsRow_fr HS.out.row (Fr.of_below (S := fun _ => False) K3.out) (fun _ _ z => z))
        have S3 := hide (show w5.heap.size ≤ W3.heap.size from Nat.le_trans HS.out.bel.size K3.out.size)
        obtain ⟨t0, hi, hz0, hz1, hz2⟩ := info_parts size_int
        generalize hgp : ints ((gpos 0 ((pp [] t).take j)).map Int.ofNat) = GP at R3
        have HGP := hide hgp
        clear hgp
        go_upto_region 18 with (at_builtin; refine wpList_append_own_at _ rfl _ _ 59 rfl w5.heap.size 3 t0 (.int .i64 0) 1 8 und_ints hi hz0 hz1 hz2 rfl (by decide) (.slice q gr ca) gr GP rfl (World.ownsRow.alloc R3.out (.cells #[.int .i64 (j : Int)] 3)) ⟨W3.heap.size, 0, none⟩ 1 1 [.int .i64 (j : Int)] rfl rfl (news1 _ _ _) (by simp [Value.oneCell']) (by unfold maxLen; omega) (by omega) (by have := S3.out; simp; omega) ?_; intro v' w6 hown' hgrow _ hblk; obtain ⟨g6, cap6, rfl⟩ := ownsRow_some hown' (Nat.succ_pos _); have O6 := hide hown'; have G6 := hide hgrow; clear hown' hgrow hblk)
        have L6 := hide (show Below w5.heap.size w5 w6 from chainF (chain HS.out.bel K3.out (Nat.le_refl _)) (((Fr.refl (fun z => (Value.slice q gr ca).ownBlock = some z) W3).alloc (.cells #[.int .i64 (j : Int)] 3)).grown G6.out (fun z hz => hz)) (Nat.le_refl _) (fun z hz => (ownsRow_at R3.out hz).1))
        have P6 := hide (show w6.heap[b8]? = some (.cells #[.int .i64 x.2.f.k, .int .i64 x.2.f.n, .int .i64 x.2.f.mn, .int .i64 x.2.f.mx, .slice x.2.f.rq x.2.f.rs.length x.2.f.rc, .slice x.2.f.kq x.2.f.kl x.2.f.kc, .int .i64 ((x.1.length : Int) + 1), .int .i64 (arP x.1), .bool (fiP x.1), .bool (laP x.1), .bool (brP x.1), .int .i64 (o : Int)] 66 (0, 0)) from (G6.out.block _ (by simp; have := lt_of_heap P3.out; omega) (fun e => HNB.out e.symm)).trans ((Below.heap_alloc _ _ _ (lt_of_heap P3.out)).trans P3.out))
        have p0' : w6.cell? ⟨b8, 0, none⟩ = some (.int .i64 x.2.f.k) := cell_row P6.out (i := 0) rfl
        clear p0 p1
        by_cases h30 : 30 < gr + 1
        · have e3 : (30 : Int) < (gr : Int) + 1 := by omega
          have HD := hide (show R = 42 from HST.out 42 (by rw [HL.out, if_neg (fun z => z ⟨HF.out, fun _ => HN.out⟩), if_pos ⟨H7.out, by rw [HN.out]; exact e3⟩]) (by decide))
          have BX := hide (chain B6.out L6.out (Nat.le_refl _))
          clear h30
          go_wp2
          go_ret
          exact ⟨congrArg (fun z => Ending.returned (.int .i64 z)) HD.out.symm, BX.out⟩
        have e3 : ¬ (30 : Int) < (gr : Int) + 1 := by omega
        have HD := hide (show lookM c f x.1 x.2 j gr = 0 by rw [HL.out, if_neg (fun z => z ⟨HF.out, fun _ => HN.out⟩), if_neg (fun z => e3 (by have := z.2; rw [HN.out] at this; exact this)), if_neg (fun z => by have := z.1; rw [H7.out] at this; cases this)])
        clear h30
        go_wp2
        go_roundw
        case rel => exact ⟨j + 1, gr + 1, _, _, by omega, by go_num, rfl, by go_num, HS.out.group HX.out hj3 HD.out H7.out (by rw [HGP.out]; exact O6.out) L6.out⟩
        case measure => simp only [intOf]; omega
      have e7 : (x.2.f.k == 7) = false := beq_eq_false_iff_ne.2 h7
      by_cases h8 : x.2.f.k = 8
      case neg =>
        have e8 : (x.2.f.k == 8) = false := beq_eq_false_iff_ne.2 h8
        have HD := hide (show lookM c f x.1 x.2 j gr = 0 by rw [HL.out, if_neg (fun z => z ⟨HF.out, fun q => absurd q h7⟩), if_neg (fun z => h7 z.1), if_neg (fun z => h8 z.1)])
        have H7 := hide h7
        clear h7 h8
        go_wp2
        go_roundw
        case rel => exact ⟨j + 1, gr, _, _, by omega, by go_num, rfl, rfl, HS.out.next HX.out hj3 HD.out H7.out K3.out⟩
        case measure => simp only [intOf]; omega
      have e8 : (x.2.f.k == 8) = true := beq_iff_eq.2 h8
      have HL8 := hide (show lookM c f x.1 x.2 j gr = _ by rw [HL.out, if_neg (fun z => z ⟨HF.out, fun q => absurd q h7⟩), if_neg (fun z => h7 z.1)])
      have hn1 : 1 ≤ x.2.f.n := by
        have := HF.out.2
        unfold tableR at this
        rw [if_neg (by omega), if_neg (by omega), if_neg (by omega), if_neg (by omega), if_pos h8] at this
        exact this.1.1
      have H7 := hide h7
      have H8 := hide h8
      clear h7 h8 HL
      by_cases hg : x.2.f.n ≤ (gr : Int)
      case neg =>
        have eg : (gr : Int) < x.2.f.n := by omega
        have HD := hide (show R = 41 from HST.out 41 (by rw [HL8.out, if_pos ⟨H8.out, fun z => hg z.2⟩]) (by decide))
        clear hg hn1
        go_wp2
        go_ret
        exact ⟨congrArg (fun z => Ending.returned (.int .i64 z)) HD.out.symm, BZ.out⟩
      have eg : ¬ (gr : Int) < x.2.f.n := by omega
      obtain ⟨N, hN⟩ : ∃ N : Nat, x.2.f.n = (N : Int) + 1 := ⟨(x.2.f.n - 1).toNat, by omega⟩
      have HN := hide hN
      have hNg : N < gr := by omega
      have p1' : W3.cell? ⟨b8, 1, none⟩ = some (.int .i64 ((N : Int) + 1)) := by rw [← hN]; exact p1
      have eg' : ¬ (gr : Int) < (N : Int) + 1 := by omega
      have hnn : x.2.f.n ≤ (gr : Int) := hg
      have HNN := hide hnn
      clear p1 eg hg hn1 hN hnn
      obtain ⟨jj, hjj, y, hy, hjj2, hiff⟩ := HS.out.back HX.out hj3 hNg
      have R3 := ownsRow_fr HS.out.row (Fr.of_below (S := fun _ => False) K3.out) (fun _ _ z => z)
      obtain ⟨gb, cb, hqb⟩ := ownsRow_some R3 (by omega)
      injection hqb with hqb1 _ hqb2
      subst hqb1 hqb2
      have a0 : W3.cell? ⟨gb, N, none⟩ = some (.int .i64 (jj : Int)) := by
        have := ownsRow_cell R3 (j := N) (u := .int .i64 (jj : Int)) (ints_get (by rw [List.getElem?_map, hjj]; rfl))
        exact this
      obtain ⟨zz, hzz⟩ : ∃ zz, Z[jj]? = some zz := ⟨_, List.getElem?_eq_getElem (by omega)⟩
      have hyz : zz.1 = y := by
        have h1 : (pp [] t)[jj]? = some zz.1 := take_at (j := 2001) (by rw [← HZM.out, List.getElem?_map, hzz]; rfl)
        rw [hy] at h1
        exact (Option.some.inj h1).symm
      have hto := HTO.out jj zz hzz
      rw [hyz] at hto
      rw [← hto] at hiff
      have Y3 : ZR W1.heap.size W3 (.slice (some ⟨ga, 0, none⟩) Z.length k5) Z := ownsRow_fr HYA.out (Fr.of_below (S := fun _ => False) K3.out) (fun _ _ z => z)
      have a1 : W3.cell? ⟨ga, jj * 12 + 11, none⟩ = some (.int .i64 (zz.2 : Int)) := Y3.cells hzz (j := 11) rfl
      generalize zz.2 = tt at a1 hto hiff
      have lgb : gb < W3.heap.size := (ownsRow_at R3 (g := gb) rfl).2.1
      have HIF := hide hiff
      have hjz : jj < Z.length := by omega
      clear R3 Y3 hjj hy hzz hyz hto hiff
      by_cases hto : tt ≤ j
      · have et : ¬ (j : Int) < (tt : Int) := by omega
        have HD := hide (show lookM c f x.1 x.2 j gr = 0 by rw [HL8.out, if_neg (fun z => z.2 ⟨by rw [HN.out]; exact HIF.out.2 hto, HNN.out⟩)])
        clear hto
        go_wp2
        go_roundw
        case rel => exact ⟨j + 1, gr, _, _, by omega, by go_num, rfl, rfl, HS.out.next HX.out hj3 HD.out H7.out K3.out⟩
        case measure => simp only [intOf]; omega
      · have et : (j : Int) < (tt : Int) := by omega
        have HD := hide (show R = 41 from HST.out 41 (by rw [HL8.out, if_pos ⟨H8.out, fun z => hto (HIF.out.1 (by rw [← HN.out]; exact z.1))⟩]) (by decide))
        clear hto
        go_wp2
        go_ret
        exact ⟨congrArg (fun z => Ending.returned (.int .i64 z)) HD.out.symm, BZ.out⟩
end Go.Proofs.Ytlodjinejeajcaa
namespace Go.Proofs.Ytlodjinejeajcaa
open Go Go.RowKit

mutual
def Er.sz : Er → Nat | .mk _ _ _ _ _ ks => eszs ks + 1
def eszs : List Er → Nat | [] => 0 | x :: xs => x.sz + eszs xs
end
def Er.k : Er → Int | .mk k _ _ _ _ _ => k
def Er.ks : Er → List Er | .mk _ _ _ _ _ ks => ks
theorem esz_eq (x : Er) : x.sz = eszs x.ks + 1 := by cases x; rw [Er.sz]; rfl
theorem eszs_cons (x : Er) (l : List Er) : eszs (x :: l) = x.sz + eszs l := by rw [eszs]
theorem eszs_nil : eszs [] = 0 := by rw [eszs]
theorem eszs_append (a b : List Er) : eszs (a ++ b) = eszs a + eszs b := by
  induction a with
  | nil => rw [eszs_nil]; simp
  | cons x a ih => rw [List.cons_append, eszs_cons, eszs_cons, ih]; omega
theorem er_k (t : Tr) : (er t).k = t.f.k := by rw [er_eq]; rfl
theorem er_ks (t : Tr) : (er t).ks = t.ks.map er := by rw [er_eq]; rfl
theorem er_sz (t : Tr) : (er t).sz = t.sz := by
  refine Tr.ind (P := fun t => (er t).sz = t.sz) (fun t ih => ?_) t
  rw [esz_eq, er_ks, sz_eq]
  congr 1
  have : ∀ l : List Tr, (∀ u ∈ l, (er u).sz = u.sz) → eszs (l.map er) = szs l := by
    intro l
    induction l with
    | nil => intro _; rw [List.map_nil, eszs_nil, szs_nil]
    | cons x l ih2 =>
      intro h
      rw [List.map_cons, eszs_cons, szs_cons, h x (List.mem_cons_self ..), ih2 (fun u hu => h u (List.mem_cons_of_mem _ hu))]
  exact this t.ks ih
def catE (x : Er) : List Er := if x.k = 1 then [] else if x.k = 5 then x.ks else [x]
def altE (x : Er) : List Er := if x.k = 6 then x.ks else [x]
theorem catT_er (t : Tr) : (catT t).map er = catE (er t) := by
  unfold catT catE
  rw [er_k, er_ks]
  split
  · rfl
  · split <;> rfl
theorem altT_er (t : Tr) : (altT t).map er = altE (er t) := by
  unfold altT altE
  rw [er_k, er_ks]
  split <;> rfl
theorem catE_sz (x : Er) : eszs (catE x) ≤ x.sz := by
  unfold catE
  split
  · rw [eszs_nil]; omega
  · split
    · rw [esz_eq]; omega
    · rw [eszs_cons, eszs_nil]; omega
theorem altE_sz (x : Er) : eszs (altE x) ≤ x.sz := by
  unfold altE
  split
  · rw [esz_eq]; omega
  · rw [eszs_cons, eszs_nil]; omega
theorem join_sz (k : Int) (l : List Er) (k0 : Int) : (joinE k l (.mk k0 0 0 0 [] [])).sz ≤ eszs l + 1 := by
  unfold joinE
  split
  · rw [esz_eq]; exact Nat.le_refl _
  · rw [eszs_cons, eszs_nil]; omega
  · rw [esz_eq]; exact Nat.le_refl _
def catX (a b : Er) : Er := joinE 5 (catE a ++ catE b) (.mk 1 0 0 0 [] [])
def altX (a b : Er) : Er := joinE 6 (altE a ++ altE b) (.mk 2 0 0 0 [] [])
def cat3X (a b c : Er) : Er := joinE 5 (catE a ++ (catE b ++ catE c)) (.mk 1 0 0 0 [] [])
def alt3X (a b c : Er) : Er := joinE 6 (altE a ++ (altE b ++ altE c)) (.mk 2 0 0 0 [] [])
theorem catX_sz (a b : Er) : (catX a b).sz ≤ a.sz + b.sz + 1 := by
  have := join_sz 5 (catE a ++ catE b) 1
  rw [eszs_append] at this
  have h1 := catE_sz a
  have h2 := catE_sz b
  unfold catX
  omega
theorem altX_sz (a b : Er) : (altX a b).sz ≤ a.sz + b.sz + 1 := by
  have := join_sz 6 (altE a ++ altE b) 2
  rw [eszs_append] at this
  have h1 := altE_sz a
  have h2 := altE_sz b
  unfold altX
  omega
theorem cat3X_sz (a b c : Er) : (cat3X a b c).sz ≤ a.sz + b.sz + c.sz + 1 := by
  have := join_sz 5 (catE a ++ (catE b ++ catE c)) 1
  rw [eszs_append, eszs_append] at this
  have h1 := catE_sz a
  have h2 := catE_sz b
  have h3 := catE_sz c
  unfold cat3X
  omega
theorem alt3X_sz (a b c : Er) : (alt3X a b c).sz ≤ a.sz + b.sz + c.sz + 1 := by
  have := join_sz 6 (altE a ++ (altE b ++ altE c)) 2
  rw [eszs_append, eszs_append] at this
  have h1 := altE_sz a
  have h2 := altE_sz b
  have h3 := altE_sz c
  unfold alt3X
  omega
theorem catE_one {x : Er} (h1 : x.k ≠ 1) (h5 : x.k ≠ 5) : catE x = [x] := by unfold catE; rw [if_neg h1, if_neg h5]
theorem altE_one {x : Er} (h6 : x.k ≠ 6) : altE x = [x] := by unfold altE; rw [if_neg h6]
theorem cat_left {a b c : Er} (ha : a.k ≠ 1 ∧ a.k ≠ 5) (hb : b.k ≠ 1 ∧ b.k ≠ 5) (hc : c.k ≠ 1 ∧ c.k ≠ 5) : catX (catX a b) c = cat3X a b c := by
  unfold catX cat3X
  rw [catE_one ha.1 ha.2, catE_one hb.1 hb.2, catE_one hc.1 hc.2]
  rfl
theorem cat_right {a b c : Er} (ha : a.k ≠ 1 ∧ a.k ≠ 5) (hb : b.k ≠ 1 ∧ b.k ≠ 5) (hc : c.k ≠ 1 ∧ c.k ≠ 5) : catX a (catX b c) = cat3X a b c := by
  unfold catX cat3X
  rw [catE_one ha.1 ha.2, catE_one hb.1 hb.2, catE_one hc.1 hc.2]
  rfl
theorem alt_left {a b c : Er} (ha : a.k ≠ 6) (hb : b.k ≠ 6) (hc : c.k ≠ 6) : altX (altX a b) c = alt3X a b c := by
  unfold altX alt3X
  rw [altE_one ha, altE_one hb, altE_one hc]
  rfl
theorem alt_right {a b c : Er} (ha : a.k ≠ 6) (hb : b.k ≠ 6) (hc : c.k ≠ 6) : altX a (altX b c) = alt3X a b c := by
  unfold altX alt3X
  rw [altE_one ha, altE_one hb, altE_one hc]
  rfl
/-- Two trees that are the same, and small enough. -/
theorem same_yes8 {w : World} {a b : Tr} (ta : TA w a) (tb : TA w b) (h : er a = er b) (hs : (er a).sz ≤ 2000) : Calls Try.prog 18 #[.agg #[.int .i64 a.f.k, .int .i64 a.f.n, .int .i64 a.f.mn, .int .i64 a.f.mx, .slice a.f.rq a.f.rs.length a.f.rc, .slice a.f.kq a.f.kl a.f.kc], .agg #[.int .i64 b.f.k, .int .i64 b.f.n, .int .i64 b.f.mn, .int .i64 b.f.mx, .slice b.f.rq b.f.rs.length b.f.rc, .slice b.f.kq b.f.kl b.f.kc]] w fun e w' => e = .returned (.bool true) ∧ Below w.heap.size w w' :=
  (same8_c ta tb).mono fun e w' ⟨h1, h2⟩ => ⟨by
    have l1 : (pp [] a).length ≤ 2000 := by rw [pp_len, ← er_sz]; exact hs
    have l2 : (pp [] b).length ≤ 2000 := by rw [pp_len, ← er_sz, ← h]; exact hs
    rw [h1, h, sameB_refl, decide_eq_false (by omega), decide_eq_false (by omega)]
    rfl, h2⟩
/-- A row of two nodes in a block. -/
theorem arg_two {V : World} {g : Nat} {t1 t2 : Tr} (N : V.heap[g]? = some (.cells #[.int .i64 t1.f.k, .int .i64 t1.f.n, .int .i64 t1.f.mn, .int .i64 t1.f.mx, .slice t1.f.rq t1.f.rs.length t1.f.rc, .slice t1.f.kq t1.f.kl t1.f.kc, .int .i64 t2.f.k, .int .i64 t2.f.n, .int .i64 t2.f.mn, .int .i64 t2.f.mx, .slice t2.f.rq t2.f.rs.length t2.f.rc, .slice t2.f.kq t2.f.kl t2.f.kc] 25 (0, 0))) : ArgK V (.slice (some ⟨g, 0, none⟩) [t1, t2].length 2) [t1, t2] := by
  refine .inr ⟨g, 0, 2, rfl, lt_of_heap N, Nat.le_refl _, by unfold maxLen; decide, fun i t hi => ?_⟩
  match i, hi with
  | 0, hi =>
    simp at hi
    subst hi
    exact ⟨cell_row N (i := 0) rfl, cell_row N (i := 1) rfl, cell_row N (i := 2) rfl, cell_row N (i := 3) rfl, cell_row N (i := 4) rfl, cell_row N (i := 5) rfl⟩
  | 1, hi =>
    simp at hi
    subst hi
    exact ⟨cell_row N (i := 6) rfl, cell_row N (i := 7) rfl, cell_row N (i := 8) rfl, cell_row N (i := 9) rfl, cell_row N (i := 10) rfl, cell_row N (i := 11) rfl⟩
theorem arg_three {V : World} {g : Nat} {t1 t2 t3 : Tr} (N : V.heap[g]? = some (.cells #[.int .i64 t1.f.k, .int .i64 t1.f.n, .int .i64 t1.f.mn, .int .i64 t1.f.mx, .slice t1.f.rq t1.f.rs.length t1.f.rc, .slice t1.f.kq t1.f.kl t1.f.kc, .int .i64 t2.f.k, .int .i64 t2.f.n, .int .i64 t2.f.mn, .int .i64 t2.f.mx, .slice t2.f.rq t2.f.rs.length t2.f.rc, .slice t2.f.kq t2.f.kl t2.f.kc, .int .i64 t3.f.k, .int .i64 t3.f.n, .int .i64 t3.f.mn, .int .i64 t3.f.mx, .slice t3.f.rq t3.f.rs.length t3.f.rc, .slice t3.f.kq t3.f.kl t3.f.kc] 25 (0, 0))) : ArgK V (.slice (some ⟨g, 0, none⟩) [t1, t2, t3].length 3) [t1, t2, t3] := by
  refine .inr ⟨g, 0, 3, rfl, lt_of_heap N, Nat.le_refl _, by unfold maxLen; decide, fun i t hi => ?_⟩
  match i, hi with
  | 0, hi =>
    simp at hi
    subst hi
    exact ⟨cell_row N (i := 0) rfl, cell_row N (i := 1) rfl, cell_row N (i := 2) rfl, cell_row N (i := 3) rfl, cell_row N (i := 4) rfl, cell_row N (i := 5) rfl⟩
  | 1, hi =>
    simp at hi
    subst hi
    exact ⟨cell_row N (i := 6) rfl, cell_row N (i := 7) rfl, cell_row N (i := 8) rfl, cell_row N (i := 9) rfl, cell_row N (i := 10) rfl, cell_row N (i := 11) rfl⟩
  | 2, hi =>
    simp at hi
    subst hi
    exact ⟨cell_row N (i := 12) rfl, cell_row N (i := 13) rfl, cell_row N (i := 14) rfl, cell_row N (i := 15) rfl, cell_row N (i := 16) rfl, cell_row N (i := 17) rfl⟩
/-- A call that makes a tree. -/
def Mk8 (V : World) (X : Er) (e : Ending) (w' : World) : Prop := ∃ t', e = .returned (.agg #[.int .i64 t'.f.k, .int .i64 t'.f.n, .int .i64 t'.f.mn, .int .i64 t'.f.mx, .slice t'.f.rq t'.f.rs.length t'.f.rc, .slice t'.f.kq t'.f.kl t'.f.kc]) ∧ TA w' t' ∧ er t' = X ∧ Foot (fun k => V.heap.size ≤ k) t' ∧ Below V.heap.size V w'
section
variable {V : World} {g : Nat} {t1 t2 t3 : Tr}
theorem cat_two (N : V.heap[g]? = some (.cells #[.int .i64 t1.f.k, .int .i64 t1.f.n, .int .i64 t1.f.mn, .int .i64 t1.f.mx, .slice t1.f.rq t1.f.rs.length t1.f.rc, .slice t1.f.kq t1.f.kl t1.f.kc, .int .i64 t2.f.k, .int .i64 t2.f.n, .int .i64 t2.f.mn, .int .i64 t2.f.mx, .slice t2.f.rq t2.f.rs.length t2.f.rc, .slice t2.f.kq t2.f.kl t2.f.kc] 25 (0, 0))) (h1 : TA V t1) (h2 : TA V t2) (hs : (er t1).sz + (er t2).sz < 1000000) :
    Calls Try.prog 16 #[.slice (some ⟨g, 0, none⟩) 2 2] V (Mk8 V (catX (er t1) (er t2))) := by
  rw [er_sz, er_sz] at hs
  refine (cat_c (arg_two N) (fun u hu => by simp at hu; rcases hu with rfl | rfl <;> assumption) (by rw [szs_cons, szs_cons, szs_nil]; omega)).mono fun e w' ⟨t', a1, a2, a3, a4, a5⟩ => ⟨t', a1, a2, ?_, a3, a5⟩
  rw [a4]
  unfold catX
  rw [← catT_er, ← catT_er]
  simp
theorem alt_two (N : V.heap[g]? = some (.cells #[.int .i64 t1.f.k, .int .i64 t1.f.n, .int .i64 t1.f.mn, .int .i64 t1.f.mx, .slice t1.f.rq t1.f.rs.length t1.f.rc, .slice t1.f.kq t1.f.kl t1.f.kc, .int .i64 t2.f.k, .int .i64 t2.f.n, .int .i64 t2.f.mn, .int .i64 t2.f.mx, .slice t2.f.rq t2.f.rs.length t2.f.rc, .slice t2.f.kq t2.f.kl t2.f.kc] 25 (0, 0))) (h1 : TA V t1) (h2 : TA V t2) (hs : (er t1).sz + (er t2).sz < 1000000) :
    Calls Try.prog 17 #[.slice (some ⟨g, 0, none⟩) 2 2] V (Mk8 V (altX (er t1) (er t2))) := by
  rw [er_sz, er_sz] at hs
  refine (alt_c (arg_two N) (fun u hu => by simp at hu; rcases hu with rfl | rfl <;> assumption) (by rw [szs_cons, szs_cons, szs_nil]; omega)).mono fun e w' ⟨t', a1, a2, a3, a4, a5⟩ => ⟨t', a1, a2, ?_, a3, a5⟩
  rw [a4]
  unfold altX
  rw [← altT_er, ← altT_er]
  simp
theorem cat_three (N : V.heap[g]? = some (.cells #[.int .i64 t1.f.k, .int .i64 t1.f.n, .int .i64 t1.f.mn, .int .i64 t1.f.mx, .slice t1.f.rq t1.f.rs.length t1.f.rc, .slice t1.f.kq t1.f.kl t1.f.kc, .int .i64 t2.f.k, .int .i64 t2.f.n, .int .i64 t2.f.mn, .int .i64 t2.f.mx, .slice t2.f.rq t2.f.rs.length t2.f.rc, .slice t2.f.kq t2.f.kl t2.f.kc, .int .i64 t3.f.k, .int .i64 t3.f.n, .int .i64 t3.f.mn, .int .i64 t3.f.mx, .slice t3.f.rq t3.f.rs.length t3.f.rc, .slice t3.f.kq t3.f.kl t3.f.kc] 25 (0, 0))) (h1 : TA V t1) (h2 : TA V t2) (h3 : TA V t3) (hs : (er t1).sz + (er t2).sz + (er t3).sz < 1000000) :
    Calls Try.prog 16 #[.slice (some ⟨g, 0, none⟩) 3 3] V (Mk8 V (cat3X (er t1) (er t2) (er t3))) := by
  rw [er_sz, er_sz, er_sz] at hs
  refine (cat_c (arg_three N) (fun u hu => by simp at hu; rcases hu with rfl | rfl | rfl <;> assumption) (by rw [szs_cons, szs_cons, szs_cons, szs_nil]; omega)).mono fun e w' ⟨t', a1, a2, a3, a4, a5⟩ => ⟨t', a1, a2, ?_, a3, a5⟩
  rw [a4]
  unfold cat3X
  rw [← catT_er, ← catT_er, ← catT_er]
  simp
theorem alt_three (N : V.heap[g]? = some (.cells #[.int .i64 t1.f.k, .int .i64 t1.f.n, .int .i64 t1.f.mn, .int .i64 t1.f.mx, .slice t1.f.rq t1.f.rs.length t1.f.rc, .slice t1.f.kq t1.f.kl t1.f.kc, .int .i64 t2.f.k, .int .i64 t2.f.n, .int .i64 t2.f.mn, .int .i64 t2.f.mx, .slice t2.f.rq t2.f.rs.length t2.f.rc, .slice t2.f.kq t2.f.kl t2.f.kc, .int .i64 t3.f.k, .int .i64 t3.f.n, .int .i64 t3.f.mn, .int .i64 t3.f.mx, .slice t3.f.rq t3.f.rs.length t3.f.rc, .slice t3.f.kq t3.f.kl t3.f.kc] 25 (0, 0))) (h1 : TA V t1) (h2 : TA V t2) (h3 : TA V t3) (hs : (er t1).sz + (er t2).sz + (er t3).sz < 1000000) :
    Calls Try.prog 17 #[.slice (some ⟨g, 0, none⟩) 3 3] V (Mk8 V (alt3X (er t1) (er t2) (er t3))) := by
  rw [er_sz, er_sz, er_sz] at hs
  refine (alt_c (arg_three N) (fun u hu => by simp at hu; rcases hu with rfl | rfl | rfl <;> assumption) (by rw [szs_cons, szs_cons, szs_cons, szs_nil]; omega)).mono fun e w' ⟨t', a1, a2, a3, a4, a5⟩ => ⟨t', a1, a2, ?_, a3, a5⟩
  rw [a4]
  unfold alt3X
  rw [← altT_er, ← altT_er, ← altT_er]
  simp
end
end Go.Proofs.Ytlodjinejeajcaa
namespace Go.Proofs.Ytlodjinejeajcaa
open Go Go.RowKit

/-- The numbers of a character. -/
def oneP (f : Bool) (c : Int) (x : Int) : Prop := if f = true then foldP [(c, c)] x else x = c
/-- What the node of a character is. -/
def EC (f : Bool) (c : Int) (E : Er) : Prop := ∃ C, E = .mk 2 0 0 0 C [] ∧ IsC C (oneP f c)
theorem EC.one {f : Bool} {c : Int} {E E' : Er} (h : EC f c E) (k : EC f c E') : E = E' := by
  obtain ⟨C, rfl, h1⟩ := h
  obtain ⟨D, rfl, k1⟩ := k
  rw [h1.one k1 (fun _ => Iff.rfl)]
def setT (C : List (Int × Int)) (q : Option Addr) (k : Nat) : Tr := .mk ⟨2, 0, 0, 0, C, q, k, none, 0, 0⟩ []
theorem setT_ta {W : World} {base : Nat} {C : List (Int × Int)} {q : Option Addr} {k : Nat} (h : RR base W (.slice q C.length k) C) (hf : Fit C) (hl : C.length ≤ 1000) : TA W (setT C q k) ∧ Foot (fun i => base ≤ i) (setT C q k) := by
  refine ⟨(every_eq _).2 ⟨⟨h.arg, .inl ⟨none, 0, rfl, rfl, fun _ => rfl⟩, hf, ?_⟩, (everyL_iff _).2 fun u hu => by cases hu⟩, (every_eq _).2 ⟨⟨fun a e hz => ?_, fun a e => (by cases e)⟩, (everyL_iff _).2 fun u hu => by cases hu⟩⟩
  · show C.length + 3 ≤ _; omega
  · have e' : q = some a := e
    exact (ownsRow_at h (g := a.block) (by rw [e']; rfl)).1
theorem lit_rr8 (W : World) (L : List (Int × Int)) (hl : L.length ≤ 1000) : RR W.heap.size (W.alloc (.cells (cellsR L).toArray 72)) (.slice (some ⟨W.heap.size, 0, none⟩) L.length L.length) L := by
  have := World.ownsRow_lit (base := W.heap.size) (e := 72) (size := 2) W (cellsR L).toArray L.length (Nat.le_refl _) (by unfold maxLen; omega) (by simp [cellsR_length])
  exact this
theorem one_is (c : Int) (hc : 0 ≤ c ∧ c ≤ 1114111) : IsC [(c, c)] (fun x => x = c) := by
  refine ⟨⟨fun r hr => ?_, List.pairwise_singleton _ _⟩, fit_one (by omega), fun x => ?_⟩
  · simp at hr; subst hr; exact Int.le_refl _
  · constructor
    · rintro ⟨r, hr, h1, h2⟩; simp at hr; subst hr; simp at h1 h2; omega
    · rintro rfl; exact ⟨_, List.mem_cons_self, Int.le_refl _, Int.le_refl _⟩
theorem ret_char {R : Ending → World → Prop} {a : Act} {W : World} {b : Nat} {f : Fl} (h : Six W b 0 f) (ha : a.tmps[4]?.getD undef = .pointer (some ⟨b, 0, none⟩)) (hd : a.defers = []) (hR : R (.returned (.agg #[.int .i64 f.k, .int .i64 f.n, .int .i64 f.mn, .int .i64 f.mx, .slice f.rq f.rs.length f.rc, .slice f.kq f.kl f.kc])) W) : bodyPost Try.prog Try.f37 R .ret a W := by
  obtain ⟨z0, z1, z2, z3, z4, z5⟩ := h
  simp only [Nat.zero_add] at z1 z2 z3 z4 z5
  refine bodyPost_ret (v := .agg #[.int .i64 f.k, .int .i64 f.n, .int .i64 f.mn, .int .i64 f.mx, .slice f.rq f.rs.length f.rc, .slice f.kq f.kl f.kc]) ?_ hd hR
  simp [results, Try.results37, go_sem, ha, z0, z1, z2, z3, z4, z5]
/-- A call that makes the node of a character. -/
def MkC (w : World) (f : Bool) (c : Int) (e : Ending) (w' : World) : Prop := ∃ t', e = .returned (.agg #[.int .i64 t'.f.k, .int .i64 t'.f.n, .int .i64 t'.f.mn, .int .i64 t'.f.mx, .slice t'.f.rq t'.f.rs.length t'.f.rc, .slice t'.f.kq t'.f.kl t'.f.kc]) ∧ TA w' t' ∧ EC f c (er t') ∧ Foot (fun k => w.heap.size ≤ k) t' ∧ Below w.heap.size w w'
set_option maxRecDepth 100000 in
set_option maxHeartbeats 4000000 in
theorem character_c {w : World} (c : Int) (hc : 0 ≤ c ∧ c ≤ 1114111) (ch f : Bool) : Calls Try.prog 37 #[.int .i64 c, .agg #[.bool ch, .bool f]] w (MkC w f c) := by
  have HC := hide hc
  go_enter Try.func37, Try.ntmps37
  go_upto_region 2 with fail
  have B1 : Below w.heap.size w (((w.alloc (.cells #[.bool ch, .bool f] 27)).alloc (.cells #[.int .i64 0, .int .i64 0, .int .i64 0, .int .i64 0, .slice none 0 0, .slice none 0 0] 25)).alloc (.cells #[.int .i64 c, .int .i64 c] 72)) := (((Below.refl _ _).alloc (Nat.le_refl _) _).alloc (by simp) _).alloc (by simp; omega) _
  have M1 : (((w.alloc (.cells #[.bool ch, .bool f] 27)).alloc (.cells #[.int .i64 0, .int .i64 0, .int .i64 0, .int .i64 0, .slice none 0 0, .slice none 0 0] 25)).alloc (.cells #[.int .i64 c, .int .i64 c] 72)).heap[w.heap.size]? = some (.cells #[.bool ch, .bool f] 27 (0, 0)) := (Below.heap_alloc _ _ _ (by simp; omega)).trans ((Below.heap_alloc _ _ _ (by simp)).trans (alloc_new w _))
  have Z1 : (((w.alloc (.cells #[.bool ch, .bool f] 27)).alloc (.cells #[.int .i64 0, .int .i64 0, .int .i64 0, .int .i64 0, .slice none 0 0, .slice none 0 0] 25)).alloc (.cells #[.int .i64 c, .int .i64 c] 72)).heap[w.heap.size + 1]? = some (.cells #[.int .i64 0, .int .i64 0, .int .i64 0, .int .i64 0, .slice none 0 0, .slice none 0 0] 25 (0, 0)) := (Below.heap_alloc _ _ _ (by simp)).trans (by
    have := alloc_new (w.alloc (.cells #[.bool ch, .bool f] 27)) (.cells #[.int .i64 0, .int .i64 0, .int .i64 0, .int .i64 0, .slice none 0 0, .slice none 0 0] 25)
    rwa [World.size_alloc] at this)
  have R1 : RR (w.heap.size + 1 + 1) (((w.alloc (.cells #[.bool ch, .bool f] 27)).alloc (.cells #[.int .i64 0, .int .i64 0, .int .i64 0, .int .i64 0, .slice none 0 0, .slice none 0 0] 25)).alloc (.cells #[.int .i64 c, .int .i64 c] 72)) (.slice (some ⟨w.heap.size + 1 + 1, 0, none⟩) [(c, c)].length 1) [(c, c)] := (by
    have := lit_rr8 ((w.alloc (.cells #[.bool ch, .bool f] 27)).alloc (.cells #[.int .i64 0, .int .i64 0, .int .i64 0, .int .i64 0, .slice none 0 0, .slice none 0 0] 25)) [(c, c)] (by simp)
    rwa [World.size_alloc, World.size_alloc] at this)
  generalize (((w.alloc (.cells #[.bool ch, .bool f] 27)).alloc (.cells #[.int .i64 0, .int .i64 0, .int .i64 0, .int .i64 0, .slice none 0 0, .slice none 0 0] 25)).alloc (.cells #[.int .i64 c, .int .i64 c] 72)) = W1 at B1 M1 Z1 R1 ⊢
  obtain ⟨bz, hbz⟩ : ∃ bz, w.heap.size + 1 = bz := ⟨_, rfl⟩
  rw [hbz] at Z1 R1 ⊢
  have m1 := cell_row M1 (i := 1) rfl
  have HB := hide B1
  have HZ := hide Z1
  have HR := hide R1
  have hwz : w.heap.size ≤ bz := by omega
  clear B1 M1 Z1 R1 hc hbz
  cases f with
  | false =>
    have L9 := hide (laid_res (setT_ta HR.out (one_is c HC.out).fit (by simp)).1 ((setT_ta HR.out (one_is c HC.out).fit (by simp)).2.mono (fun k hk => hk)) HZ.out)
    have X9 := hide L9.out.1
    have r0 := cell_row HZ.out (i := 0) rfl
    have r1 := cell_row HZ.out (i := 1) rfl
    have r2 := cell_row HZ.out (i := 2) rfl
    have r3 := cell_row HZ.out (i := 3) rfl
    have r4 := cell_row HZ.out (i := 4) rfl
    have r5 := cell_row HZ.out (i := 5) rfl
    have fz := fun z => frz_row HZ.out z
    unfold put6 at X9
    go_wp2
    refine ret_char (f := (setT [(c, c)] (some ⟨bz + 1, 0, none⟩) 1).f) X9.out rfl rfl ?_
    exact ⟨setT [(c, c)] (some ⟨bz + 1, 0, none⟩) 1, rfl, L9.out.2.1, ⟨_, by rw [er_eq]; rfl, (one_is c HC.out).to (fun x => by simp [oneP])⟩, (setT_ta HR.out (one_is c HC.out).fit (by simp)).2.mono (fun k hk => by omega), chainF HB.out L9.out.2.2 (Nat.le_refl _) (fun k e => by omega)⟩
  | true =>
    have FC := hide (fold_c HR.out.arg (one_is c HC.out).fit (by simp))
    go_upto_region 4 with (go_at_call 58; refine (FC.out).mono ?_; rintro e w5 ⟨v5, C, rfl, h51, h52, h53, h54⟩; obtain ⟨q5, k5, rfl⟩ := h51.shape; have X5 := hide h51; have I5 := hide h52; have B5 := hide h54; have hl5 : C.length ≤ 1000 := (by simp at h53; omega); clear h51 h52 h53 h54)
    have Z5 : w5.heap[bz]? = some (.cells #[.int .i64 0, .int .i64 0, .int .i64 0, .int .i64 0, .slice none 0 0, .slice none 0 0] 25 (0, 0)) := (B5.out.block _ (lt_of_heap HZ.out)).trans HZ.out
    have hz1 := lt_of_heap HZ.out
    have L9 := hide (laid_res (setT_ta X5.out I5.out.fit hl5).1 ((setT_ta X5.out I5.out.fit hl5).2.mono (fun k hk => by omega)) Z5)
    have X9 := hide L9.out.1
    have r0 := cell_row Z5 (i := 0) rfl
    have r1 := cell_row Z5 (i := 1) rfl
    have r2 := cell_row Z5 (i := 2) rfl
    have r3 := cell_row Z5 (i := 3) rfl
    have r4 := cell_row Z5 (i := 4) rfl
    have r5 := cell_row Z5 (i := 5) rfl
    have fz := fun z => frz_row Z5 z
    unfold put6 at X9
    clear Z5
    go_wp2
    refine ret_char (f := (setT C q5 k5).f) X9.out rfl rfl ?_
    exact ⟨setT C q5 k5, rfl, L9.out.2.1, ⟨C, by rw [er_eq]; rfl, I5.out.to (fun x => by simp [oneP])⟩, (setT_ta X5.out I5.out.fit hl5).2.mono (fun k hk => by have := HB.out.size; omega), chainF (chain HB.out B5.out (Nat.le_refl _)) L9.out.2.2 (Nat.le_refl _) (fun k e => by omega)⟩
end Go.Proofs.Ytlodjinejeajcaa
