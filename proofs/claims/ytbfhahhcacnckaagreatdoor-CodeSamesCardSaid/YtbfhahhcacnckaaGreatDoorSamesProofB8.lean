/-
  Parts of the proof.
-/
import Derived.Test.YtbfhahhcacnckaaGreatDoorSamesProofB3
import Derived.Test.YtbfhahhcacnckaaGreatDoorSamesProofB2
import Derived.Lib.Builder
import Derived.Lib.AppendStr
import Derived.Lib.UnsafeStr
import Derived.Lib.OthersKept
import Derived.Lib.FrozenHead
import Derived.Laws.Externs
import Derived.Shelf.RegionOpenPlain
set_option linter.unusedSimpArgs false
namespace Go.Proofs.YtbfhahhcacnckaaGreatDoor
open Go Go.RowKit
theorem size_u8 : (Tryz.prog.info? 5).map (fun i => (i.zero, i.size, i.bytes)) = some (some (.int .u8 0), 1, 1) := by kernel_rfl
theorem und_u8s : Tryz.prog.underlying 62 = some (.slice 5) := by kernel_rfl
theorem und_str : Tryz.prog.underlying 9 = some .string := by kernel_rfl
theorem und_pb : Tryz.prog.underlying 61 = some (.pointer 64) := by kernel_rfl
theorem und_un : Tryz.prog.underlying 125 = some .unsafePointer := by kernel_rfl
theorem size_bld : (Tryz.prog.info? 64).map (·.size) = some 2 := by kernel_rfl
def txt (l : List UInt8) : ByteArray := ⟨l.toArray⟩
theorem txt_size (l : List UInt8) : (txt l).size = l.length := by simp [txt, ByteArray.size]
theorem txt_cells (l : List UInt8) : Lib.strCells (txt l) = Lib.byteCells l := rfl
abbrev OB (base : Nat) (w : World) (v : Value) (l : List UInt8) : Prop := w.ownsRow base 5 1 v l.length (Lib.byteCells l)
structure BT (T : TypeId) (k : Nat) : Prop where
  ne : T ≠ 5
  lies : liesAt Tryz.prog Tryz.prog.depth T ((k + 2) / Tryz.prog.cellsOf T) k 64 1 = true
theorem bt0 : BT 64 0 := ⟨by decide, by kernel_rfl⟩
abbrev Oth (b : Nat) (w w' : World) : Prop := Lib.OthersKept 5 (some b) w w'
def BL (T : TypeId) (base : Nat) (w : World) (b : Nat) (pre : List Value) (l : List UInt8) : Prop :=
  ∃ p v, w.heap[b]? = some (.cells (pre ++ [p, v]).toArray T (0, 0)) ∧ (p = .pointer none ∨ p = .pointer (some ⟨b, pre.length, none⟩)) ∧ OB base w v l ∧ (l = [] → v = .slice none 0 0) ∧ base ≤ b
theorem pre_at {w : World} {b : Nat} {T : TypeId} {pre : List Value} {p v : Value} (h : w.heap[b]? = some (.cells (pre ++ [p, v]).toArray T (0, 0))) :
    w.cell? ⟨b, pre.length, none⟩ = some p ∧ w.cell? ⟨b, pre.length + 1, none⟩ = some v ∧ ∀ i, w.frozen? ⟨b, i, none⟩ = false :=
  ⟨cell_row h (by simp), cell_row h (by simp), frz_row h⟩
theorem pre_set {w : World} {b : Nat} {T : TypeId} {pre : List Value} {p v : Value} (h : w.heap[b]? = some (.cells (pre ++ [p, v]).toArray T (0, 0))) (q : Value) :
    (w.setCell ⟨b, pre.length, none⟩ q).heap[b]? = some (.cells (pre ++ [q, v]).toArray T (0, 0)) ∧ (w.setCell ⟨b, pre.length + 1, none⟩ q).heap[b]? = some (.cells (pre ++ [p, q]).toArray T (0, 0)) := by
  refine ⟨(heap_set_in h _ _).trans ?_, (heap_set_in h _ _).trans ?_⟩
  · congr 2
    apply Array.ext'
    simp
  · congr 2
    apply Array.ext'
    simp
theorem ob_not {base : Nat} {w : World} {v : Value} {l : List UInt8} {b : Nat} {cs : Array Value} {T : TypeId} (h : OB base w v l) (hb : w.heap[b]? = some (.cells cs T (0, 0))) (hT : T ≠ 5) : v.ownBlock ≠ some b := ownsRow_not h hb hT
theorem ob_set {base : Nat} {w : World} {v : Value} {l : List UInt8} {b : Nat} (h : OB base w v l) (hn : v.ownBlock ≠ some b) (i : Nat) (q : Value) : OB base (w.setCell ⟨b, i, none⟩ q) v l :=
  ownsRow_fr h ((Fr.refl (fun z => z = b) w).setCell (p := ⟨b, i, none⟩) rfl q) (fun k hk e => hn (by rw [hk, e]))
def CkPost (T : TypeId) (base : Nat) (w : World) (b : Nat) (pre : List Value) (l : List UInt8) (e : Ending) (w' : World) : Prop :=
  e = .returned (.tuple #[]) ∧ (∃ v, w'.heap[b]? = some (.cells (pre ++ [.pointer (some ⟨b, pre.length, none⟩), v]).toArray T (0, 0)) ∧ OB base w' v l ∧ (l = [] → v = .slice none 0 0) ∧ base ≤ b) ∧ Below base w w' ∧ Oth b w w'
set_option maxHeartbeats 1000000 in
set_option maxRecDepth 100000 in
theorem copyCheck_c {T : TypeId} {base : Nat} {w : World} {b : Nat} {pre : List Value} {l : List UInt8} (hT : BT T pre.length) (h : BL T base w b pre l) :
    Calls Tryz.prog 56 #[.pointer (some ⟨b, pre.length, none⟩)] w (CkPost T base w b pre l) := by
  obtain ⟨p, v, h1, h2, h3, h4, h5⟩ := h
  obtain ⟨c0, c1, fz⟩ := pre_at h1
  obtain ⟨j, hj, hjs⟩ := Option.map_eq_some_iff.1 size_bld
  have H : Hid (w.heap[b]? = some (.cells (pre ++ [p, v]).toArray T (0, 0)) ∧ OB base w v l ∧ (l = [] → v = .slice none 0 0) ∧ base ≤ b) := ⟨h1, h3, h4, h5⟩
  have hsh : w.shape? b = some (T, pre.length + 2) := by simp [World.shape?, h1]
  clear h1 h3 h4 h5
  obtain ⟨k, hk⟩ : ∃ k, pre.length = k := ⟨_, rfl⟩
  have lies := hT.lies
  have HK : Hid (pre.length = k) := hk
  rw [hk] at c0 c1 h2 hsh lies ⊢
  clear hk
  rcases h2 with rfl | rfl
  · have fz0 := fz k
    go_enter Tryz.func56, Tryz.ntmps56
    go_wp2
    rw [Lib.run_to_unsafe w ⟨b, k, none⟩ und_pb und_un hj (by rw [hjs]; decide) hsh (by simp only; omega)]
    simp only [Result.andThen]
    rw [Oper.upon_value]
    go_wp2
    rw [run_callFunc_extern Tryz.func73 (by kernel_rfl) (by kernel_rfl) (by kernel_rfl) (e := Extern.AbiNoEscape.same) (by kernel_rfl)]
    rw [Lib.run_noEscape]
    simp only [Result.andThen]
    rw [Oper.upon_value]
    go_wp2
    rw [Lib.run_from_unsafe w ⟨b, k, none⟩ und_un und_pb hj hsh lies]
    simp only [Result.andThen]
    rw [Oper.upon_value]
    go_wp2
    go_end0
    rw [← HK.out]
    refine ⟨rfl, ⟨v, (pre_set H.out.1 _).1, ob_set H.out.2.1 (ob_not H.out.2.1 H.out.1 hT.ne) _ _, H.out.2.2.1, H.out.2.2.2⟩, (Below.refl base w).setCell (p := ⟨b, _, none⟩) H.out.2.2.2 _, (Lib.OthersKept.refl _ _ w).setCell ⟨b, _, none⟩ rfl _⟩
  · go_enter Tryz.func56, Tryz.ntmps56
    go_wp2
    rw [Lib.run_neq_ptr_same w _ und_pb hj]
    go_wp2
    go_end0
    exact ⟨rfl, ⟨v, by rw [HK.out]; exact H.out.1, H.out.2⟩, Below.refl base _, Lib.OthersKept.refl _ _ _⟩
def WPost (T : TypeId) (base : Nat) (w : World) (b : Nat) (pre : List Value) (l : List UInt8) (w' : World) : Prop := BL T base w' b pre l ∧ Below base w w' ∧ Oth b w w'
set_option maxHeartbeats 2000000 in
set_option maxRecDepth 100000 in
theorem writeString_c {T : TypeId} {base : Nat} {w : World} {b : Nat} {pre : List Value} {l : List UInt8} (hT : BT T pre.length) (h : BL T base w b pre l) (s : List UInt8) (hl : l.length + s.length ≤ 140737488355328) (hb : base ≤ w.heap.size) :
    Calls Tryz.prog 42 #[.pointer (some ⟨b, pre.length, none⟩), .string (txt s)] w fun e w' => e = .returned (.tuple #[.int .i64 (s.length : Int), .nilIface]) ∧ WPost T base w b pre (l ++ s) w' := by
  obtain ⟨t0, hi, hz0, hz1, hz2⟩ := info_parts size_u8
  have HC := copyCheck_c hT h
  have hz := txt_size s
  have HB : Hid (base ≤ w.heap.size) := hb
  obtain ⟨k, hk⟩ : ∃ k, pre.length = k := ⟨_, rfl⟩
  have HK : Hid (pre.length = k) := hk
  rw [hk] at HC ⊢
  clear hk h
  go_enter Tryz.func42, Tryz.ntmps42
  go_wp2_with (go_at_call 56; (with_reducible refine HC.mono ?_))
  rintro e w1 ⟨rfl, ⟨v, h1, h2, h3, h4⟩, h5, h6⟩
  obtain ⟨c0, c1, fz⟩ := pre_at h1
  rw [HK.out] at c0 c1
  have X1 : Hid (w1.heap[b]? = some (.cells (pre ++ [.pointer (some ⟨b, pre.length, none⟩), v]).toArray T (0, 0)) ∧ OB base w1 v l ∧ (l = [] → v = .slice none 0 0) ∧ base ≤ b ∧ Below base w w1 ∧ Oth b w w1) := ⟨h1, h2, h3, h4, h5, h6⟩
  have hs1 := h5.size
  clear h1 h2 h3 h4 h5 h6
  go_wp2_with (at_builtin; refine Lib.wpList_append_own_string _ rfl _ _ 62 9 rfl base 5 t0 und_u8s und_str hi hz0 hz1 hz2 _ _ _ rfl X1.out.2.1 (txt s) rfl ?c3 ?c4 ?c5 ?_)
  case c3 => rw [hz]; unfold maxLen; omega
  case c4 => rw [hz]; omega
  case c5 => omega
  intro v' w2 hown' hgrow hnil
  have hb2 : w2.heap[b]? = some (.cells (pre ++ [.pointer (some ⟨b, pre.length, none⟩), v]).toArray T (0, 0)) := by
    rw [hgrow.block b (lt_of_heap X1.out.1) (fun e => ob_not X1.out.2.1 X1.out.1 hT.ne e.symm)]
    exact X1.out.1
  obtain ⟨d0, d1, fz2⟩ := pre_at hb2
  rw [HK.out] at d0 d1
  have f1 := fz2 (k + 1)
  rw [txt_cells] at hown'
  have X2 : Hid (w2.heap[b]? = some (.cells (pre ++ [.pointer (some ⟨b, pre.length, none⟩), v]).toArray T (0, 0)) ∧ w2.ownsRow base 5 1 v' (l.length + s.length) (Lib.byteCells l ++ Lib.byteCells s) ∧ w1.grownBy w2 v.ownBlock) := ⟨hb2, hown', hgrow⟩
  have N2 : Hid _ := hnil
  obtain ⟨q2, k2, rfl⟩ := ownsRow_shape hown'
  clear hb2 hown' hgrow hnil
  go_wp2
  go_ret2
  have hO : OB base w2 (.slice q2 (l.length + s.length) k2) (l ++ s) := by
    unfold OB
    rw [List.length_append, show Lib.byteCells (l ++ s) = Lib.byteCells l ++ Lib.byteCells s by simp [Lib.byteCells]]
    exact X2.out.2.1
  refine ⟨by first | rfl | rw [hz], ⟨_, _, (by rw [← HK.out]; exact (pre_set X2.out.1 _).2), .inr rfl, ?_, fun e => ?_, X1.out.2.2.2.1⟩, ?_, ?_⟩
  · exact ob_set hO (ob_not hO X2.out.1 hT.ne) _ _
  · obtain ⟨e1, e2⟩ := List.append_eq_nil_iff.1 e
    exact N2.out.2 ⟨X1.out.2.2.1 e1, by simp [e2]⟩
  · exact (X1.out.2.2.2.2.1.trans ((Below.refl base w1).grown X2.out.2.2 (by omega) (fun k hk => (ownsRow_at X1.out.2.1 hk).1))).setCell (p := ⟨b, _, none⟩) X1.out.2.2.2.1 _
  · exact (X1.out.2.2.2.2.2.grown X2.out.2.2 (Lib.ownsRowF_kind (World.ownsRowF_of X1.out.2.1))).setCell ⟨b, _, none⟩ rfl _
theorem news1b (W : World) (a : Value) (t : TypeId) : ∀ (j : Nat) (u : Value), [a][j]? = some u → (W.alloc (.cells #[a] t)).cell? ((⟨W.heap.size, 0, none⟩ : Addr).add j) = some u := by
  intro j u h
  match j, h with
  | 0, h =>
    simp at h
    subst h
    have e : (⟨W.heap.size, 0, none⟩ : Addr).add 0 = ⟨W.heap.size, 0, none⟩ := by simp [Addr.add]
    rw [e]
    exact cell_row (alloc_new W _) rfl
set_option maxHeartbeats 2000000 in
set_option maxRecDepth 100000 in
theorem writeByte_c {T : TypeId} {base : Nat} {w : World} {b : Nat} {pre : List Value} {l : List UInt8} (hT : BT T pre.length) (h : BL T base w b pre l) (x : UInt8) (hl : l.length + 1 ≤ 140737488355328) (hb : base ≤ w.heap.size) :
    Calls Tryz.prog 44 #[.pointer (some ⟨b, pre.length, none⟩), .int .u8 (x.toNat : Int)] w fun e w' => e = .returned .nilIface ∧ WPost T base w b pre (l ++ [x]) w' := by
  obtain ⟨t0, hi, hz0, hz1, hz2⟩ := info_parts size_u8
  have HC := copyCheck_c hT h
  have HB : Hid (base ≤ w.heap.size) := hb
  obtain ⟨k, hk⟩ : ∃ k, pre.length = k := ⟨_, rfl⟩
  have HK : Hid (pre.length = k) := hk
  rw [hk] at HC ⊢
  clear hk h
  go_enter Tryz.func44, Tryz.ntmps44
  go_wp2_with (go_at_call 56; (with_reducible refine HC.mono ?_))
  rintro e w1 ⟨rfl, ⟨v, h1, h2, h3, h4⟩, h5, h6⟩
  obtain ⟨c0, c1, fz⟩ := pre_at h1
  rw [HK.out] at c0 c1
  have X1 : Hid (w1.heap[b]? = some (.cells (pre ++ [.pointer (some ⟨b, pre.length, none⟩), v]).toArray T (0, 0)) ∧ OB base w1 v l ∧ (l = [] → v = .slice none 0 0) ∧ base ≤ b ∧ Below base w w1 ∧ Oth b w w1) := ⟨h1, h2, h3, h4, h5, h6⟩
  have hs1 := h5.size
  clear h1 h2 h3 h4 h5 h6
  go_wp2_with (at_builtin; refine wpList_append_own_at _ rfl _ _ 62 rfl base 5 t0 (.int .u8 0) 1 1 und_u8s hi hz0 hz1 hz2 rfl (by decide) _ _ _ rfl (World.ownsRow.alloc X1.out.2.1 _) ⟨w1.heap.size, 0, none⟩ 1 1 (Lib.byteCells [x]) rfl rfl (news1b _ _ _) (by simp [Lib.byteCells, Value.oneCell']) ?c3 ?c4 ?c5 ?_)
  case c3 => unfold maxLen; omega
  case c4 => omega
  case c5 => simp; omega
  intro v' w2 hown' hgrow _ hblk
  have hb1' : (w1.alloc (.cells #[.int .u8 (x.toNat : Int)] 5)).heap[b]? = some (.cells (pre ++ [.pointer (some ⟨b, pre.length, none⟩), v]).toArray T (0, 0)) := (Below.heap_alloc w1 _ b (lt_of_heap X1.out.1)).trans X1.out.1
  have hb2 : w2.heap[b]? = some (.cells (pre ++ [.pointer (some ⟨b, pre.length, none⟩), v]).toArray T (0, 0)) := by
    rw [hgrow.block b (lt_of_heap hb1') (fun e => ob_not X1.out.2.1 X1.out.1 hT.ne e.symm)]
    exact hb1'
  obtain ⟨d0, d1, fz2⟩ := pre_at hb2
  rw [HK.out] at d0 d1
  have f1 := fz2 (k + 1)
  have X2 : Hid (w2.heap[b]? = some (.cells (pre ++ [.pointer (some ⟨b, pre.length, none⟩), v]).toArray T (0, 0)) ∧ w2.ownsRow base 5 1 v' (l.length + 1) (Lib.byteCells l ++ Lib.byteCells [x]) ∧ (w1.alloc (.cells #[.int .u8 (x.toNat : Int)] 5)).grownBy w2 v.ownBlock) := ⟨hb2, hown', hgrow⟩
  obtain ⟨q2, k2, rfl⟩ := ownsRow_shape hown'
  clear hb2 hown' hgrow hblk hb1'
  go_wp2
  go_ret
  have hO : OB base w2 (.slice q2 (l.length + 1) k2) (l ++ [x]) := by
    unfold OB
    rw [List.length_append, show Lib.byteCells (l ++ [x]) = Lib.byteCells l ++ Lib.byteCells [x] by simp [Lib.byteCells]]
    exact X2.out.2.1
  refine ⟨rfl, ⟨_, _, (by rw [← HK.out]; exact (pre_set X2.out.1 _).2), .inr rfl, ob_set hO (ob_not hO X2.out.1 hT.ne) _ _, fun e => (by simp at e), X1.out.2.2.2.1⟩, ?_, ?_⟩
  · exact (X1.out.2.2.2.2.1.trans (((Below.refl base w1).alloc (by omega) _).grown X2.out.2.2 (by simp; omega) (fun k hk => (ownsRow_at X1.out.2.1 hk).1))).setCell (p := ⟨b, _, none⟩) X1.out.2.2.2.1 _
  · exact ((X1.out.2.2.2.2.2.alloc _).grown X2.out.2.2 (Lib.ownsRowF_kind (World.ownsRowF_of (World.ownsRow.alloc X1.out.2.1 _)))).setCell ⟨b, _, none⟩ rfl _
set_option maxHeartbeats 2000000 in
set_option maxRecDepth 100000 in
theorem string_c {T : TypeId} {base : Nat} {w : World} {b : Nat} {pre : List Value} {l : List UInt8} (h : BL T base w b pre l) :
    Calls Tryz.prog 27 #[.pointer (some ⟨b, pre.length, none⟩)] w fun e w' => e = .returned (.string (txt l)) ∧ Below base w w' ∧ Oth b w w' := by
  obtain ⟨p, v, h1, h2, h3, h4, h5⟩ := h
  obtain ⟨c0, c1, fz⟩ := pre_at h1
  obtain ⟨k, hk⟩ : ∃ k, pre.length = k := ⟨_, rfl⟩
  rw [hk] at c0 c1 ⊢
  clear hk h1 h2 h5
  have H3 : Hid (OB base w v l) := h3
  by_cases h0 : l = []
  · subst h0
    have hv := h4 rfl
    subst hv
    have hUS : ∀ W : World, (Builtin.unsafeString_ #[97, 3] 9 #[.pointer none, .int .i64 0]).run Tryz.prog W = .ok (.string .empty) W := fun W => Lib.run_unsafeString_none W _ _ _ none
    have c1' : w.drew.cell? ⟨b, k + 1, none⟩ = some (.slice none 0 0) := c1
    have hSD : (Builtin.unsafeSliceData_ #[62] 97 #[.slice none 0 0]).run Tryz.prog w.drew = .ok (.pointer none) w.drew := rfl
    clear h3 h4
    go_enter Tryz.func27, Tryz.ntmps27
    go_wp2
    go_region
    all_goals (go_wp2; go_ret; exact ⟨rfl, Below.drew (Below.refl base w), (Lib.OthersKept.refl _ _ w).drew⟩)
  · have hl0 : l.length ≠ 0 := fun e => h0 (List.eq_nil_of_length_eq_zero e)
    obtain ⟨g, cap, cur, rfl, hbg, hg, hnc, hcm, hcs, htake⟩ : ∃ g cap cur, v = .slice (some ⟨g, 0, none⟩) l.length cap ∧ base ≤ g ∧ w.heap[g]? = some (.cells cur 5 (0, 0)) ∧ l.length ≤ cap ∧ cap ≤ maxLen ∧ cur.size = cap * 1 ∧ cur.toList.take (l.length * 1) = Lib.byteCells l := by
      rcases h3.2 with ⟨_, hz⟩ | ⟨g, cap, cur, hv, r⟩
      · exact absurd hz hl0
      · exact ⟨g, cap, cur, hv, r⟩
    have c1' : w.drew.cell? ⟨b, k + 1, none⟩ = some (.slice (some ⟨g, 0, none⟩) l.length cap) := c1
    have hSD : (Builtin.unsafeSliceData_ #[62] 97 #[.slice (some ⟨g, 0, none⟩) l.length cap]).run Tryz.prog w.drew = .ok (.pointer (some ⟨g, 0, none⟩)) w.drew :=
      Lib.run_unsafeSliceData_row _ _ _ _ _ _ (by omega)
    have hUS : (Builtin.unsafeString_ #[97, 3] 9 #[.pointer (some ⟨g, 0, none⟩), .int .i64 (l.length : Int)]).run Tryz.prog w.drew = .ok (.string (txt l)) (w.drew.freeze ⟨g, 0, none⟩ l.length) := by
      refine Lib.run_unsafeString_row w.drew 97 3 9 5 Tryz.underlying97 (by kernel_rfl) g cur.size (by have hg' : w.drew.heap[g]? = some (.cells cur 5 (0, 0)) := hg; simp [World.shape?, hg']) l h0 (by omega) (by unfold maxLen at hcm; omega) ?_
      intro j x hx
      exact H3.out.cells (g := g) rfl j (.int .u8 x.toNat) (by simp [Lib.byteCells, hx])
    have HBG : Hid (base ≤ g ∧ w.heap[g]? = some (.cells cur 5 (0, 0))) := ⟨hbg, hg⟩
    clear h3 h4 hg hnc hcm hcs htake h0 hl0 hbg
    go_enter Tryz.func27, Tryz.ntmps27
    go_wp2
    go_region
    all_goals (go_wp2; go_ret; exact ⟨rfl, Lib.below_freeze (Below.drew (Below.refl base w)) (p := ⟨g, 0, none⟩) HBG.out.1 _, ((Lib.OthersKept.refl _ _ w).drew).freeze ⟨g, 0, none⟩ _ ⟨_, _, HBG.out.2⟩⟩)
end Go.Proofs.YtbfhahhcacnckaaGreatDoor
