/-
  The law MarksFollow, walked: Rising, All, At, Len agree; behind Clear all can come again.
-/
import Derived.Test.YtbpphdjienpiaaaNoPanic
import Derived.Test.YtbpphdjienpiaaaLawOrder
import Derived.Deep.RegionWith
import Derived.Deep.DeepCutAuto
namespace Go.Proofs.Ytbpphdjienpiaaa
open Go Go.RowKit Go.Shelf
attribute [local go_sem] Oper.semAt_some ext_cell

/-- The frame ahead of a turn: what is not spelt out is whatever it is. -/
def turnTmps (f : Nat → Value) (lv : Value) (s Bm : Nat) (tv : Value) : Array Value := #[f 0, lv, f 2, f 3, .pointer (some ⟨s, 0, none⟩), .bool true, .pointer (some ⟨Bm, 0, none⟩), f 7, tv, f 9, f 10, f 11, f 12, f 13, f 14, f 15, f 16, f 17, f 18, f 19, f 20, f 21, f 22, f 23, f 24, f 25, f 26, f 27, f 28, f 29, f 30, f 31, f 32, f 33, f 34, f 35, f 36, f 37, f 38, f 39, f 40, f 41, f 42, f 43, f 44, f 45, f 46, f 47, f 48, f 49, f 50, f 51, f 52, f 53, f 54, f 55, f 56, f 57, f 58, f 59, f 60, f 61, f 62, f 63, f 64, f 65, f 66, f 67, f 68, f 69, f 70, f 71, f 72, f 73, f 74, f 75, f 76, f 77, f 78, f 79, f 80, f 81, f 82, f 83, f 84, f 85, f 86, f 87, f 88, f 89, f 90, f 91, f 92, f 93, f 94, f 95, f 96, f 97, f 98, f 99, f 100, f 101, f 102, f 103, f 104, f 105, f 106, f 107, f 108, f 109, f 110, f 111, f 112, f 113, f 114, f 115, f 116, f 117, f 118, f 119, f 120, f 121, f 122, f 123, f 124, f 125, f 126, f 127, f 128, f 129, f 130, f 131, f 132, f 133, f 134, f 135, f 136, f 137, f 138, f 139, f 140, f 141, f 142, f 143, f 144, f 145, f 146, f 147, f 148, f 149, f 150, f 151, f 152, f 153, f 154, f 155, f 156, f 157, f 158, f 159, f 160, f 161, f 162, f 163, f 164, f 165, f 166, f 167]

/-- The mark of a range that is over. -/
def mkD (D : Nat) : Deferred := { target := .collected D, args := #[] }
/-- What a number that is put does: four ways. -/
theorem put_ways (r : Nat) (L : List Int) (x : Int) (hin : ∀ y ∈ L, 0 ≤ y ∧ y < r) :
    (putB r L x = true ∧ decide (x ∈ putL r L x) = true ∧ 0 ≤ x ∧ x < r ∧ putL r L x = L ++ [x]) ∨ (putB r L x = false ∧ decide (x ∈ putL r L x) = false ∧ x < 0 ∧ putL r L x = L) ∨
    (putB r L x = false ∧ decide (x ∈ putL r L x) = true ∧ 0 ≤ x ∧ x < r ∧ putL r L x = L) ∨ (putB r L x = false ∧ decide (x ∈ putL r L x) = false ∧ 0 ≤ x ∧ r ≤ x ∧ putL r L x = L) := by
  by_cases h0 : x < 0
  · have e : putL r L x = L := if_neg (by omega)
    exact .inr (.inl ⟨decide_eq_false (by omega), by rw [e]; exact decide_eq_false (fun q => by have := hin x q; omega), h0, e⟩)
  · by_cases h1 : x < r
    · by_cases h2 : x ∈ L
      · have e : putL r L x = L := if_neg (fun q => q.2.2 h2)
        exact .inr (.inr (.inl ⟨decide_eq_false (fun q => q.2.2 h2), by rw [e]; exact decide_eq_true h2, by omega, h1, e⟩))
      · have e : putL r L x = L ++ [x] := if_pos ⟨by omega, h1, h2⟩
        exact .inl ⟨decide_eq_true ⟨by omega, h1, h2⟩, by rw [e]; exact decide_eq_true (by simp), by omega, h1, e⟩
    · have e : putL r L x = L := if_neg (by omega)
      exact .inr (.inr (.inr ⟨decide_eq_false (by omega), by rw [e]; exact decide_eq_false (fun q => by have := hin x q; omega), by omega, by omega, e⟩))

/-- What holds through the law: the set, the boxes of the result and of the set, the marks of the ranges behind. -/
structure TS (w : World) (b o p r Bm n2 : Nat) (W : World) (L : List Int) (Ds : List Nat) : Prop where
  m : MAt W b o p r L
  x : Boxed W w.heap.size 4 (.bool false)
  y : Boxed W Bm 23 (.pointer (some ⟨b, 0, none⟩))
  bel : Below w.heap.size w W
  sz : n2 ≤ W.heap.size
  d : ∀ D ∈ Ds, n2 ≤ D ∧ W.heap[D]? = some (.deferred (some []))
/-- The numbers of the blocks. -/
structure TN (w : World) (b o p Bm n2 : Nat) : Prop where
  a0 : w.heap.size < b
  a1 : w.heap.size < o
  a2 : w.heap.size < p
  a3 : b < Bm
  a4 : o < Bm
  a5 : p < Bm
  a6 : Bm < n2
theorem TS.kept {w W W' : World} {b o p r Bm n2 : Nat} {L : List Int} {Ds : List Nat} (h : TS w b o p r Bm n2 W L Ds) (hb : Below W.heap.size W W') : TS w b o p r Bm n2 W' L Ds :=
  ⟨h.m.kept hb, boxed_kept h.x hb, boxed_kept h.y hb, h.bel.trans (hb.mono h.bel.size), Nat.le_trans h.sz hb.size, fun D hD => ⟨(h.d D hD).1, (hb.block D (lt_of_heap (h.d D hD).2)).trans (h.d D hD).2⟩⟩
theorem TS.fr {w W W' : World} {b o p r Bm n2 : Nat} {L L' : List Int} {Ds : List Nat} (h : TS w b o p r Bm n2 W L Ds) (hn : TN w b o p Bm n2) (hm : MAt W' b o p r L') (hf : Fr (own3 b o p) W W') : TS w b o p r Bm n2 W' L' Ds := by
  obtain ⟨a0, a1, a2, a3, a4, a5, a6⟩ := hn
  exact ⟨hm, boxed_fr (S := own3 b o p) h.x hf (by unfold own3; omega), boxed_fr (S := own3 b o p) h.y hf (by unfold own3; omega), h.bel.trans (hf.below h.bel.size (fun k hk => by unfold own3 at hk; omega)), Nat.le_trans h.sz hf.size,
    fun D hD => ⟨(h.d D hD).1, (hf.block D (lt_of_heap (h.d D hD).2) (by have := (h.d D hD).1; unfold own3; omega)).trans (h.d D hD).2⟩⟩

theorem ArgI.cap {W : World} {v : Value} {zs : List Int} (h : ArgI W v zs) : ∀ q n c, v = .slice q n c → zs.length ≤ c := by
  intro q n c e
  rcases h with ⟨p, cap, rfl, rfl⟩ | ⟨g, off, cap, rfl, h2, h3, h4, h5⟩
  · exact Nat.zero_le _
  · cases e; exact h3

theorem sortI_mem (F : List Int) (x : Int) : x ∈ sortI F ↔ x ∈ F := by
  unfold sortI
  exact (List.mergeSort_perm F _).mem_iff
theorem sortI_up {F : List Int} (hn : F.Nodup) (i j : Nat) (hij : i < j) (hj : j < (sortI F).length) : (sortI F)[i]'(by omega) < (sortI F)[j] := by
  have h1 : (sortI F).Pairwise (fun a c => decide (a ≤ c) = true) := List.pairwise_mergeSort (fun a c d h1 h2 => by simp at *; omega) (fun a c => by simp; omega) F
  have h2 : (sortI F).Nodup := (List.mergeSort_perm F _).nodup_iff.2 hn
  have a := List.pairwise_iff_getElem.1 h1 i j (by omega) hj hij
  have c := List.pairwise_iff_getElem.1 (List.nodup_iff_pairwise_ne.1 h2) i j (by omega) hj hij
  simp at a
  omega

set_option maxRecDepth 100000 in
set_option maxHeartbeats 3000000 in
theorem follow_in (n : Nat) (hn : 3 ≤ n) (room : Int) (wf : (Lit.int .i64 room).wf = true) (zs : List Int) (v : Value) (w : World) (hz : ArgI w v zs) :
    CallsIn Fence.wide n Try.prog 5 #[.int .i64 room, v] w fun e W' => e = .returned (.bool true) ∧ Below w.heap.size w W' := by
  have h1 : 1 ≤ n := by omega
  have h2 : 1 ≤ n - 1 - 1 := by omega
  have hfn : ∀ f, Fence.wide.fn f := fun _ => trivial
  have hcap0 := hz.cap
  obtain ⟨q, cap, rfl, hlen, hcell⟩ := hz.slice
  have hcap := hcap0 _ _ _ rfl
  clear hcap0
  have HC : Hid (∀ (i : Nat) (x : Int), zs[i]? = some x → ∃ g off, q = some ⟨g, off, none⟩ ∧ g < w.heap.size ∧ w.cell? ⟨g, off + i, none⟩ = some (.int .i64 x)) := hcell
  clear hz hcell
  unfold maxLen at hlen
  obtain ⟨r, hr, hr0⟩ := pick_room room
  have HR : Hid (pk room 100001 = r) := hr0
  clear hr0
  refine callsIn_of_wp_marks Try.func5 rfl trivial ?_ rfl
  simp only [Try.ntmps5, List.size_toArray, List.length_cons, List.length_nil, Nat.reduceAdd, Nat.reduceSub, Array.replicate_succ, Array.replicate_zero, List.push_toArray, List.append_toArray, List.nil_append, List.cons_append]
  refine wpIn_wide.2 (Code.wp_mono noPanicF_imp ?_)
  go_upto_region 5 with first | (go_at_call 9; (with_reducible refine (known_c _).mono ?_); rintro e w0 ⟨rfl, hb⟩; have B0 : Hid (Below w.heap.size w w0) := ((Below.refl _ w).alloc (Nat.le_refl _) _).trans (hb.mono (by simp)); have X0 : Hid (Boxed w0 w.heap.size 4 (.bool false)) := boxed_kept (Boxed.new w 4 (.bool false)) hb; clear hb) | (go_at_call 14; (with_reducible refine (pick_i room 100001 (by decide) (by decide) wf w0).mono ?_); rw [HR.out]; rintro e w5 ⟨rfl, h5⟩; subst w5) | (go_at_call 10; (with_reducible refine (new_c r hr w0).mono ?_); rintro e w1 ⟨b, o, p, rfl, hm, hnw, hb⟩; have M1 : Hid (MAt w1 b o p r []) := hm; have N1 : Hid (New3 w0.heap.size b o p) := hnw; have B1 : Hid (Below w.heap.size w w1) := chain B0.out hb (Nat.le_refl _); have X1 : Hid (Boxed w1 w.heap.size 4 (.bool false)) := boxed_kept X0.out hb; have X0l := X0.out.lt; clear hm hnw hb)
  rename_i K1 hK1 K2 hK2
  have M2 := M1.out.kept ((Below.refl _ w1).alloc (Nat.le_refl _) (.cells #[.pointer (some ⟨b, 0, none⟩)] 23))
  have Y2 := Boxed.new w1 23 (.pointer (some ⟨b, 0, none⟩))
  have X2 := X1.out.alloc (.cells #[.pointer (some ⟨b, 0, none⟩)] 23)
  have B2 : Below w.heap.size w (w1.alloc (.cells #[.pointer (some ⟨b, 0, none⟩)] 23)) := B1.out.alloc B1.out.size _
  have hUs : (w1.alloc (.cells #[.pointer (some ⟨b, 0, none⟩)] 23)).heap.size = w1.heap.size + 1 := by simp
  obtain ⟨U, hU⟩ : ∃ U, w1.alloc (.cells #[.pointer (some ⟨b, 0, none⟩)] 23) = U := ⟨_, rfl⟩
  rw [hU] at M2 Y2 X2 B2 hUs ⊢
  clear hU
  have HT0 : Hid (TS w b o p r w1.heap.size (w1.heap.size + 1) U [] []) := ⟨M2, X2, Y2, B2, by omega, fun D hD => by simp at hD⟩
  have TNN : Hid (TN w b o p w1.heap.size (w1.heap.size + 1)) := ⟨Nat.lt_of_lt_of_le X0l N1.out.b, Nat.lt_of_lt_of_le X0l N1.out.o, Nat.lt_of_lt_of_le X0l N1.out.p, M1.out.ltb, M1.out.lto, M1.out.ltp, by omega⟩
  clear M2 Y2 X2 B2 M1 N1 B1 X1 X0 B0 hUs
  have hl300 : (zs.take 300).length ≤ 300 := by simp; omega
  obtain ⟨zs', hzs⟩ : ∃ zs', zs.take 300 = zs' := ⟨_, rfl⟩
  have HC' : Hid (∀ (i : Nat) (x : Int), zs'[i]? = some x → ∃ g off, q = some ⟨g, off, none⟩ ∧ g < w.heap.size ∧ w.cell? ⟨g, off + i, none⟩ = some (.int .i64 x)) := fun i x hx => HC.out i x (by
    rw [← hzs] at hx
    have := (List.getElem?_eq_some_iff.1 hx).1
    simp at this
    rwa [List.getElem?_take_of_lt (by omega)] at hx)
  suffices hK : ∀ a : Act, a.tmps = turnTmps (fun i => a.tmps.getD i undef) (.slice q zs'.length cap) w.heap.size w1.heap.size (a.tmps.getD 8 undef) → a.defers = [] → K1 a U by
    clear hK1
    by_cases h300 : 300 < zs.length
    · have e : zs'.length = 300 := by rw [← hzs]; simp; omega
      have hi : (300 : Int) < (zs.length : Int) := by omega
      rw [e] at hK
      go_wp2
      exact hK _ rfl rfl
    · have e : zs'.length = zs.length := by rw [← hzs]; simp; omega
      have hi : ¬ (300 : Int) < (zs.length : Int) := by omega
      rw [e] at hK
      go_wp2
      exact hK _ rfl rfl
  clear hK2 K2
  rw [hzs] at hl300
  clear hzs HC hcap hlen
  rintro ⟨tm, ds⟩ ha hd
  dsimp only at ha hd
  generalize (fun i => tm.getD i undef) = f at ha
  generalize tm.getD 8 undef = t8 at ha
  subst ha hd
  refine hK1 _ _ ?_
  clear hK1 K1
  unfold turnTmps
  go_wp2
  refine wp_loop (fun a W => ∃ (t : Nat) (Ds : List Nat), t ≤ 2 ∧ a.tmps = turnTmps (fun i => a.tmps.getD i undef) (.slice q zs'.length cap) w.heap.size w1.heap.size (.int .i64 t) ∧ a.defers = Ds.map mkD ∧ (Ds.length = t ∧ Ds.Nodup) ∧ TS w b o p r w1.heap.size (w1.heap.size + 1) W [] Ds) (fun a _ => 2 - (intOf (a.tmps.getD 8 undef)).toNat) ⟨0, [], by omega, rfl, rfl, ⟨rfl, List.nodup_nil⟩, HT0.out⟩ ?_
  clear HT0 f t8
  rintro ⟨tm, ds⟩ W ⟨t, Ds, ht, ha, hd, ⟨hDl, hDn⟩, hT⟩
  have HDN : Hid Ds.Nodup := hDn
  clear hDn
  have HT : Hid (TS w b o p r w1.heap.size (w1.heap.size + 1) W [] Ds) := hT
  dsimp only at ha hd
  generalize (fun i => tm.getD i undef) = f at ha
  subst ha hd
  clear hT
  unfold turnTmps
  by_cases h2t : t < 2
  · have i2 : (t : Int) < 2 := by omega
    go_wp2
    go_loopw [9, 10] (fun m i wr => ∃ k : Nat, k ≤ zs'.length ∧ i = .int .i64 k ∧ m = .int .i64 (fillL r (zs'.take k)).length ∧ TS w b o p r w1.heap.size (w1.heap.size + 1) wr (fillL r (zs'.take k)) Ds) (fun _ i _ => zs'.length - (intOf i).toNat)
    case atStart => exact ⟨0, Nat.zero_le _, rfl, rfl, HT.out⟩
    case round =>
      obtain ⟨k, hk, rfl, rfl, hT⟩ := hrel
      have HW : Hid (TS w b o p r w1.heap.size (w1.heap.size + 1) wr (fillL r (zs'.take k)) Ds) := hT
      clear hT HT
      by_cases hlt : k < zs'.length
      · have HX : Hid (zs'.take (k + 1) = zs'.take k ++ [zs'[k]]) := take_next zs' k hlt
        obtain ⟨g, off, rfl, hg, hc⟩ := HC'.out k _ (List.getElem?_eq_getElem hlt)
        have CX : Hid (∀ W', Below w.heap.size w W' → W'.cell? ⟨g, off + k, none⟩ = some (.int .i64 zs'[k])) := fun W' hb => (hb.cell (p := ⟨g, off + k, none⟩) hg).trans hc
        generalize zs'[k] = x at HX CX
        clear hc
        obtain ⟨L, hL⟩ : ∃ L, fillL r (zs'.take k) = L := ⟨_, rfl⟩
        have HF : Hid (fillL r (zs'.take (k + 1)) = putL r L x) := (show fillL r (zs'.take (k + 1)) = putL r L x from by rw [HX.out, fillL_snoc, hL])
        rw [hL] at HW ⊢
        clear hL
        have HP := put_ways r L x (fun y hy => HW.out.m.inr hy)
        have hll := HW.out.m.len
        have c1 := HW.out.y.cell
        have cx := CX.out wr HW.out.bel
        have i0 : (0 : Int) ≤ (k : Int) := by omega
        have i1 : (k : Int) < (zs'.length : Int) := by omega
        have lg : g < wr.heap.size := Nat.lt_of_lt_of_le hg HW.out.bel.size
        have ly := HW.out.y.lt
        go_upto_region 15 with (go_at_call 12; (with_reducible refine (len_c HW.out.m).mono ?_); rintro e w5 ⟨rfl, h5⟩; subst w5)
        go_cut [12] from 51 to 56 (fun pt wx => pt = .bool (putB r L x) ∧ TS w b o p r w1.heap.size (w1.heap.size + 1) wx (putL r L x) Ds)
        case first =>
          go_region_with (go_at_call 13; (with_reducible refine (put_c (HW.out.m.kept (Below.refl _ wr).drew) x).mono ?_); rintro e w6 ⟨rfl, hm, hf⟩; have T6 : Hid (TS w b o p r w1.heap.size (w1.heap.size + 1) w6 (putL r L x) Ds) := HW.out.fr TNN.out hm (((Fr.refl _ wr).drew).trans hf); clear hm hf)
          all_goals go_wp2_with fail
          all_goals go_meet
          all_goals exact ⟨rfl, T6.out⟩
        case rest =>
          obtain ⟨rfl, hT6⟩ := hcut
          have H6 : Hid (TS w b o p r w1.heap.size (w1.heap.size + 1) wc (putL r L x) Ds) := hT6
          clear hT6 c1 cx lg ly HW
          have c1 := H6.out.y.cell
          have cx := CX.out wc H6.out.bel
          have lg : g < wc.heap.size := Nat.lt_of_lt_of_le hg H6.out.bel.size
          have ly := H6.out.y.lt
          have hl6 := H6.out.m.len
          go_wp2
          refine wp_region_ext (by kernel_rfl) (by kernel_rfl) ?_
          repeat (go_big_quiet_step (first | exact rfl | (go_at_call 18; with_reducible exact has_x H6.out.m x)))
          refine wpQuiet_nil ?_
          intro w7 hw
          have hb7 := ext_of hw
          clear hw
          have H7 : Hid (TS w b o p r w1.heap.size (w1.heap.size + 1) w7 (putL r L x) Ds) := H6.out.kept hb7
          clear hb7 c1 cx lg ly H6
          have c1 := H7.out.y.cell
          have cx := CX.out w7 H7.out.bel
          have lg : g < w7.heap.size := Nat.lt_of_lt_of_le hg H7.out.bel.size
          have ly := H7.out.y.lt
          have hwr : IntKind.i64.wrap ((L.length : Int) + 1) = (L.length : Int) + 1 := by rw [IntKind.wrap_i64]; omega
          have HE : Hid (((putB r L x = true ∧ decide (x ∈ putL r L x) = true ∧ 0 ≤ x ∧ x < r ∧ (((putL r L x).length : Int) == (L.length : Int) + 1) = true) ∧ (putL r L x).length = L.length + 1) ∨ ((putB r L x = false ∧ (((putL r L x).length : Int) == (L.length : Int) + 1) = false ∧ ((decide (x ∈ putL r L x) = false ∧ decide (0 ≤ x) = false) ∨ (decide (x ∈ putL r L x) = true ∧ 0 ≤ x ∧ x < r) ∨ (decide (x ∈ putL r L x) = false ∧ 0 ≤ x ∧ (r : Int) ≤ x))) ∧ (putL r L x).length = L.length)) := (show _ from by
            rcases HP with ⟨a1, a2, a3, a4, a5⟩ | ⟨a1, a2, a3, a5⟩ | ⟨a1, a2, a3, a4, a5⟩ | ⟨a1, a2, a3, a4, a5⟩
            · exact .inl ⟨⟨a1, a2, a3, a4, by rw [a5]; simp⟩, by rw [a5]; simp⟩
            · exact .inr ⟨⟨a1, by rw [a5]; simp; omega, .inl ⟨a2, decide_eq_false (by omega)⟩⟩, by rw [a5]⟩
            · exact .inr ⟨⟨a1, by rw [a5]; simp; omega, .inr (.inl ⟨a2, a3, a4⟩)⟩, by rw [a5]⟩
            · exact .inr ⟨⟨a1, by rw [a5]; simp; omega, .inr (.inr ⟨a2, a3, a4⟩)⟩, by rw [a5]⟩)
          clear HP
          rcases HE.out with ⟨⟨p1, p2, p3, p4, p5⟩, p6⟩ | ⟨⟨p1, p5, ⟨p2, p3⟩ | ⟨p2, p3, p4⟩ | ⟨p2, p3, p4⟩⟩, p6⟩
          all_goals
            have P6 : Hid _ := p6
            clear p6 HE
            rw [p1, p2]
            go_wp2
            refine wp_region_ext (by kernel_rfl) (by kernel_rfl) ?_
            repeat (go_big_quiet_step (first | exact rfl | (go_at_call 12; with_reducible exact len_x H7.out.m) | (go_at_call 11; with_reducible exact room_x H7.out.m)))
            refine wpQuiet_nil ?_
            intro w8 hw
            have H8 : Hid (TS w b o p r w1.heap.size (w1.heap.size + 1) w8 (putL r L x) Ds) := H7.out.kept (ext_of hw)
            clear hw
            go_wp2
            exact ⟨⟨k + 1, by omega, by go_num, by rw [HF.out, P6.out] <;> simp, by rw [HF.out]; exact H8.out⟩, by simp [intOf]; omega⟩
      · have hke : zs'.take k = zs' := List.take_of_length_le (by omega)
        rw [hke] at HW ⊢
        obtain ⟨F, hF⟩ : ∃ F, fillL r zs' = F := ⟨_, rfl⟩
        rw [hF] at HW ⊢
        clear hke hF
        have i1 : ¬ ((k : Int) < (zs'.length : Int)) := by omega
        have c1 := (HW.out.y.alloc (.cells #[.int .i64 0] 3)).cell
        go_wp2_with (go_at_call 15; refine (all_c b _).mono ?_; rintro e w7 ⟨rfl, h7⟩; subst w7)
        have bN := (Boxed.new wr 3 (.int .i64 0)).alloc (.cells #[.pointer (some ⟨b, 0, none⟩)] 23)
        have bA := Boxed.new (wr.alloc (.cells #[.int .i64 0] 3)) 23 (.pointer (some ⟨b, 0, none⟩))
        have hV0 : Below wr.heap.size wr ((wr.alloc (.cells #[.int .i64 0] 3)).alloc (.cells #[.pointer (some ⟨b, 0, none⟩)] 23)) := ((Below.refl _ _).alloc (Nat.le_refl _) _).alloc (by simp) _
        have hVs : ((wr.alloc (.cells #[.int .i64 0] 3)).alloc (.cells #[.pointer (some ⟨b, 0, none⟩)] 23)).heap.size = wr.heap.size + 1 + 1 := by simp
        simp only [World.size_alloc] at bA
        obtain ⟨V, hV⟩ : ∃ V, ((wr.alloc (.cells #[.int .i64 0] 3)).alloc (.cells #[.pointer (some ⟨b, 0, none⟩)] 23)) = V := ⟨_, rfl⟩
        rw [hV] at bN bA hV0 hVs ⊢
        clear hV c1
        have HV : Hid (TS w b o p r w1.heap.size (w1.heap.size + 1) V F Ds) := HW.out.kept hV0
        have XW : Hid (∀ W', Below wr.heap.size V W' → TS w b o p r w1.heap.size (w1.heap.size + 1) W' F Ds) := fun W' hW' => HW.out.kept (hV0.trans hW')
        have lx := HW.out.x.lt
        have ly := HW.out.y.lt
        have hfl := HW.out.m.len
        refine (wpIn_wide (n := n)).1 ?_
        refine all_range hn 15 93 (wr.heap.size + 1) b o p r F rfl rfl bA HV.out.m
          (fun pre W => Boxed W wr.heap.size 3 (.int .i64 pre.length) ∧ Below wr.heap.size V W)
          (fun _ pre _ => ¬ pre <+: F)
          (OwnFrom.and (fun pre W W' row hs hg hr => cells_kept hg hr hs) (ownFrom_below (by omega) (by omega)))
          (fun _ _ _ _ _ hs _ _ => hs)
          ⟨bN, Below.refl _ _⟩ ?_ ?_ ?_ ?_
        · intro l x W K hK
          gi_wp2
          exact hK
        · rintro l pre x W2 ⟨hbx, hbe⟩ hlt
          have T2 : Hid (TS w b o p r w1.heap.size (w1.heap.size + 1) W2 F Ds) := XW.out W2 hbe
          obtain ⟨y, hy⟩ : ∃ y, F[pre.length]? = some y := ⟨_, List.getElem?_eq_getElem hlt⟩
          have HV1 : Hid (atV F pre.length = y ∧ atB F pre.length = true) := (show _ from ⟨by unfold atV; rw [if_pos ⟨by omega, by omega⟩]; simp [hy], decide_eq_true ⟨by omega, by omega⟩⟩)
          have HY : Hid (F[pre.length]? = some y) := hy
          have HX : Hid (Boxed W2 wr.heap.size 3 (.int .i64 pre.length)) := hbx
          have c1 := hbx.cell
          have f1 := hbx.frozen
          have c2 := T2.out.y.cell
          have c3 := T2.out.x.cell
          have f3 := T2.out.x.frozen
          clear hbx hy
          simp only [roundAct, List.setIfInBounds_toArray, List.set_cons_succ, List.set_cons_zero]
          by_cases hxy : x = y
          · have hxe : (x != y) = false := by simp [hxy]
            have hwr : IntKind.i64.wrap ((pre.length : Int) + 1) = (pre.length : Int) + 1 := by rw [IntKind.wrap_i64]; omega
            gi_wp2_with (gi_at_call 19; refine (CallsIn.inRound l (callsIn_wide.2 (at_c T2.out.m pre.length))).mono ?_; rw [HV1.out.1, HV1.out.2]; rintro e w7 ⟨rfl, h7⟩; subst w7)
            have hFr : Fr (fun j => j = wr.heap.size) W2 (W2.setCell ⟨wr.heap.size, 0, none⟩ (.int .i64 ((pre.length : Int) + 1))) := Fr.setCell (S := fun j => j = wr.heap.size) (p := ⟨wr.heap.size, 0, none⟩) (Fr.refl _ _) rfl _
            refine ⟨hFr.keepsFrom (fun j hj => by omega), hFr.ckeep (fun j hj => by omega), ?_, hbe.setCell (by simp) _⟩
            have := HX.out.set (.int .i64 ((pre.length : Int) + 1))
            simpa using this
          · have hxe : (x != y) = true := by simp [hxy]
            have HNP : Hid (¬ pre ++ [x] <+: F) := fun q => hxy (prefix_at q HY.out)
            gi_wp2_with (gi_at_call 19; refine (CallsIn.inRound l (callsIn_wide.2 (at_c T2.out.m pre.length))).mono ?_; rw [HV1.out.1, HV1.out.2]; rintro e w7 ⟨rfl, h7⟩; subst w7)
            have hFr : Fr (fun j => j = w.heap.size) W2 (W2.setCell ⟨w.heap.size, 0, none⟩ (.bool false)) := Fr.setCell (S := fun j => j = w.heap.size) (p := ⟨w.heap.size, 0, none⟩) (Fr.refl _ _) rfl _
            exact ⟨hFr.keepsFrom (fun j hj => by omega), HNP.out⟩
        · rintro D W2 hD ⟨hbx, hbe⟩ hK
          have T2 : Hid (TS w b o p r w1.heap.size (w1.heap.size + 1) W2 F (D :: Ds)) := (show _ from by
            have q := XW.out W2 hbe
            exact ⟨q.m, q.x, q.y, q.bel, q.sz, fun D' hD' => by
              rcases List.mem_cons.1 hD' with rfl | hD'
              · exact ⟨by have := HW.out.sz; omega, hK⟩
              · exact q.d D' hD'⟩)
          have HX : Hid (Boxed W2 wr.heap.size 3 (.int .i64 F.length)) := hbx
          have hDn : D ∉ Ds := fun q => by
            have a := lt_of_heap (HW.out.d D q).2
            omega
          have ND : Hid (D ∉ Ds) := hDn
          simp only [behindAct]
          have c1 := T2.out.y.cell
          clear hbx hbe hK hDn HV XW HW bN bA hV0
          have c4 := HX.out.cell
          have SG : Hid (F.length = (sortI F).length) := (sortI_length F).symm
          go_wp2_with first | (go_at_call 20; (with_reducible refine (rising_c T2.out.m).mono ?_); rintro e w9 ⟨rfl, hrow, hb⟩; have T9 : Hid (TS w b o p r w1.heap.size (w1.heap.size + 1) w9 F (D :: Ds)) := T2.out.kept hb; have R9 : Hid (RowG w9 W2.heap.size F.length (sortI F)) := hrow; have X9 : Hid (Boxed w9 wr.heap.size 3 (.int .i64 F.length)) := boxed_kept HX.out hb; clear hrow hb c1 c4; have c1 := T9.out.y.cell; have c4 := X9.out.cell) | (go_at_call 12; (with_reducible refine (len_c T9.out.m).mono ?_); rintro e w10 ⟨rfl, h10⟩; subst w10)
          obtain ⟨R, hR⟩ : ∃ R, W2.heap.size = R := ⟨_, rfl⟩
          rw [hR] at R9 ⊢
          clear hR
          go_loopw [19] (fun i wx => ∃ k : Nat, k ≤ F.length ∧ i = .int .i64 k ∧ TS w b o p r w1.heap.size (w1.heap.size + 1) wx F (D :: Ds) ∧ RowG wx R F.length (sortI F)) (fun i _ => F.length - (intOf i).toNat)
          case atStart => exact ⟨0, Nat.zero_le _, rfl, T9.out, R9.out⟩
          case round =>
            obtain ⟨j, hj, rfl, hT3, hR3⟩ := hrel
            have T3 : Hid (TS w b o p r w1.heap.size (w1.heap.size + 1) wr F (D :: Ds)) := hT3
            have R3 : Hid (RowG wr R F.length (sortI F)) := hR3
            clear hT3 hR3 T9 R9 X9 T2 HX c1 c4
            have c1 := T3.out.y.cell
            have ly3 := T3.out.y.lt
            have lR := R3.out.lt
            by_cases hlt : j < F.length
            · have hls : j < (sortI F).length := by rw [sortI_length]; exact hlt
              have HG : Hid ((sortI F)[j]? = some (sortI F)[j]) := List.getElem?_eq_getElem hls
              have cj := R3.out.cell (List.getElem?_eq_getElem hls)
              have hd : decide ((sortI F)[j] ∈ F) = true := decide_eq_true ((sortI_mem F _).1 (List.getElem_mem hls))
              have UP : Hid (∀ i, ∀ h : i + 1 = j, (sortI F)[i]'(by omega) < (sortI F)[j]) := fun i h => sortI_up T3.out.m.nodup i j (by omega) hls
              have i0 : (0 : Int) ≤ (j : Int) := by omega
              have i1 : (j : Int) < (F.length : Int) := by omega
              have H0 : j = 0 ∨ ∃ i y, i + 1 = j ∧ (sortI F)[i]? = some y ∧ y < (sortI F)[j] := by
                cases j with
                | zero => exact .inl rfl
                | succ i => exact .inr ⟨i, _, rfl, List.getElem?_eq_getElem (by omega), UP.out i rfl⟩
              generalize (sortI F)[j] = z at cj hd HG H0
              clear UP
              go_wp2
              refine wp_region_ext (by kernel_rfl) (by kernel_rfl) ?_
              repeat (go_big_quiet_step (first | exact rfl | (go_at_call 18; with_reducible exact has_x T3.out.m z)))
              refine wpQuiet_nil ?_
              intro w4 hw
              have T4 : Hid (TS w b o p r w1.heap.size (w1.heap.size + 1) w4 F (D :: Ds)) := T3.out.kept (ext_of hw)
              have R4 : Hid (RowG w4 R F.length (sortI F)) := R3.out.kept (ext_of hw)
              clear hw
              have lR4 := R4.out.lt
              rcases H0 with hj0 | ⟨i, y, hij, hy, hyz⟩
              · have g0 : decide (0 < j) = false := decide_eq_false (by omega)
                clear hj0
                rw [hd]
                go_wp2
                refine wp_region_ext (by kernel_rfl) (by kernel_rfl) ?_
                repeat (go_big_quiet_step (first | exact rfl))
                refine wpQuiet_nil ?_
                intro w5 hw
                have T5 : Hid (TS w b o p r w1.heap.size (w1.heap.size + 1) w5 F (D :: Ds)) := T4.out.kept (ext_of hw)
                have R5 : Hid (RowG w5 R F.length (sortI F)) := R4.out.kept (ext_of hw)
                clear hw
                go_wp2
                go_roundw
                case rel => exact ⟨j + 1, by omega, by go_num, T5.out, R5.out⟩
                case measure => simp [intOf]; omega
              · have g0 : decide (0 < j) = true := decide_eq_true (by omega)
                have ci := R4.out.cell hy
                have cj4 := R4.out.cell HG.out
                have hle : decide (z ≤ y) = false := decide_eq_false (by omega)
                have hsub : IntKind.i64.wrap ((j : Int) - 1) = (i : Int) := by rw [IntKind.wrap_i64]; omega
                have e0 : (0 : Int) ≤ (i : Int) := by omega
                have e1 : (i : Int) < (F.length : Int) := by omega
                have HIJ : Hid (i + 1 = j) := hij
                clear hij hy hyz
                rw [hd]
                go_wp2
                refine wp_region_ext (by kernel_rfl) (by kernel_rfl) ?_
                repeat (go_big_quiet_step (first | exact rfl))
                refine wpQuiet_nil ?_
                intro w5 hw
                have T5 : Hid (TS w b o p r w1.heap.size (w1.heap.size + 1) w5 F (D :: Ds)) := T4.out.kept (ext_of hw)
                have R5 : Hid (RowG w5 R F.length (sortI F)) := R4.out.kept (ext_of hw)
                clear hw
                go_wp2
                go_roundw
                case rel => exact ⟨j + 1, by omega, by go_num, T5.out, R5.out⟩
                case measure => simp [intOf]; omega
            · have i1 : ¬ ((j : Int) < (F.length : Int)) := by omega
              have c1 := T3.out.y.cell
              go_wp2_with first | (go_at_call 21; (with_reducible refine (clear_c T3.out.m).mono ?_); rintro e w6 ⟨rfl, hm, hf⟩; have T6 : Hid (TS w b o p r w1.heap.size (w1.heap.size + 1) w6 [] (D :: Ds)) := T3.out.fr TNN.out hm hf; clear hm hf c1; have c1 := T6.out.y.cell) | (go_at_call 12; (with_reducible refine (len_c T6.out.m).mono ?_); rintro e w10 ⟨rfl, h10⟩; subst w10) | (go_at_call 20; (with_reducible refine (rising_c T6.out.m).mono ?_); rintro e w7 ⟨rfl, hrow, hb⟩; have T7 : Hid (TS w b o p r w1.heap.size (w1.heap.size + 1) w7 [] (D :: Ds)) := T6.out.kept hb; clear hrow hb)
              exact ⟨⟨t + 1, D :: Ds, by omega, rfl, rfl, ⟨by simp [hDl], List.nodup_cons.2 ⟨ND.out, HDN.out⟩⟩, T7.out⟩, by simp [intOf]; omega⟩
        · rintro D c pre W2 _ hp h _
          exact absurd hp h
  · obtain rfl : t = 2 := by omega
    have i2 : ¬ ((2 : Int) < 2) := by omega
    have c1 := HT.out.x.cell
    have f1 := HT.out.x.frozen
    obtain ⟨D2, D1, rfl⟩ : ∃ D2 D1, Ds = [D2, D1] := by
      match Ds, hDl with
      | [D2, D1], _ => exact ⟨D2, D1, rfl⟩
    have HB : Hid (Below w.heap.size w (W.setCell ⟨w.heap.size, 0, none⟩ (.bool true))) := HT.out.bel.setCell (by simp) _
    have s2 := (HT.out.d D2 (by simp)).1
    have s1 := (HT.out.d D1 (by simp)).1
    have ws : w.heap.size < w1.heap.size := Nat.lt_trans TNN.out.a0 TNN.out.a3
    have K2 : Hid ((W.setCell ⟨w.heap.size, 0, none⟩ (.bool true)).heap[D2]? = some (.deferred (some []))) := (Below.heap_setCell _ _ _ _ (by simp; omega)).trans (HT.out.d D2 (by simp)).2
    have K1 : Hid ((W.setCell ⟨w.heap.size, 0, none⟩ (.bool true)).heap[D1]? = some (.deferred (some []))) := (Below.heap_setCell _ _ _ _ (by simp; omega)).trans (HT.out.d D1 (by simp)).2
    have XR : Hid (Boxed (W.setCell ⟨w.heap.size, 0, none⟩ (.bool true)) w.heap.size 4 (.bool true)) := HT.out.x.set _
    have hne : D1 ≠ D2 := fun e => by
      have q := HDN.out
      rw [e] at q
      simp at q
    go_wp2
    generalize W.setCell ⟨w.heap.size, 0, none⟩ (.bool true) = Y at HB K2 K1 XR ⊢
    have K1' : (Y.putObj D2 (.deferred none)).heap[D1]? = some (.deferred (some [])) := (World.putObj_heap_other hne).trans K1.out
    have cr := (boxed_same (W' := (Y.putObj D2 (.deferred none)).putObj D1 (.deferred none)) (boxed_same (W' := Y.putObj D2 (.deferred none)) XR.out (World.putObj_heap_other (by omega))) (World.putObj_heap_other (by omega))).cell
    refine ⟨by simp, .inl ⟨_, _, rfl, run_takeDeferred K2.out, ?_⟩⟩
    refine ⟨by simp, .inl ⟨_, _, rfl, run_takeDeferred K1', ?_⟩⟩
    exact ⟨.bool true, by simp [results, Try.results5, go_sem, cr], rfl, (HB.out.trans (belowK_b (w := w) (Nat.le_refl _) Y D2 _ _ (by omega) K2.out rfl rfl)).trans (belowK_b (w := w) (Nat.le_refl _) _ D1 _ _ (by omega) K1' rfl rfl)⟩

theorem law_follow (room : Int) (wf : (Lit.int .i64 room).wf = true) (zs : List Int) (v : Value) (w : World) (hz : ArgI w v zs) :
    Calls Try.prog 5 #[.int .i64 room, v] w fun e W' => e = .returned (.bool true) ∧ Below w.heap.size w W' := callsIn_wide.1 (follow_in 3 (Nat.le_refl _) room wf zs v w hz)
end Go.Proofs.Ytbpphdjienpiaaa
