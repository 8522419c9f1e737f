/-
  What Same answers of two sets; what the laws' same answers of two lists.
-/
import Derived.Test.YtofiidfnjgoenaaCopy
namespace Go.Proofs.Ytofiidfnjgoenaa
open Go Go.RowKit Go.Shelf
attribute [local go_sem] Oper.semAt_some ext_cell

theorem len_x {W : World} {x : Ext W} {b o p room : Nat} {L : List Int} (h : MAt W b o p room L) : Calls Try.prog 12 #[.pointer (some ⟨b, 0, none⟩)] x.val fun e w'' => e = .returned (.int .i64 L.length) ∧ ∃ y : Ext W, w'' = y.val := ext_call_same (len_c (h.kept x.2))
theorem room_x {W : World} {x : Ext W} {b o p room : Nat} {L : List Int} (h : MAt W b o p room L) : Calls Try.prog 11 #[.pointer (some ⟨b, 0, none⟩)] x.val fun e w'' => e = .returned (.int .i64 room) ∧ ∃ y : Ext W, w'' = y.val := ext_call_same (room_c (h.kept x.2))
theorem has_x {W : World} {x : Ext W} {b o p room : Nat} {L : List Int} (h : MAt W b o p room L) (n : Int) : Calls Try.prog 18 #[.pointer (some ⟨b, 0, none⟩), .int .i64 n] x.val fun e w'' => e = .returned (.bool (decide (n ∈ L))) ∧ ∃ y : Ext W, w'' = y.val := ext_call_same (has_c (h.kept x.2) n)
/-- A list of numbers that can be read. -/
def SeesI (W : World) (v : Value) (l : List Int) : Prop := ∃ q cap, v = .slice q l.length cap ∧ l.length ≤ maxLen ∧
    (∀ (i : Nat) (x : Int), l[i]? = some x → ∃ g off, q = some ⟨g, off, none⟩ ∧ g < W.heap.size ∧ W.cell? ⟨g, off + i, none⟩ = some (.int .i64 x))
theorem SeesI.kept {W W' : World} {v : Value} {l : List Int} (h : SeesI W v l) (hb : Below W.heap.size W W') : SeesI W' v l := by
  obtain ⟨q, cap, rfl, hl, hc⟩ := h
  refine ⟨q, cap, rfl, hl, fun i x hx => ?_⟩
  obtain ⟨g, off, rfl, hg, hcc⟩ := hc i x hx
  exact ⟨g, off, rfl, Nat.lt_of_lt_of_le hg hb.size, (hb.cell (p := ⟨g, off + i, none⟩) hg).trans hcc⟩
theorem RowG.sees {W : World} {g cap : Nat} {l : List Int} (h : RowG W g cap l) (hm : l.length ≤ maxLen) {n : Nat} (hn : n = l.length) (c : Nat) : SeesI W (.slice (some ⟨g, 0, none⟩) n c) l :=
  ⟨_, c, by rw [hn], hm, fun i x hx => ⟨g, 0, rfl, h.lt, by rw [Nat.zero_add]; exact h.cell hx⟩⟩
theorem OwnI.sees {W : World} {base : Nat} {v : Value} {l : List Int} (h : OwnI W base v l) (hm : l.length ≤ maxLen) : SeesI W v l := by
  obtain ⟨q, cap, rfl⟩ := h.slice
  refine ⟨q, cap, rfl, hm, fun i x hx => ?_⟩
  obtain ⟨g, c, e, _, hg, hc⟩ := h.cell hx
  cases e
  exact ⟨g, 0, rfl, hg, by rw [Nat.zero_add]; exact hc⟩

set_option maxRecDepth 100000 in
set_option maxHeartbeats 4000000 in
theorem sameL_c {w : World} {v1 v2 : Value} {l1 l2 : List Int} (h1 : SeesI w v1 l1) (h2 : SeesI w v2 l2) :
    Calls Try.prog 24 #[v1, v2] w fun e w' => e = .returned (.bool (decide (l1 = l2))) ∧ Below w.heap.size w w' := by
  obtain ⟨q1, cap1, rfl, hl1, hc1⟩ := h1
  obtain ⟨q2, cap2, rfl, hl2, hc2⟩ := h2
  have C1 : Hid (∀ (i : Nat) (x : Int), l1[i]? = some x → ∃ g off, q1 = some ⟨g, off, none⟩ ∧ g < w.heap.size ∧ w.cell? ⟨g, off + i, none⟩ = some (.int .i64 x)) := hc1
  have C2 : Hid (∀ (i : Nat) (x : Int), l2[i]? = some x → ∃ g off, q2 = some ⟨g, off, none⟩ ∧ g < w.heap.size ∧ w.cell? ⟨g, off + i, none⟩ = some (.int .i64 x)) := hc2
  clear hc1 hc2
  unfold maxLen at hl1 hl2
  by_cases hlen : l1.length = l2.length
  · have HL : Hid (l1.length = l2.length) := hlen
    have he : ((l1.length : Int) != (l2.length : Int)) = false := by simp; omega
    clear hlen
    go_enter Try.func24, Try.ntmps24
    go_wp2
    go_loopw [5] (fun i wr => ∃ k : Nat, k ≤ l1.length ∧ i = .int .i64 k ∧ l1.take k = l2.take k ∧ Below w.heap.size w wr) (fun i _ => l1.length - (intOf i).toNat)
    case atStart => exact ⟨0, Nat.zero_le _, rfl, by simp, Below.refl _ _⟩
    case round =>
      obtain ⟨k, hk, rfl, htk, hb⟩ := hrel
      have HT : Hid (l1.take k = l2.take k) := htk
      have HB : Hid (Below w.heap.size w wr) := hb
      clear htk
      by_cases hlt : k < l1.length
      · have hlt2 : k < l2.length := by have := HL.out; omega
        have X1 : Hid (l1[k]? = some l1[k]) := List.getElem?_eq_getElem hlt
        have X2 : Hid (l2[k]? = some l2[k]) := List.getElem?_eq_getElem hlt2
        have T1 : Hid (l1.take (k + 1) = l1.take k ++ [l1[k]]) := take_next l1 k hlt
        have T2 : Hid (l2.take (k + 1) = l2.take k ++ [l2[k]]) := take_next l2 k hlt2
        obtain ⟨g1, off1, rfl, hg1, d1⟩ := C1.out k _ X1.out
        obtain ⟨g2, off2, rfl, hg2, d2⟩ := C2.out k _ X2.out
        have e1 := (hb.cell (p := ⟨g1, off1 + k, none⟩) hg1).trans d1
        have e2 := (hb.cell (p := ⟨g2, off2 + k, none⟩) hg2).trans d2
        have hg1' : g1 < wr.heap.size := Nat.lt_of_lt_of_le hg1 hb.size
        have hg2' : g2 < wr.heap.size := Nat.lt_of_lt_of_le hg2 hb.size
        clear d1 d2 hb
        generalize l1[k] = x at e1 X1 T1
        generalize l2[k] = y at e2 X2 T2
        have i0 : (0 : Int) ≤ (k : Int) := by omega
        have i1 : (k : Int) < (l1.length : Int) := by omega
        have i2 : (k : Int) < (l2.length : Int) := by omega
        by_cases hxy : x = y
        · have hxe : (x != y) = false := by simp [hxy]
          have HXY : Hid (x = y) := hxy
          clear hxy
          go_wp2
          refine wp_region_ext (by kernel_rfl) (by kernel_rfl) ?_
          repeat (go_big_quiet_step (first | exact rfl))
          refine wpQuiet_nil ?_
          intro w5 hw
          have hb5 := ext_of hw
          clear hw
          go_wp2
          go_roundw
          case rel => exact ⟨k + 1, by omega, by go_num, by rw [T1.out, T2.out, HT.out, HXY.out], chain HB.out hb5 (Nat.le_refl _)⟩
          case measure => simp [intOf]; omega
        · have hxe : (x != y) = true := by simp [hxy]
          have HXY : Hid (¬ x = y) := hxy
          clear hxy
          go_wp2
          refine wp_region_ext (by kernel_rfl) (by kernel_rfl) ?_
          repeat (go_big_quiet_step (first | exact rfl))
          refine wpQuiet_nil ?_
          intro w5 hw
          have hb5 := ext_of hw
          clear hw
          go_wp2
          go_ret
          have HD : decide (l1 = l2) = false := decide_eq_false (fun e => by
            have a := X1.out
            rw [e, X2.out] at a
            exact HXY.out (Option.some.inj a).symm)
          exact ⟨by rw [HD]; rfl, chain HB.out hb5 (Nat.le_refl _)⟩
      · have i1 : ¬ ((k : Int) < (l1.length : Int)) := by omega
        have HD : Hid (decide (l1 = l2) = true) := (show _ from decide_eq_true (by
          have a := HT.out
          have := HL.out
          rwa [List.take_of_length_le (by omega), List.take_of_length_le (by omega)] at a))
        go_wp2
        go_ret
        exact ⟨by rw [HD.out]; rfl, HB.out⟩
  · have he : ((l1.length : Int) != (l2.length : Int)) = true := by simp; omega
    have HD : Hid (decide (l1 = l2) = false) := (show _ from decide_eq_false (fun e => hlen (by rw [e])))
    clear hlen
    go_enter Try.func24, Try.ntmps24
    go_wp2
    go_ret
    exact ⟨by rw [HD.out]; rfl, Below.refl _ _⟩

/-- Have both the same numbers? -/
def sameB (L L' : List Int) : Bool := decide (L.length = L'.length ∧ ∀ x ∈ L, x ∈ L')

set_option maxRecDepth 100000 in
set_option maxHeartbeats 4000000 in
theorem sameM_in (n : Nat) (hn : 3 ≤ n) {w : World} {b o p room : Nat} {L : List Int} {b' o' p' room' : Nat} {L' : List Int} (hM : MAt w b o p room L) (hM' : MAt w b' o' p' room' L') :
    CallsIn Fence.wide n Try.prog 25 #[.pointer (some ⟨b, 0, none⟩), .pointer (some ⟨b', 0, none⟩)] w fun e W' => e = .returned (.bool (sameB L L')) ∧ Below w.heap.size w W' := by
  have h1 : 1 ≤ n := by omega
  have h2 : 1 ≤ n - 1 - 1 := by omega
  have hfn : ∀ f, Fence.wide.fn f := fun _ => trivial
  have HM : Hid (MAt w b o p room L) := hM
  have HM' : Hid (MAt w b' o' p' room' L') := hM'
  have hl := hM.len
  have hl' := hM'.len
  have hr := hM.hr
  have hr' := hM'.hr
  clear hM hM'
  have hV0 : Below w.heap.size w ((w.alloc (.cells #[.pointer (some ⟨b', 0, none⟩)] 23)).alloc (.cells #[.bool false] 4)) := ((Below.refl _ _).alloc (Nat.le_refl _) _).alloc (by simp) _
  have bO := (Boxed.new w 23 (.pointer (some ⟨b', 0, none⟩))).alloc (.cells #[.bool false] 4)
  have bR := Boxed.new (w.alloc (.cells #[.pointer (some ⟨b', 0, none⟩)] 23)) 4 (.bool false)
  simp only [World.size_alloc] at bR
  have hVs : ((w.alloc (.cells #[.pointer (some ⟨b', 0, none⟩)] 23)).alloc (.cells #[.bool false] 4)).heap.size = w.heap.size + 1 + 1 := by simp
  refine callsIn_of_wp_marks Try.func25 rfl trivial ?_ rfl
  simp only [Try.ntmps25, List.size_toArray, List.length_cons, List.length_nil, Nat.reduceAdd, Nat.reduceSub, Array.replicate_succ, Array.replicate_zero, List.push_toArray, List.append_toArray, List.nil_append, List.cons_append]
  refine wpIn_wide.2 ?_
  go_wp2
  obtain ⟨V, hV⟩ : ∃ V, ((w.alloc (.cells #[.pointer (some ⟨b', 0, none⟩)] 23)).alloc (.cells #[.bool false] 4)) = V := ⟨_, rfl⟩
  rw [hV] at hV0 bO bR hVs ⊢
  clear hV
  have MV : Hid (MAt V b o p room L) := HM.out.kept hV0
  have MV' : Hid (MAt V b' o' p' room' L') := HM'.out.kept hV0
  have cO := bO.cell
  have lO := bO.lt
  refine wp_region_ext (by kernel_rfl) (by kernel_rfl) ?_
  repeat (go_big_quiet_step (first | exact rfl | (go_at_call 12; with_reducible exact len_x MV.out) | (go_at_call 12; with_reducible exact len_x MV'.out)))
  refine wpQuiet_nil ?_
  intro U hw
  have hU := ext_of hw
  clear hw
  have XO : Hid (Boxed U w.heap.size 23 (.pointer (some ⟨b', 0, none⟩))) := boxed_kept bO hU
  have XR : Hid (Boxed U (w.heap.size + 1) 4 (.bool false)) := boxed_kept bR hU
  have BU : Hid (Below w.heap.size w U) := chain hV0 hU (Nat.le_refl _)
  clear hU bO bR cO
  have cR := XR.out.cell
  have fR := XR.out.frozen
  by_cases hlen : L.length = L'.length
  · have he : ((L.length : Int) != (L'.length : Int)) = false := by simp; omega
    have HL : Hid (L.length = L'.length) := hlen
    clear hlen
    go_wp2_with (go_at_call 15; refine (all_c b _).mono ?_; rintro e w7 ⟨rfl, h7⟩; subst w7)
    have bA := Boxed.new U 23 (.pointer (some ⟨b, 0, none⟩))
    have xO := XO.out.alloc (.cells #[.pointer (some ⟨b, 0, none⟩)] 23)
    have xR := XR.out.alloc (.cells #[.pointer (some ⟨b, 0, none⟩)] 23)
    have hT0 : Below w.heap.size w (U.alloc (.cells #[.pointer (some ⟨b, 0, none⟩)] 23)) := BU.out.alloc BU.out.size _
    have hTs : (U.alloc (.cells #[.pointer (some ⟨b, 0, none⟩)] 23)).heap.size = U.heap.size + 1 := by simp
    obtain ⟨T, hT⟩ : ∃ T, U.alloc (.cells #[.pointer (some ⟨b, 0, none⟩)] 23) = T := ⟨_, rfl⟩
    rw [hT] at bA xO xR hT0 hTs ⊢
    have s0 := XR.out.lt
    clear hT cR fR
    refine (wpIn_wide (n := n)).1 ?_
    refine all_range hn 5 13 U.heap.size b o p room L rfl rfl bA (HM.out.kept hT0)
      (fun pre W => (Boxed W w.heap.size 23 (.pointer (some ⟨b', 0, none⟩)) ∧ Boxed W (w.heap.size + 1) 4 (.bool false)) ∧ (∀ x ∈ pre, x ∈ L') ∧ Below w.heap.size w W)
      (fun c pre W => Boxed W (w.heap.size + 1) 4 (.bool false) ∧ (c = .ret ∧ ¬ ∀ x ∈ pre, x ∈ L') ∧ Below w.heap.size w W)
      (OwnFrom.and (fun pre W W' row hs hg hr => ⟨cells_kept hg hr hs.1, cells_kept hg hr hs.2⟩) (OwnFrom.and (fun _ _ _ _ hs _ _ => hs) (ownFrom_below (Nat.le_refl _) (by omega))))
      (fun c => OwnFrom.and (fun pre W W' row hs hg hr => cells_kept hg hr hs) (OwnFrom.and (fun _ _ _ _ hs _ _ => hs) (ownFrom_below (Nat.le_refl _) (by omega))))
      ⟨⟨xO, xR⟩, fun x hx => by simp at hx, hT0⟩ ?_ ?_ ?_ ?_
    · intro l x W K hK
      gi_wp2
      exact hK
    · rintro l pre x W ⟨⟨hbo, hbr⟩, hall, hbe⟩ hlt
      have M' : Hid (MAt W b' o' p' room' L') := HM'.out.kept hbe
      have c1 := hbo.cell
      have c2 := hbr.cell
      have f2 := hbr.frozen
      have HR : Hid (Boxed W (w.heap.size + 1) 4 (.bool false)) := hbr
      have HO : Hid (Boxed W w.heap.size 23 (.pointer (some ⟨b', 0, none⟩))) := hbo
      clear hbo hbr
      simp only [roundAct, List.setIfInBounds_toArray, List.set_cons_succ, List.set_cons_zero]
      by_cases hx : x ∈ L'
      · have hd : decide (x ∈ L') = true := decide_eq_true hx
        have HX : Hid (x ∈ L') := hx
        have HA : Hid (∀ x ∈ pre, x ∈ L') := hall
        clear hx hall
        gi_wp2_with (gi_at_call 18; refine (CallsIn.inRound l (callsIn_wide.2 (has_c M'.out x))).mono ?_; rw [hd]; rintro e w7 ⟨rfl, h7⟩; subst w7)
        exact ⟨(Fr.refl (fun _ => False) W).keepsFrom (fun k hk => hk.elim), (Fr.refl (fun _ => False) W).ckeep (fun k hk => hk.elim), ⟨HO.out, HR.out⟩, fun y hy => by
          rcases List.mem_append.1 hy with hy | hy
          · exact HA.out y hy
          · rw [List.mem_singleton.1 hy]; exact HX.out, hbe⟩
      · have hd : decide (x ∈ L') = false := decide_eq_false hx
        have HX : Hid (x ∉ L') := hx
        have HA : Hid (∀ x ∈ pre, x ∈ L') := hall
        clear hx hall
        gi_wp2_with (gi_at_call 18; refine (CallsIn.inRound l (callsIn_wide.2 (has_c M'.out x))).mono ?_; rw [hd]; rintro e w7 ⟨rfl, h7⟩; subst w7)
        have hFr : Fr (fun j => j = w.heap.size + 1) W (W.setCell ⟨w.heap.size + 1, 0, none⟩ (.bool false)) := Fr.setCell (S := fun j => j = w.heap.size + 1) (p := ⟨w.heap.size + 1, 0, none⟩) (Fr.refl _ _) rfl _
        exact ⟨hFr.keepsFrom (fun k hk => by omega), HR.out.set _, ⟨rfl, fun q => HX.out (q x (by simp))⟩, hbe.setCell (by simp) _⟩
    · rintro D W hD ⟨⟨_, hbr⟩, hall, hbe⟩ hK
      have c2 := hbr.cell
      have f2 := hbr.frozen
      have HB : Hid (Below w.heap.size w (W.setCell ⟨w.heap.size + 1, 0, none⟩ (.bool true))) := hbe.setCell (by simp) _
      have HK : Hid ((W.setCell ⟨w.heap.size + 1, 0, none⟩ (.bool true)).heap[D]? = some (.deferred (some []))) := (Below.heap_setCell _ _ _ _ (by simp; omega)).trans hK
      have HR : Hid (Boxed (W.setCell ⟨w.heap.size + 1, 0, none⟩ (.bool true)) (w.heap.size + 1) 4 (.bool true)) := hbr.set _
      have HS : Hid (sameB L L' = true) := (show _ from decide_eq_true ⟨HL.out, hall⟩)
      clear hbr hK hall
      simp only [behindAct]
      go_wp2
      refine ⟨by simp, .inl ⟨_, _, rfl, run_takeDeferred HK.out, ?_⟩⟩
      have cr := (boxed_same (W' := (W.setCell ⟨w.heap.size + 1, 0, none⟩ (.bool true)).putObj D (.deferred none)) HR.out (World.putObj_heap_other (by omega))).cell
      exact ⟨.bool true, by simp [results, Try.results25, go_sem, cr], by rw [HS.out], HB.out.trans (belowK_b (w := w) (Nat.le_refl _) _ D _ _ (by omega) HK.out rfl rfl)⟩
    · rintro D c pre W hD hp ⟨hbr, ⟨rfl, hnot⟩, hbe⟩ hK
      have HS : Hid (sameB L L' = false) := (show _ from decide_eq_false (fun q => hnot (fun x hx => q.2 x (hp.subset hx))))
      have cr := (boxed_same (W' := W.putObj D (.deferred none)) hbr (World.putObj_heap_other (by omega))).cell
      simp only [behindAct]
      gi_wp2
      refine ⟨by simp, .inl ⟨_, _, rfl, run_takeDeferred hK, ?_⟩⟩
      exact ⟨.bool false, by simp [results, Try.results25, go_sem, cr], by rw [HS.out], hbe.trans (belowK_b (w := w) (Nat.le_refl _) _ D _ _ (by omega) hK rfl rfl)⟩
  · have he : ((L.length : Int) != (L'.length : Int)) = true := by simp; omega
    have HS : Hid (sameB L L' = false) := (show _ from decide_eq_false (fun q => hlen q.1))
    clear hlen
    go_wp2
    have cr := (XR.out.set (.bool false)).cell
    exact ⟨.bool false, by simp [results, Try.results25, go_sem, cr], by rw [HS.out], BU.out.setCell (by simp) _⟩

theorem sameM_c {w : World} {b o p room : Nat} {L : List Int} {b' o' p' room' : Nat} {L' : List Int} (hM : MAt w b o p room L) (hM' : MAt w b' o' p' room' L') :
    Calls Try.prog 25 #[.pointer (some ⟨b, 0, none⟩), .pointer (some ⟨b', 0, none⟩)] w fun e W' => e = .returned (.bool (sameB L L')) ∧ Below w.heap.size w W' :=
  callsIn_wide.1 (sameM_in 3 (Nat.le_refl _) hM hM')
end Go.Proofs.Ytofiidfnjgoenaa
