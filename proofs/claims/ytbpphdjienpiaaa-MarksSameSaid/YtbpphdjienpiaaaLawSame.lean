/-
  The law MarksSame, walked: two sets are the same just if each has the other's numbers; from either side.
-/
import Derived.Test.YtbpphdjienpiaaaSameM
import Derived.Test.YtbpphdjienpiaaaLawOrder
import Derived.Deep.RegionWith
import Derived.Deep.DeepCutAuto
namespace Go.Proofs.Ytbpphdjienpiaaa
open Go Go.RowKit Go.Shelf
attribute [local go_sem] Oper.semAt_some ext_cell

/-- No panic comes out. -/
def noPanic (Q : Exit → Act → World → Prop) : Exit → Act → World → Prop
  | .panic _, _, _ => False
  | .normal, a, w => Q .normal a w
  | .ret, a, w => Q .ret a w
  | .exit i, a, w => Q (.exit i) a w
  | .goto t, a, w => Q (.goto t) a w
  | .outgrown, a, w => Q .outgrown a w
theorem noPanic_imp {Q : Exit → Act → World → Prop} : ∀ e a w, noPanic Q e a w → Q e a w
  | .panic _, _, _, h => h.elim
  | .normal, _, _, h => h
  | .ret, _, _, h => h
  | .exit _, _, _, h => h
  | .goto _, _, _, h => h
  | .outgrown, _, _, h => h

theorem sub_of_nodup : ∀ (A B : List Int), A.Nodup → (∀ x ∈ A, x ∈ B) → B.length ≤ A.length → ∀ x ∈ B, x ∈ A
  | [], B, _, _, hl => fun x hx => by
    have : B = [] := List.eq_nil_of_length_eq_zero (by simpa using hl)
    rw [this] at hx
    exact hx
  | a :: A, B, hn, hs, hl => fun x hx => by
    have ha : a ∈ B := hs a (by simp)
    have hn' := List.nodup_cons.1 hn
    have hs' : ∀ y ∈ A, y ∈ B.erase a := fun y hy => by
      have hne : y ≠ a := fun e => hn'.1 (e ▸ hy)
      exact (List.mem_erase_of_ne hne).2 (hs y (by simp [hy]))
    have hl' : (B.erase a).length ≤ A.length := by
      rw [List.length_erase_of_mem ha]
      simp at hl
      omega
    by_cases hxa : x = a
    · simp [hxa]
    · exact List.mem_cons.2 (.inr (sub_of_nodup A (B.erase a) hn'.2 hs' hl' x ((List.mem_erase_of_ne hxa).2 hx)))
theorem sameB_comm {A B : List Int} (ha : A.Nodup) (hb : B.Nodup) : sameB A B = sameB B A := by
  unfold sameB
  refine decide_eq_decide.2 ⟨fun ⟨h1, h2⟩ => ⟨h1.symm, sub_of_nodup A B ha h2 (by omega)⟩, fun ⟨h1, h2⟩ => ⟨h1.symm, sub_of_nodup B A hb h2 (by omega)⟩⟩
theorem sameB_self (A : List Int) : sameB A A = true := decide_eq_true ⟨rfl, fun _ h => h⟩
theorem sameB_eq (A B : List Int) : sameB A B = (decide (∀ x ∈ A, x ∈ B) && decide ((A.length : Int) = B.length)) := by
  unfold sameB
  by_cases h : ∀ x ∈ A, x ∈ B
  · rw [decide_eq_true h, Bool.true_and]
    exact decide_eq_decide.2 ⟨fun q => by omega, fun q => ⟨by omega, h⟩⟩
  · rw [decide_eq_false h, Bool.false_and, decide_eq_false (fun q => h q.2)]

set_option maxRecDepth 100000 in
set_option maxHeartbeats 6000000 in
theorem same_in (n : Nat) (hn : 3 ≤ n) (one : Int) (wf1 : (Lit.int .i64 one).wf = true) (two : Int) (wf2 : (Lit.int .i64 two).wf = true) (zs : List Int) (v : Value) (zs' : List Int) (v' : Value) (w : World) (hz : ArgI w v zs) (hz' : ArgI w v' zs') :
    CallsIn Fence.wide n Try.prog 8 #[.int .i64 one, .int .i64 two, v, v'] w fun e W' => e = .returned (.bool true) ∧ Below w.heap.size w W' := by
  have h1 : 1 ≤ n := by omega
  have h2 : 1 ≤ n - 1 - 1 := by omega
  have hfn : ∀ f, Fence.wide.fn f := fun _ => trivial
  have HZ : Hid (ArgI w v zs) := hz
  have HZ' : Hid (ArgI w v' zs') := hz'
  obtain ⟨q, cap, rfl, hlen, _⟩ := hz.slice
  obtain ⟨q', cap', rfl, hlen', _⟩ := hz'.slice
  clear hz hz'
  obtain ⟨r, hr, hr0⟩ := pick_room one
  have HR : Hid (pk one 100001 = r) := hr0
  obtain ⟨r', hr', hr0'⟩ := pick_room two
  have HR' : Hid (pk two 100001 = r') := hr0'
  clear hr0 hr0'
  refine callsIn_of_wp_marks Try.func8 rfl trivial ?_ rfl
  simp only [Try.ntmps8, List.size_toArray, List.length_cons, List.length_nil, Nat.reduceAdd, Nat.reduceSub, Array.replicate_succ, Array.replicate_zero, List.push_toArray, List.append_toArray, List.nil_append, List.cons_append]
  refine wpIn_wide.2 (Code.wp_mono noPanic_imp ?_)
  go_wp2_with first | (go_at_call 9; refine (known_c _).mono ?_; rintro e w0 ⟨rfl, hb⟩; have B0 : Hid (Below w.heap.size w w0) := hb; clear hb) | (go_at_call 14; (with_reducible refine (pick_i two 100001 (by decide) (by decide) wf2 w1).mono ?_); rw [HR'.out]; rintro e w5 ⟨rfl, h5⟩; subst w5) | (go_at_call 22; have AZ := HZ'.out.below B1.out rfl; (with_reducible refine (filled_c r' hr' zs' _ w1 AZ).mono ?_); clear AZ; rintro e w2 ⟨b', o', p', rfl, hm, hnw, hb⟩; have M2' : Hid (MAt w2 b' o' p' r' (fillL r' (zs'.take 300))) := hm; have N2' : Hid (New3 w1.heap.size b' o' p') := hnw; have M2 : Hid (MAt w2 b o p r (fillL r (zs.take 300))) := M1.out.kept hb; have B2 : Hid (Below w.heap.size w w2) := chain B1.out hb (Nat.le_refl _); clear hm hnw hb) | (go_at_call 14; (with_reducible refine (pick_i one 100001 (by decide) (by decide) wf1 w0).mono ?_); rw [HR.out]; rintro e w5 ⟨rfl, h5⟩; subst w5) | (go_at_call 22; have AZ := HZ.out.below B0.out rfl; (with_reducible refine (filled_c r hr zs _ w0 AZ).mono ?_); clear AZ; rintro e w1 ⟨b, o, p, rfl, hm, hnw, hb⟩; have M1 : Hid (MAt w1 b o p r (fillL r (zs.take 300))) := hm; have N1 : Hid (New3 w0.heap.size b o p) := hnw; have B1 : Hid (Below w.heap.size w w1) := chain B0.out hb (Nat.le_refl _); clear hm hnw hb) | (go_at_call 15; refine (all_c b _).mono ?_; rintro e w7 ⟨rfl, h7⟩; subst w7)
  obtain ⟨A, hA⟩ : ∃ A, fillL r (zs.take 300) = A := ⟨_, rfl⟩
  obtain ⟨A', hA'⟩ : ∃ A, fillL r' (zs'.take 300) = A := ⟨_, rfl⟩
  rw [hA] at M2
  rw [hA'] at M2'
  clear hA hA' M1 N1 B1 B0
  have hV0 : Below w2.heap.size w2 (((w2.alloc (.cells #[.pointer (some ⟨b', 0, none⟩)] 23)).alloc (.cells #[.bool true] 4)).alloc (.cells #[.pointer (some ⟨b, 0, none⟩)] 23)) := (((Below.refl _ _).alloc (Nat.le_refl _) _).alloc (by simp) _).alloc (by simp; omega) _
  have bO := ((Boxed.new w2 23 (.pointer (some ⟨b', 0, none⟩))).alloc (.cells #[.bool true] 4)).alloc (.cells #[.pointer (some ⟨b, 0, none⟩)] 23)
  have bI := (Boxed.new (w2.alloc (.cells #[.pointer (some ⟨b', 0, none⟩)] 23)) 4 (.bool true)).alloc (.cells #[.pointer (some ⟨b, 0, none⟩)] 23)
  have bA := Boxed.new ((w2.alloc (.cells #[.pointer (some ⟨b', 0, none⟩)] 23)).alloc (.cells #[.bool true] 4)) 23 (.pointer (some ⟨b, 0, none⟩))
  have hVs : (((w2.alloc (.cells #[.pointer (some ⟨b', 0, none⟩)] 23)).alloc (.cells #[.bool true] 4)).alloc (.cells #[.pointer (some ⟨b, 0, none⟩)] 23)).heap.size = w2.heap.size + 1 + 1 + 1 := by simp
  simp only [World.size_alloc] at bI bA
  obtain ⟨V, hV⟩ : ∃ V, (((w2.alloc (.cells #[.pointer (some ⟨b', 0, none⟩)] 23)).alloc (.cells #[.bool true] 4)).alloc (.cells #[.pointer (some ⟨b, 0, none⟩)] 23)) = V := ⟨_, rfl⟩
  rw [hV] at hV0 bO bI bA hVs ⊢
  clear hV
  have hl := M2.out.len
  have hl' := M2'.out.len
  refine (wpIn_wide (n := n)).1 ?_
  refine all_range hn 13 36 (w2.heap.size + 1 + 1) b o p r A rfl rfl bA (M2.out.kept hV0)
    (fun pre W => (Boxed W w2.heap.size 23 (.pointer (some ⟨b', 0, none⟩)) ∧ Boxed W (w2.heap.size + 1) 4 (.bool (decide (∀ x ∈ pre, x ∈ A')))) ∧ Below w2.heap.size w2 W)
    (fun _ _ _ => False)
    (OwnFrom.and (fun pre W W' row hs hg hr => ⟨cells_kept hg hr hs.1, cells_kept hg hr hs.2⟩) (ownFrom_below (Nat.le_refl _) (by omega)))
    (fun _ _ _ _ _ hs _ _ => hs)
    ⟨⟨bO, by simpa using bI⟩, hV0⟩ ?_ ?_ ?_ ?_
  · intro l x W K hK
    gi_wp2
    exact hK
  · rintro l pre x W ⟨⟨hbo, hbi⟩, hbe⟩ hlt
    have M' : Hid (MAt W b' o' p' r' A') := M2'.out.kept hbe
    have c1 := hbo.cell
    have HO : Hid (Boxed W w2.heap.size 23 (.pointer (some ⟨b', 0, none⟩))) := hbo
    obtain ⟨t, ht⟩ : ∃ t, decide (∀ x ∈ pre, x ∈ A') = t := ⟨_, rfl⟩
    rw [ht] at hbi
    have c2 := hbi.cell
    have f2 := hbi.frozen
    have HI : Hid (Boxed W (w2.heap.size + 1) 4 (.bool t)) := hbi
    have HN : Hid (decide (∀ y ∈ pre ++ [x], y ∈ A') = (t && decide (x ∈ A'))) := (show _ from by
      rw [← ht, ← Bool.decide_and]
      refine decide_eq_decide.2 ⟨fun q => ⟨fun y hy => q y (by simp [hy]), q x (by simp)⟩, fun q y hy => ?_⟩
      rcases List.mem_append.1 hy with hy | hy
      · exact q.1 y hy
      · rw [List.mem_singleton.1 hy]; exact q.2)
    clear hbo hbi ht
    simp only [roundAct, List.setIfInBounds_toArray, List.set_cons_succ, List.set_cons_zero]
    have HF : Hid (∀ u, Fr (fun j => j = w2.heap.size + 1) W (W.setCell ⟨w2.heap.size + 1, 0, none⟩ u)) := fun u => Fr.setCell (S := fun j => j = w2.heap.size + 1) (p := ⟨w2.heap.size + 1, 0, none⟩) (Fr.refl _ _) rfl _
    cases t with
    | true =>
      gi_wp2_with (gi_at_call 18; refine (CallsIn.inRound l (callsIn_wide.2 (has_c M'.out x))).mono ?_; rintro e w7 ⟨rfl, h7⟩; subst w7)
      refine ⟨(HF.out _).keepsFrom (fun k hk => by omega), (HF.out _).ckeep (fun k hk => by omega), ⟨boxed_same HO.out (Below.heap_setCell _ _ _ _ (by simp)), ?_⟩, hbe.setCell (by simp) _⟩
      rw [HN.out, Bool.true_and]
      exact HI.out.set _
    | false =>
      gi_wp2_with (gi_at_call 18; refine (CallsIn.inRound l (callsIn_wide.2 (has_c M'.out x))).mono ?_; rintro e w7 ⟨rfl, h7⟩; subst w7)
      refine ⟨(HF.out _).keepsFrom (fun k hk => by omega), (HF.out _).ckeep (fun k hk => by omega), ⟨boxed_same HO.out (Below.heap_setCell _ _ _ _ (by simp)), ?_⟩, hbe.setCell (by simp) _⟩
      rw [HN.out, Bool.false_and]
      exact HI.out.set _
  · rintro D W hD ⟨⟨hbo, hbi⟩, hbe⟩ hK
    have HO : Hid (Boxed W w2.heap.size 23 (.pointer (some ⟨b', 0, none⟩))) := hbo
    obtain ⟨t, ht⟩ : ∃ t, decide (∀ x ∈ A, x ∈ A') = t := ⟨_, rfl⟩
    rw [ht] at hbi
    have HI : Hid (Boxed W (w2.heap.size + 1) 4 (.bool t)) := hbi
    have c1 := hbo.cell
    have c2 := hbi.cell
    have l1 := hbo.lt
    have l2 := hbi.lt
    have HS : Hid (sameB A A' = (t && decide ((A.length : Int) = A'.length))) := (show _ from by rw [← ht]; exact sameB_eq A A')
    have M : Hid (MAt W b o p r A) := M2.out.kept hbe
    have M' : Hid (MAt W b' o' p' r' A') := M2'.out.kept hbe
    have HB : Hid (Below w2.heap.size w2 W) := hbe
    have HK : Hid (W.heap[D]? = some (.deferred (some []))) := hK
    clear hbo hbi ht hK hbe
    simp only [behindAct]
    have y1 := M2.out.ltb
    have y2 := M2.out.lto
    have y3 := M2.out.ltp
    have y4 := M2'.out.ltb
    have y5' := M2'.out.lto
    have y6 := M2'.out.ltp
    go_upto_region 11 with fail
    go_cut [44] from 44 to 51 (fun _ wx => Fr (fun j => j = w2.heap.size + 1) W wx ∧ Boxed wx (w2.heap.size + 1) 4 (.bool (sameB A A')))
    case first =>
      have hcase : (t = true ∧ sameB A A' = true ∧ ((A.length : Int) == A'.length) = true) ∨ (t = true ∧ sameB A A' = false ∧ ((A.length : Int) == A'.length) = false) ∨ (t = false ∧ sameB A A' = false) := by
        rw [HS.out]
        cases t with
        | false => right; right; simp
        | true =>
          by_cases hq : (A.length : Int) = A'.length
          · left; simp [hq]
          · right; left; simp [hq]
      rcases hcase with ⟨rfl, hS, hq⟩ | ⟨rfl, hS, hq⟩ | ⟨rfl, hS⟩
      all_goals
        refine wp_region_last_lit (List.cons_ne_nil _ _) (by kernel_rfl) (by kernel_rfl) (by kernel_rfl) ?_
        dsimp only [List.dropLast, List.getLast]
        repeat (go_big_quiet_step (first | exact rfl | (go_at_call 12; with_reducible exact len_x M.out) | (go_at_call 12; with_reducible exact len_x M'.out)))
        refine wpQuiet_nil ?_
        intro w5 hw
        have hb5 := ext_of hw
        clear hw
        have X5 : Hid (Boxed w5 (w2.heap.size + 1) 4 _) := boxed_kept HI.out hb5
        have x5 := X5.out.cell
        have y5 := X5.out.frozen
        have FU : Hid (Fr (fun j => j = w2.heap.size + 1) W (w5.setCell ⟨w2.heap.size + 1, 0, none⟩ (.bool (sameB A A')))) := (Fr.of_below hb5).trans (Fr.setCell (S := fun j => j = w2.heap.size + 1) (p := ⟨w2.heap.size + 1, 0, none⟩) (Fr.refl _ _) rfl _)
        have XU : Hid (Boxed (w5.setCell ⟨w2.heap.size + 1, 0, none⟩ (.bool (sameB A A'))) (w2.heap.size + 1) 4 (.bool (sameB A A'))) := X5.out.set _
        have HSS : Hid _ := hS
        rw [hS] at FU XU
        clear hb5 hS
        go_wp2_with fail
        go_meet
        rw [HSS.out]
        exact ⟨FU.out, XU.out⟩
    case rest =>
      obtain ⟨hfu, hxu⟩ := hcut
      have HS3 : Hid (sameB A' A = sameB A A') := sameB_comm M2'.out.nodup M2.out.nodup
      have HS4 : Hid (sameB A A = true) := sameB_self A
      have FU : Hid (Fr (fun j => j = w2.heap.size + 1) W wc) := hfu
      have XU : Hid (Boxed wc (w2.heap.size + 1) 4 (.bool (sameB A A'))) := hxu
      clear hfu hxu HS
      obtain ⟨S, hS⟩ : ∃ S, sameB A A' = S := ⟨_, rfl⟩
      have HS2 : Hid (sameB A A' = S) := hS
      rw [hS] at XU HS3
      clear hS
      have MU : Hid (MAt wc b o p r A) := MAt.fr (S := fun j => j = w2.heap.size + 1) M.out FU.out (by omega) (by omega) (by omega)
      have MU' : Hid (MAt wc b' o' p' r' A') := MAt.fr (S := fun j => j = w2.heap.size + 1) M'.out FU.out (by omega) (by omega) (by omega)
      have MD : Hid (MAt wc.drew b o p r A) := MU.out.kept (Below.refl _ _).drew
      have MD' : Hid (MAt wc.drew b' o' p' r' A') := MU'.out.kept (Below.refl _ _).drew
      have OU : Hid (Boxed wc w2.heap.size 23 (.pointer (some ⟨b', 0, none⟩))) := boxed_fr (S := fun j => j = w2.heap.size + 1) HO.out FU.out (by omega)
      have KU : Hid (wc.heap[D]? = some (.deferred (some []))) := (FU.out.block D (lt_of_heap HK.out) (by omega)).trans HK.out
      have BU : Hid (Below w.heap.size w wc) := (chain B2.out HB.out (Nat.le_refl _)).trans (FU.out.below (Nat.le_trans (Nat.le_trans B2.out.size HB.out.size) (Nat.le_refl _)) (fun k hk => by have := B2.out.size; omega))
      have sU := FU.out.size
      have uI := XU.out.cell
      have uO := OU.out.cell
      have uL := XU.out.lt
      clear FU c1 c2 HI HO
      go_wp2
      go_region_with first | (go_at_call 25; (with_reducible refine (sameM_c M8.out MC.out).mono ?_); rw [HS4.out]; rintro e w9 ⟨rfl, hb⟩; have G9 : Hid (Below wc.heap.size wc w9) := G8.out.trans (hb.mono G8.out.size); clear hb) | (go_at_call 23; (with_reducible refine (copy_c M7.out).mono ?_); rintro e w8 ⟨bc, oc, pc, rfl, hm, hnw, hb⟩; have MC : Hid (MAt w8 bc oc pc r A) := hm; have M8 : Hid (MAt w8 b o p r A) := M7.out.kept hb; have G8 : Hid (Below wc.heap.size wc w8) := G7.out.trans (hb.mono G7.out.size); clear hm hnw hb) | (go_at_call 25; (with_reducible refine (sameM_c M6'.out M6.out).mono ?_); rw [HS3.out]; rintro e w7 ⟨rfl, hb⟩; have M7 : Hid (MAt w7 b o p r A) := M6.out.kept hb; have G7 : Hid (Below wc.heap.size wc w7) := G6.out.trans (hb.mono G6.out.size); have I7 : Hid (Boxed w7 (w2.heap.size + 1) 4 (.bool _)) := boxed_kept I6.out hb; clear hb; have j7 := I7.out.cell) | (go_at_call 25; (with_reducible refine (sameM_c MD.out MD'.out).mono ?_); rw [HS2.out]; rintro e w6 ⟨rfl, hb⟩; have M6 : Hid (MAt w6 b o p r A) := MD.out.kept hb; have M6' : Hid (MAt w6 b' o' p' r' A') := MD'.out.kept hb; have G6 : Hid (Below wc.heap.size wc w6) := (Below.refl _ _).drew.trans hb; have I6 : Hid (Boxed w6 (w2.heap.size + 1) 4 (.bool _)) := boxed_kept XU.out G6.out; have O6 : Hid (Boxed w6 w2.heap.size 23 (.pointer (some ⟨b', 0, none⟩))) := boxed_kept OU.out G6.out; clear hb; have j6 := I6.out.cell; have k6 := O6.out.cell)
      all_goals go_wp2
      all_goals
        refine ⟨by simp, .inl ⟨_, _, rfl, run_takeDeferred ((G9.out.block D (lt_of_heap KU.out)).trans KU.out), ?_⟩⟩
        exact ⟨_, results_tmp rfl _ _ _, rfl, (BU.out.trans (G9.out.mono BU.out.size)).trans (belowK_b (w := w) (Nat.le_refl _) _ D _ _ (by have := B2.out.size; omega) ((G9.out.block D (lt_of_heap KU.out)).trans KU.out) rfl rfl)⟩
  · rintro D c pre W _ _ h _
    exact h.elim

theorem law_same (one : Int) (wf1 : (Lit.int .i64 one).wf = true) (two : Int) (wf2 : (Lit.int .i64 two).wf = true) (zs : List Int) (v : Value) (zs' : List Int) (v' : Value) (w : World) (hz : ArgI w v zs) (hz' : ArgI w v' zs') :
    Calls Try.prog 8 #[.int .i64 one, .int .i64 two, v, v'] w fun e W' => e = .returned (.bool true) ∧ Below w.heap.size w W' := callsIn_wide.1 (same_in 3 (Nat.le_refl _) one wf1 two wf2 zs v zs' v' w hz hz')
end Go.Proofs.Ytbpphdjienpiaaa
