/-
  owns: a key that came out is written full, grown, and kept.
-/
import Derived.Test.YtmfljfedpdipiaaOwns3
namespace Go.Proofs.Ytmfljfedpdipiaa
open Go Go.RowKit Go.Shelf
attribute [local go_sem] Oper.semAt_some ext_cell

theorem own_block {w : World} {base : Nat} {t : TypeId} {size n : Nat} {v : Value} {xs : List Value} (h : w.ownsRow base t size v n xs) {z : Nat} (hz : v.ownBlock = some z) : base ≤ z ∧ ∃ cur, w.heap[z]? = some (.cells cur t (0, 0)) := by
  obtain ⟨_, ⟨rfl, _⟩ | ⟨g', cap', cur, rfl, h3, h4, _⟩⟩ := h
  · simp [Value.ownBlock] at hz
  · simp [Value.ownBlock] at hz; subst hz; exact ⟨h3, cur, h4⟩
theorem row_frb {S : Nat → Prop} {w w' : World} {base : Nat} {t : TypeId} {size n : Nat} {v : Value} {xs : List Value} (h : w.ownsRow base t size v n xs) (hf : Fr S w w') (hs : ∀ z, v.ownBlock = some z → ¬ S z) : w'.ownsRow base t size v n xs :=
  row_fr h hf (fun a l c e => hs _ (by
    obtain ⟨_, ⟨e1, _⟩ | ⟨g', cap', cur, e1, _⟩⟩ := h
    · rw [e1] at e; cases e
    · rw [e1] at e; cases e; rw [e1]; rfl))
theorem marked_snoc (i n : Nat) : marked i n ++ [-9 - (i : Int)] = marked i (n + 1) := by unfold marked; rw [List.replicate_succ']

set_option maxRecDepth 100000 in
set_option maxHeartbeats 4000000 in
theorem owns_c {n0 : Nat} {w : World} {wb : Nat} {c0 c1 c2 c3 c4 c5 ov : Value} {vs : List Value} {gx cx : Nat} {K : List Int} (hb : w.heap[wb]? = some (.cells #[c0, c1, c2, c3, c4, c5, ov] 34 (0, 0))) (row : w.ownsRow n0 44 1 ov vs.length vs)
    (hx : w.ownsRow n0 3 1 (.slice (some ⟨gx, 0, none⟩) K.length cx) K.length (ints K)) (hn0 : n0 ≤ w.heap.size) (hK : K.length ≤ 200) (hlen : vs.length ≤ 100000000000) :
    Calls Try.prog 27 #[.pointer (some ⟨wb, 0, none⟩), .slice (some ⟨gx, 0, none⟩) K.length cx] w fun e w' => e = .returned (.tuple #[]) ∧ ∃ ov' v', w'.heap[wb]? = some (.cells #[c0, c1, c2, c3, c4, c5, ov'] 34 (0, 0)) ∧ w'.ownsRow n0 44 1 ov' (vs.length + 1) (vs ++ [v']) ∧ w'.ownsRow n0 3 1 v' (K.length + 5) (ints (marked vs.length (K.length + 5))) ∧ (∀ z, v'.ownBlock = some z → z = gx ∨ w.heap.size ≤ z) ∧ (∀ z, ov'.ownBlock = some z → ov.ownBlock = some z ∨ w.heap.size ≤ z) ∧ Fr (fun z => z = wb ∨ ov.ownBlock = some z ∨ z = gx) w w' := by
  obtain ⟨q, cap, rfl⟩ := ownsRow_shape row
  have HB : Hid (w.heap[wb]? = some (.cells #[c0, c1, c2, c3, c4, c5, .slice q vs.length cap] 34 (0, 0))) := hb
  have ROW : Hid (w.ownsRow n0 44 1 (.slice q vs.length cap) vs.length vs) := row
  have HX : Hid (w.ownsRow n0 3 1 (.slice (some ⟨gx, 0, none⟩) K.length cx) K.length (ints K)) := hx
  obtain ⟨curx, hcx⟩ := (own_block hx rfl).2
  have NW : Hid (wb ≠ gx) := ne_type hb hcx (by decide)
  have NO : Hid (∀ z, (Value.slice q vs.length cap).ownBlock = some z → z ≠ gx ∧ z ≠ wb) := fun z hz => by
    obtain ⟨_, cur, h1⟩ := own_block row hz
    exact ⟨ne_type h1 hcx (by decide), ne_type h1 hb (by decide)⟩
  obtain ⟨j0, hj0, hj1, hj2, hj3⟩ := info_parts size_int
  have INF : Hid (Try.prog.info? 3 = some j0 ∧ j0.zero = some (.int .i64 0) ∧ j0.size = 1 ∧ j0.bytes = 8) := ⟨hj0, hj1, hj2, hj3⟩
  obtain ⟨l0, hl0, hl1, hl2, hl3⟩ := info_parts size_list
  have INL : Hid (Try.prog.info? 44 = some l0 ∧ l0.zero = some (.slice none 0 0) ∧ l0.size = 1 ∧ l0.bytes = 24) := ⟨hl0, hl1, hl2, hl3⟩
  have hwr : IntKind.i64.wrap (-9 - (vs.length : Int)) = -9 - (vs.length : Int) := by rw [IntKind.wrap_i64]; omega
  clear hb row hx hcx hj0 hj1 hj2 hj3 hl0 hl1 hl2 hl3
  go_enter Try.func27, Try.ntmps27
  go_upto_region 1 with fail
  go_loopw [4] (fun i wr => ∃ j : Nat, j ≤ K.length ∧ i = .int .i64 j ∧ wr.ownsRow n0 3 1 (.slice (some ⟨gx, 0, none⟩) K.length cx) K.length (ints (List.replicate j (-9 - (vs.length : Int)) ++ K.drop j)) ∧ Fr (fun z => z = gx) w wr) (fun i _ => K.length - (intOf i).toNat)
  case atStart => exact ⟨0, Nat.zero_le _, rfl, by simpa using HX.out, Fr.refl _ _⟩
  case round =>
    obtain ⟨j, hj, rfl, hO, hF⟩ := hrel
    have O : Hid (wr.ownsRow n0 3 1 (.slice (some ⟨gx, 0, none⟩) K.length cx) K.length (ints (List.replicate j (-9 - (vs.length : Int)) ++ K.drop j))) := hO
    have F : Hid (Fr (fun z => z = gx) w wr) := hF
    have WB : Hid (wr.heap[wb]? = some (.cells #[c0, c1, c2, c3, c4, c5, .slice q vs.length cap] 34 (0, 0))) := (hF.block _ (lt_of_heap HB.out) NW.out).trans HB.out
    clear hO hF
    have w6 : wr.cell? ⟨wb, 6, none⟩ = some (.slice q vs.length cap) := cell_row WB.out (i := 6) rfl
    by_cases hlt : j < K.length
    · obtain ⟨cj, fj⟩ := row_cell O.out (ints_get (rep_get j (-9 - (vs.length : Int)) K hlt))
      have i0 : (0 : Int) ≤ (j : Int) := by omega
      have i1 : (j : Int) < (K.length : Int) := by omega
      have SE : Hid ((wr.setCell ⟨gx, j, none⟩ (.int .i64 (-9 - (vs.length : Int)))).ownsRow n0 3 1 (.slice (some ⟨gx, 0, none⟩) K.length cx) K.length (ints (List.replicate (j + 1) (-9 - (vs.length : Int)) ++ K.drop (j + 1)))) := (by
        have := row_set O.out j (.int .i64 (-9 - (vs.length : Int)))
        rwa [← ints_set, rep_set j _ K hlt] at this)
      go_wp2
      go_roundw
      case rel => exact ⟨j + 1, by omega, by go_num, SE.out, F.out.setCell (p := ⟨gx, j, none⟩) rfl _⟩
      case measure => simp [intOf]; omega
    · obtain rfl : j = K.length := by omega
      have i1 : ¬ (K.length : Int) < (K.length : Int) := by omega
      have O1 : Hid (wr.ownsRow n0 3 1 (.slice (some ⟨gx, 0, none⟩) K.length cx) (K.length + 0) (ints (marked vs.length (K.length + 0)))) := (by
        have := O.out
        rwa [List.drop_length, List.append_nil] at this)
      clear O w6
      go_upto_region 5 with fail
      go_loopw [1, 5] (fun lv tv wr => ∃ t : Nat, t ≤ 5 ∧ tv = .int .i64 t ∧ wr.ownsRow n0 3 1 lv (K.length + t) (ints (marked vs.length (K.length + t))) ∧ (∀ z, lv.ownBlock = some z → z = gx ∨ w.heap.size ≤ z) ∧ Fr (fun z => z = gx) w wr) (fun _ tv _ => 5 - (intOf tv).toNat)
      case atStart => exact ⟨0, by omega, rfl, O1.out, fun z hz => (by simp [Value.ownBlock] at hz; exact .inl hz.symm), F.out⟩
      case round =>
        rename_i lv _ _
        obtain ⟨t, ht, rfl, hO, hlb, hF⟩ := hrel
        clear F WB O1
        obtain ⟨q3, c3', rfl⟩ := ownsRow_shape hO
        have O : Hid (wr.ownsRow n0 3 1 (.slice q3 (K.length + t) c3') (K.length + t) (ints (marked vs.length (K.length + t)))) := hO
        have LB : Hid (∀ z, (Value.slice q3 (K.length + t) c3').ownBlock = some z → z = gx ∨ w.heap.size ≤ z) := hlb
        have F : Hid (Fr (fun z => z = gx) w wr) := hF
        have WB : Hid (wr.heap[wb]? = some (.cells #[c0, c1, c2, c3, c4, c5, .slice q vs.length cap] 34 (0, 0))) := (hF.block _ (lt_of_heap HB.out) NW.out).trans HB.out
        clear hO hlb hF
        have hsz := F.out.size
        have w6 : wr.cell? ⟨wb, 6, none⟩ = some (.slice q vs.length cap) := cell_row WB.out (i := 6) rfl
        by_cases h5 : t < 5
        · as_aux_lemma =>
            have t5 : (t : Int) < 5 := by omega
            go_wp2_with (at_builtin; refine wpList_append_own_at _ rfl _ _ 44 rfl n0 3 j0 (.int .i64 0) 1 8 und_ints INF.out.1 INF.out.2.1 INF.out.2.2.1 INF.out.2.2.2 rfl (by decide) (.slice q3 (K.length + t) c3') (K.length + t) (ints (marked vs.length (K.length + t))) rfl (World.ownsRow.alloc O.out _) ⟨wr.heap.size, 0, none⟩ 1 1 [.int .i64 (-9 - (vs.length : Int))] rfl rfl (cell_one_new _ _ _) (by simp [Value.oneCell']) (by unfold maxLen; omega) (by omega) (by simp; omega) ?_; intro v7 w7 hown' hgrow hnil hat; have N7 : Hid (w7.ownsRow n0 3 1 v7 (K.length + (t + 1)) (ints (marked vs.length (K.length + (t + 1))))) := (by rw [← Nat.add_assoc, ← marked_snoc, ints_append]; exact hown' : _); have F7 : Hid (Fr (fun z => z = gx) w w7) := (F.out.alloc _).seq (⟨hgrow.os, hgrow.tape, hgrow.output, hgrow.size, fun z hz hs => hgrow.block z hz (fun e => hs e.symm)⟩ : Fr (fun z => (Value.slice q3 (K.length + t) c3').ownBlock = some z) _ w7) (fun z hz e => (LB.out z e).elim id (fun q => absurd hz (by omega))); have LB7 : Hid (∀ z, v7.ownBlock = some z → z = gx ∨ w.heap.size ≤ z) := fun z hz => (hat.elim (fun e => LB.out z (e ▸ hz)) (fun e => .inr (by rw [e] at hz; simp at hz; omega))); clear hown' hgrow hnil hat)
            go_roundw
            case rel => exact ⟨t + 1, by omega, by go_num, N7.out, LB7.out, F7.out⟩
            case measure => simp [intOf]; omega
        · as_aux_lemma =>
            obtain rfl : t = 5 := by omega
            have t5 : ¬ ((5 : Nat) : Int) < 5 := by omega
            have R1 : Hid (wr.ownsRow n0 44 1 (.slice q vs.length cap) vs.length vs) := row_frb ROW.out F.out (fun z hz e => (NO.out z hz).1 e)
            have f6 := frz_row WB.out 6
            go_wp2_with (at_builtin; refine wpList_append_own_at _ rfl _ _ 32 rfl n0 44 l0 (.slice none 0 0) 1 24 und_lists INL.out.1 INL.out.2.1 INL.out.2.2.1 INL.out.2.2.2 rfl (by decide) (.slice q vs.length cap) vs.length vs rfl (World.ownsRow.alloc R1.out _) ⟨wr.heap.size, 0, none⟩ 1 1 [.slice q3 (K.length + 5) c3'] rfl rfl (cell_one_new _ _ _) (by simp [Value.oneCell']) (by unfold maxLen; omega) (by omega) (by simp; omega) ?_; intro v7 w7 hown' hgrow hnil hat; obtain ⟨q7, c7, rfl⟩ := ownsRow_shape hown'; have N7 : Hid (w7.ownsRow n0 44 1 (.slice q7 (vs.length + 1) c7) (vs.length + 1) (vs ++ [.slice q3 (K.length + 5) c3'])) := hown'; have G7 : Hid (Fr (fun z => (Value.slice q vs.length cap).ownBlock = some z) wr w7) := ((Fr.refl _ wr).alloc _).seq (⟨hgrow.os, hgrow.tape, hgrow.output, hgrow.size, fun z hz hs => hgrow.block z hz (fun e => hs e.symm)⟩ : Fr (fun z => (Value.slice q vs.length cap).ownBlock = some z) _ w7) (fun z hz e => e); have MV7 : Hid (∀ z, (Value.slice q7 (vs.length + 1) c7).ownBlock = some z → (Value.slice q vs.length cap).ownBlock = some z ∨ w.heap.size ≤ z) := (fun z hz => hat.elim (fun e => .inl (e ▸ hz)) (fun e => .inr (by rw [e] at hz; simp at hz; omega))); clear hown' hgrow hnil hat; have WB7 : Hid (w7.heap[wb]? = some (.cells #[c0, c1, c2, c3, c4, c5, .slice q vs.length cap] 34 (0, 0))) := (G7.out.block _ (lt_of_heap WB.out) (fun e => (NO.out wb e).2 rfl)).trans WB.out; have O7 : Hid (w7.ownsRow n0 3 1 (.slice q3 (K.length + 5) c3') (K.length + 5) (ints (marked vs.length (K.length + 5)))) := row_frb O.out G7.out (fun z hz e => by obtain ⟨_, cu1, e1⟩ := own_block O.out hz; obtain ⟨_, cu2, e2⟩ := own_block R1.out e; exact ne_type e1 e2 (by decide) rfl); have d6 : w7.cell? ⟨wb, 6, none⟩ = some (.slice q vs.length cap) := cell_row WB7.out (i := 6) rfl; have g6 := frz_row WB7.out 6)
            go_end0
            have FS : Fr (fun z => z = wb) w7 (w7.setCell ⟨wb, 6, none⟩ (.slice q7 (vs.length + 1) c7)) := (Fr.refl (fun z => z = wb) w7).setCell (p := ⟨wb, 6, none⟩) rfl _
            have H8 : (w7.setCell ⟨wb, 6, none⟩ (.slice q7 (vs.length + 1) c7)).heap[wb]? = some (.cells #[c0, c1, c2, c3, c4, c5, .slice q7 (vs.length + 1) c7] 34 (0, 0)) := heap_set_in WB7.out 6 _
            refine ⟨rfl, .slice q7 (vs.length + 1) c7, H8, .slice q3 (K.length + 5) c3', row_frb N7.out FS (fun z hz e => ?_), row_frb O7.out FS (fun z hz e => ?_), LB.out, MV7.out, ?_⟩
            · obtain ⟨_, cu1, e1⟩ := own_block N7.out hz
              exact ne_type e1 WB7.out (by decide) e
            · obtain ⟨_, cu1, e1⟩ := own_block O7.out hz
              exact ne_type e1 WB7.out (by decide) e
            · exact ((F.out.weak (fun z hz => .inr (.inr hz)) : Fr (fun z => z = wb ∨ (Value.slice q vs.length cap).ownBlock = some z ∨ z = gx) w wr).seq G7.out (fun z _ hz => .inr (.inl hz))).seq FS (fun z _ hz => .inl hz)
end Go.Proofs.Ytmfljfedpdipiaa
