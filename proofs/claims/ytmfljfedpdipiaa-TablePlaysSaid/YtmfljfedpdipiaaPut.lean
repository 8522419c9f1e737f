/-
  What Put does.
-/
import Derived.Test.YtmfljfedpdipiaaGrow
import Derived.Deep.RegionHeld
namespace Go.Proofs.Ytmfljfedpdipiaa
open Go Go.RowKit
attribute [local go_sem] ext_cell

/-- A table that holds the values m. -/
structure TM (w : World) (b pb W M : Nat) (P : Pl) (m : List Int → Option Int) : Prop where
  t : TB w b pb W M (cnt P) P
  p : P ≠ [] → Probe (hmN P.length) P
  m : Maps P m
  few : cnt P ≤ M
theorem TM.kept {w w' : World} {b pb W M : Nat} {P : Pl} {m : List Int → Option Int} (h : TM w b pb W M P m) (hb : Below w.heap.size w w') : TM w' b pb W M P m := ⟨h.t.kept hb, h.p, h.m, h.few⟩

/-- The blocks of the keys. -/
def kblk (P : Pl) (k : Nat) : Prop := ∃ (i : Nat) (e : Ent) (o n m : Nat), P[i]? = some (some e) ∧ e.kv = .slice (some ⟨k, o, none⟩) n m
/-- What has become of a table's blocks: none is another old one. -/
structure Stay (n b pb : Nat) (P : Pl) (pb' : Nat) (P' : Pl) : Prop where
  pb : pb' = pb ∨ n ≤ pb'
  k : ∀ k, kblk P' k → kblk P k ∨ n ≤ k
theorem Stay.refl (n b pb : Nat) (P : Pl) : Stay n b pb P pb P := ⟨.inl rfl, fun _ h => .inl h⟩

theorem cells1 {W M c c' : Nat} {v : Value} : (#[Value.int .i64 W, .int .i64 M, .int .i64 c, v] : Array Value).setIfInBounds 2 (.int .i64 c') = #[Value.int .i64 W, .int .i64 M, .int .i64 c', v] := by simp
/-- The count is written. -/
theorem TB.count {w : World} {b pb W M c : Nat} {P : Pl} (h : TB w b pb W M c P) (c' : Nat) : TB (w.setCell ⟨b, 2, none⟩ (.int .i64 c')) b pb W M c' P := by
  have fr : Fr (fun k => k = b) w (w.setCell ⟨b, 2, none⟩ (.int .i64 c')) := (Fr.refl (fun k => k = b) w).setCell (p := ⟨b, 2, none⟩) rfl _
  refine ⟨?_, fun hP => (fr.block pb (h.ltp hP) (Ne.symm (h.bp hP))).trans (h.hp hP), fun i e hi => ⟨(h.hk i e hi).1.fr fr ?_, (h.hk i e hi).2⟩, h.hn, h.hW, h.hM⟩
  · rw [heap_set_in h.hb, cells1]
  · rintro k cs rfl e
    rw [h.hb] at e
    injection e with e
    injection e with _ e _
    exact absurd e (by decide)
/-- A value is written. -/
theorem TB.value {w : World} {b pb W M c : Nat} {P : Pl} (h : TB w b pb W M c P) {a : Nat} {e : Ent} (ha : P[a]? = some (some e)) (v : Int) : TB (w.setCell ⟨pb, a * 3 + 1, none⟩ (.int .i64 v)) b pb W M c (P.set a (some { e with val := v })) := by
  have hal := get_lt ha
  have hP := ne_nil_get ha
  have hpc := h.hp hP
  have fr : Fr (fun k => k = pb) w (w.setCell ⟨pb, a * 3 + 1, none⟩ (.int .i64 v)) := (Fr.refl (fun k => k = pb) w).setCell (p := ⟨pb, a * 3 + 1, none⟩) rfl _
  have keyk : ∀ e : Ent, KeyAt w e.kv e.key → KeyAt (w.setCell ⟨pb, a * 3 + 1, none⟩ (.int .i64 v)) e.kv e.key := fun e q => q.fr fr (by
    rintro k cs rfl e
    rw [hpc] at e
    injection e with e
    injection e with _ e _
    exact absurd e (by decide))
  refine ⟨?_, fun _ => ?_, fun i e' hi => ?_, fun _ => by rw [List.length_set]; exact h.hn hP, h.hW, h.hM⟩
  · rw [List.length_set]
    exact (fr.block b h.ltb (h.bp hP)).trans h.hb
  · rw [heap_set_in hpc, cellsP_set hal]
    have e0 : (cellsP P)[a * 3]? = some e.kv := cellsP_get ha 0 (by decide)
    have e2 : (cellsP P)[a * 3 + 2]? = some (.bool true) := cellsP_get ha 2 (by decide)
    have s0 : (cellsP P).set (a * 3) e.kv = cellsP P := by
      apply List.ext_getElem?
      intro j
      rw [List.getElem?_set]
      split
      · rename_i q
        subst q
        split
        · exact e0.symm
        · rename_i q; exact absurd (List.getElem?_eq_some_iff.1 e0).1 q
      · rfl
    have s2 : ((cellsP P).set (a * 3 + 1) (.int .i64 v)).set (a * 3 + 2) (.bool true) = (cellsP P).set (a * 3 + 1) (.int .i64 v) := by
      apply List.ext_getElem?
      intro j
      rw [List.getElem?_set]
      split
      · rename_i q
        subst q
        rw [List.getElem?_set_ne (by omega)]
        split
        · exact e2.symm
        · rename_i q; rw [List.length_set] at q; exact absurd (List.getElem?_eq_some_iff.1 e2).1 q
      · rfl
    simp only [plC]
    simp [s0, s2]
  · rw [set_get hal] at hi
    split at hi
    · cases hi
      exact ⟨keyk e (h.hk a e ha).1, (h.hk a e ha).2⟩
    · exact ⟨keyk e' (h.hk i e' hi).1, (h.hk i e' hi).2⟩

/-- What Put answers and leaves, by the count c and the number of places n. -/
def putE (W M c : Nat) (m : List Int → Option Int) (k : List Int) : Int := if k.length ≠ W then 11 else if (m k).isSome then 0 else if c = M then 10 else 0
def putM (W M c : Nat) (m : List Int → Option Int) (k : List Int) (v : Int) : List Int → Option Int := if putE W M c m k = 0 then upd m k (some v) else m
def putC (W M c : Nat) (m : List Int → Option Int) (k : List Int) : Nat := if putE W M c m k = 0 ∧ m k = none then c + 1 else c
def putN (W M c n : Nat) (m : List Int → Option Int) (k : List Int) : Nat := if putE W M c m k = 0 ∧ m k = none ∧ n < 2 * (c + 1) then max 16 (2 * n) else n

/-- A list does not lie in that block. -/
def Apart (v : Value) (b : Nat) : Prop := ∀ p n c, v = .slice (some p) n c → n ≠ 0 → p.block ≠ b
theorem ArgI.fr {S : Nat → Prop} {W W' : World} {v : Value} {zs : List Int} (h : ArgI W v zs) (hf : Fr S W W') (hs : ∀ p n c, v = .slice (some p) n c → n ≠ 0 → ¬ S p.block) : ArgI W' v zs := by
  rcases h with h | ⟨g, off, cap, rfl, h2, h3, h4, h5⟩
  · exact .inl h
  by_cases h0 : zs.length = 0
  · exact .inl ⟨_, cap, by rw [h0], List.length_eq_zero_iff.1 h0⟩
  · refine .inr ⟨g, off, cap, rfl, Nat.lt_of_lt_of_le h2 hf.size, h3, h4, fun i x hx => ?_⟩
    rw [World.cell?_of_block (a := ⟨g, off + i, none⟩) (hf.block g h2 (hs _ _ _ rfl h0))]
    exact h5 i x hx
theorem Maps.same {P Q : Pl} {m : List Int → Option Int} (h : Maps P m) (e : Q = P) : Maps Q m := e ▸ h
theorem kblk_set {P : Pl} {a g j n : Nat} {k : List Int} {x : Int} {l c : Nat} (hal : a < P.length) (hg : n ≤ g) (h : kblk (P.set a (some ⟨.slice (some ⟨g, 0, none⟩) l c, k, x⟩)) j) : kblk P j ∨ n ≤ j := by
  obtain ⟨i, e, o, nn, mm, hi, hkv⟩ := h
  rw [set_get hal] at hi
  split at hi
  · cases hi
    cases hkv
    exact .inr hg
  · exact .inl ⟨i, e, o, nn, mm, hi, hkv⟩
theorem Moved.kblk {P Q : Pl} {j : Nat} (h : Moved P P.length Q) (hk : kblk Q j) : kblk P j := by
  obtain ⟨i, e, o, n, m, hi, hkv⟩ := hk
  obtain ⟨j, _, hj⟩ := (h e).1 ⟨i, hi⟩
  exact ⟨j, e, o, n, m, hj, hkv⟩

theorem copied_g {w : World} {v : Value} {k : List Int} (hz : ArgI w v k) (hl : k.length ≤ 1000000) :
    Calls Try.prog 17 #[v] w fun e w' => ∃ g, e = .returned (.slice (some ⟨g, 0, none⟩) k.length k.length) ∧ w'.heap[g]? = some (.cells (ints k).toArray 3 (0, 0)) ∧ w.heap.size ≤ g ∧ Below w.heap.size w w' :=
  (copied_c hz hl).mono fun _ _ ⟨h1, h2, h3⟩ => ⟨_, h1, h2, Nat.le_refl _, h3⟩

set_option maxRecDepth 100000 in
set_option maxHeartbeats 4000000 in
theorem put_c {w : World} {b pb W M : Nat} {P : Pl} {m : List Int → Option Int} (h : TM w b pb W M P m) {v : Value} {k : List Int} (hz : ArgI w v k) (hap : Apart v b) (x : Int) :
    Calls Try.prog 11 #[.pointer (some ⟨b, 0, none⟩), v, .int .i64 x] w fun e w' => e = .returned (.int .i64 (putE W M (cnt P) m k)) ∧ ∃ pb' P', TM w' b pb' W M P' (putM W M (cnt P) m k x) ∧ cnt P' = putC W M (cnt P) m k ∧ P'.length = putN W M (cnt P) P.length m k ∧ Stay w.heap.size b pb P pb' P' ∧ Fr (own2 b pb) w w' := by
  have H : Hid (TM w b pb W M P m) := h
  have HZ : Hid (ArgI w v k) := hz
  have HAP : Hid (Apart v b) := hap
  clear hap
  obtain ⟨q, cap, rfl, hlen, -⟩ := hz.slice
  unfold maxLen at hlen
  have c0 := h.t.c0
  have hW := h.t.hW
  clear h hz
  by_cases hl : k.length = W
  · have HL : Hid (k.length = W) := hl
    have hb1 : (((k.length : Nat) : Int) != ((W : Nat) : Int)) = false := by simp [hl]
    clear hl
    have HFI : Hid (Calls Try.prog 20 #[.pointer (some ⟨b, 0, none⟩), .slice q k.length cap] w fun e w' => ∃ a th, e = .returned (.tuple #[.int .i64 (a : Nat), .bool th]) ∧ Found P W k a th ∧ Below w.heap.size w w') := find_c H.out.t H.out.p HZ.out
    go_enter Try.func11, Try.ntmps11
    go_upto_region 4 with (go_at_call 20; refine HFI.out.mono ?_; rintro e w1 ⟨a, th, rfl, hf, hb⟩; have B1 : Hid (Below w.heap.size w w1) := hb; clear hb; have HF : Hid (Found P W k a th) := hf; clear hf)
    clear HFI c0
    have T1 : Hid (TB w1 b pb W M (cnt P) P) := H.out.t.kept B1.out
    cases th
    · have HN : Hid (m k = none) := HF.out.gone H.out.m (fun i e hi => (H.out.t.hk i e hi).2)
      have c2 := T1.out.c2
      have c1 := T1.out.c1
      have lb := T1.out.ltb
      by_cases hfull : cnt P = M
      · have HE : Hid (putE W M (cnt P) m k = 10) := (by unfold putE; rw [if_neg (by simp [HL.out]), HN.out, if_neg (by simp), if_pos hfull] : putE W M (cnt P) m k = 10)
        have hb2 : (((cnt P : Nat) : Int) == ((M : Nat) : Int)) = true := by simp [hfull]
        clear hfull
        go_wp2
        refine wp_region_ext (by kernel_rfl) (by kernel_rfl) ?_
        repeat (go_big_quiet_step (first | exact rfl))
        refine wpQuiet_nil ?_
        intro w5 hw
        have B5 : Hid (Below w.heap.size w w5) := chain B1.out (ext_of hw) (Nat.le_refl _)
        clear hw c1 c2
        go_wp2
        go_ret
        refine ⟨by rw [HE.out]; rfl, pb, P, ?_, ?_, ?_, Stay.refl _ _ _ _, Fr.of_below B5.out⟩
        · have : putM W M (cnt P) m k x = m := by unfold putM; rw [HE.out]; rfl
          rw [this]
          exact H.out.kept B5.out
        · unfold putC; rw [HE.out]; simp
        · unfold putN; rw [HE.out]; simp
      · have hb2 : (((cnt P : Nat) : Int) == ((M : Nat) : Int)) = false := by simp; omega
        have hM := T1.out.hM
        have hfew := H.out.few
        have HE : Hid (putE W M (cnt P) m k = 0) := (by unfold putE; rw [if_neg (by simp [HL.out]), HN.out, if_neg (by simp), if_neg hfull] : putE W M (cnt P) m k = 0)
        have HLT : Hid (cnt P < M) := (by omega : cnt P < M)
        clear hfull
        go_wp2
        refine wp_region_ext (by kernel_rfl) (by kernel_rfl) ?_
        repeat (go_big_quiet_step (first | exact rfl))
        refine wpQuiet_nil ?_
        intro w5 hw
        have B5 : Hid (Below w.heap.size w w5) := chain B1.out (ext_of hw) (Nat.le_refl _)
        clear hw c1 c2 lb
        have T5 : Hid (TB w5 b pb W M (cnt P) P) := H.out.t.kept B5.out
        have c2 := T5.out.c2
        have lb := T5.out.ltb
        obtain ⟨q3, cap3, c3⟩ : ∃ q cap, w5.cell? ⟨b, 3, none⟩ = some (.slice q P.length cap) := by
          by_cases hP : P = []
          · exact ⟨none, 0, by rw [T5.out.c3, hP]; rfl⟩
          · exact ⟨_, _, T5.out.c3p hP⟩
        have hcl := cnt_le P
        have hPl : P.length ≤ 1099511627776 := by
          by_cases hP : P = []
          · rw [hP]; simp
          · exact (T5.out.pow hP).2
        by_cases hgrow : P.length < 2 * (cnt P + 1)
        · have i9 : (P.length : Int) < 2 * ((cnt P : Int) + 1) := by omega
          go_wp2
          refine wp_region_ext (by kernel_rfl) (by kernel_rfl) ?_
          repeat (go_big_quiet_step (first | exact rfl))
          refine wpQuiet_nil ?_
          intro w6 hw
          have B6 : Hid (Below w.heap.size w w6) := chain B5.out (ext_of hw) (Nat.le_refl _)
          clear hw c3 c2 lb
          have T6 : Hid (TB w6 b pb W M (cnt P) P) := H.out.t.kept B6.out
          go_upto_region 12 with first | (go_at_call 21; refine (grow_c T6.out H.out.p (by omega)).mono ?_; rintro e w8 ⟨rfl, Q, hT8, hP8, hM8, hC8, hN8, hF8⟩; have TQ : Hid (TB w8 b w6.heap.size W M (cnt P) Q) := hT8; have PZ : Hid (Probe (hmN Q.length) Q) := hP8; have MV : Hid (Moved P P.length Q) := hM8; have CZ : Hid (cnt Q = cnt P) := hC8; have LQ : Hid (Q.length = max 16 (2 * P.length)) := hN8; have F8 : Hid (Fr (own2 b pb) w w8) := (Fr.of_below B6.out).trans (hF8.mono fun _ q => .inl q); clear hT8 hP8 hM8 hC8 hN8; have K8 : Hid (ArgI w8 (.slice q k.length cap) k) := (HZ.out.kept B6.out).fr hF8 HAP.out; clear hF8) | (go_at_call 20; refine (find_c TQ.out (fun _ => PZ.out) K8.out).mono ?_; rintro e w9 ⟨a2, th2, rfl, hf, hb⟩; have B9 : Hid (Below w8.heap.size w8 w9) := hb; have HF9 : Hid (Found Q W k a2 th2) := hf; clear hb hf)
          have NZE : Hid (Q ≠ []) := (fun e => by have := LQ.out; rw [e] at this; simp at this; omega : Q ≠ [])
          have HGO : Hid (P.length < 2 * (cnt P + 1)) := hgrow
          have NW : Hid (∀ (i : Nat) (e : Ent), Q[i]? = some (some e) → e.key ≠ k) := fun i e hi q => by
            have := (MV.out.maps H.out.m).there hi
            rw [q, HN.out] at this
            cases this
          obtain ⟨-, haz, hdz⟩ := HF9.out.isgap NW.out HL.out NZE.out
          have AZ : Hid (Q[a2]? = some none) := haz
          have DZ : Hid (∃ d, d < Q.length ∧ a2 = pos Q.length (hmN Q.length k) d ∧ ∀ x, x < d → ∃ e, Q[pos Q.length (hmN Q.length k) x]? = some (some e)) := hdz
          clear haz hdz hgrow
          have TZ : Hid (TB w9 b w6.heap.size W M (cnt P) Q) := TQ.out.kept B9.out
          have BZ : Hid (Fr (own2 b pb) w w9) := F8.out.then B9.out
          have FZ : Hid (Fr (own2 b pb) w w9) := BZ.out
          have LZ : Hid (2 * (cnt P + 1) ≤ Q.length) := (by have := LQ.out; have := (H.out.p); have := HGO.out; by_cases hP : P = []
                                                            · subst hP; simp [cnt] at *; omega
                                                            · have := (H.out.p hP).few; have := (H.out.p hP).lt []; omega : 2 * (cnt P + 1) ≤ Q.length)
          have MZ : Hid (Maps Q m) := MV.out.maps H.out.m
          have SZ : Hid (Q.length = putN W M (cnt P) P.length m k) := (by unfold putN; rw [if_pos ⟨HE.out, HN.out, HGO.out⟩]; exact LQ.out : Q.length = putN W M (cnt P) P.length m k)
          have PBZ : Hid (w6.heap.size = pb ∨ w.heap.size ≤ w6.heap.size) := (.inr B6.out.size : w6.heap.size = pb ∨ w.heap.size ≤ w6.heap.size)
          have KBZ : Hid (∀ j, kblk Q j → kblk P j) := fun _ h => MV.out.kblk h
          have c3 := TZ.out.c3p NZE.out
          have hal := get_lt AZ.out
          have hpow := TZ.out.pow NZE.out
          have i0 : (0 : Int) ≤ (a2 : Int) := by omega
          have i1 : (a2 : Int) < (Q.length : Int) := by omega
          have hbp := TZ.out.bp NZE.out
          have hpb := Ne.symm hbp
          have kl : k.length ≤ 1000000 := by have := HL.out; omega
          have AK : Hid (ArgI w9.drew (.slice q k.length cap) k) := (K8.out.kept B9.out).kept (Below.refl _ _).drew
          go_region_held (fun w' => w'.cell? ⟨b, 3, none⟩ = some (.slice (some ⟨w6.heap.size, 0, none⟩) Q.length Q.length)) (go_keep) (first | (go_at_call 17; refine (copied_g AK.out kl).mono ?_; rintro e w7 ⟨g, rfl, hg7, hgn, hb⟩; have G7 : Hid (w7.heap[g]? = some (.cells (ints k).toArray 3 (0, 0)) ∧ w9.heap.size ≤ g) := ⟨hg7, hgn⟩; have B7 : Hid (Below w9.heap.size w9 w7) := (Below.refl _ _).drew.trans hb; clear hg7 hgn hb; have T7 : Hid (TB w7 b w6.heap.size W M (cnt P) Q) := TZ.out.kept B7.out; have c37 := T7.out.c3p NZE.out; have y0 := T7.out.pf0 AZ.out; have y1 := T7.out.pf1 AZ.out; have y2 := T7.out.pf2 AZ.out; have z0 := T7.out.frp NZE.out (a2 * 3); have z1 := T7.out.frp NZE.out (a2 * 3 + 1); have z2 := T7.out.frp NZE.out (a2 * 3 + 2)))
          have hgn : w.heap.size ≤ g := Nat.le_trans FZ.out.size G7.out.2
          have TS : Hid (TB (((w7.setCell ⟨w6.heap.size, a2 * 3, none⟩ (.slice (some ⟨g, 0, none⟩) k.length k.length)).setCell ⟨w6.heap.size, a2 * 3 + 1, none⟩ (.int .i64 x)).setCell ⟨w6.heap.size, a2 * 3 + 2, none⟩ (.bool true)) b w6.heap.size W M (cnt P) (Q.set a2 (some ⟨.slice (some ⟨g, 0, none⟩) k.length k.length, k, x⟩))) := T7.out.put3 hal _ _ _ _ rfl (fun e he => by cases he; exact ⟨⟨g, rfl, G7.out.1⟩, HL.out⟩)
          have FS : Hid (Fr (own2 b pb) w (((w7.setCell ⟨w6.heap.size, a2 * 3, none⟩ (.slice (some ⟨g, 0, none⟩) k.length k.length)).setCell ⟨w6.heap.size, a2 * 3 + 1, none⟩ (.int .i64 x)).setCell ⟨w6.heap.size, a2 * 3 + 2, none⟩ (.bool true))) := (((FZ.out.then B7.out).setNew B6.out.size _).setNew B6.out.size _).setNew B6.out.size _
          have s2 := TS.out.c2
          have s3 := TS.out.frb 2
          have hcM : cnt P < M := HLT.out
          generalize (((w7.setCell ⟨w6.heap.size, a2 * 3, none⟩ (.slice (some ⟨g, 0, none⟩) k.length k.length)).setCell ⟨w6.heap.size, a2 * 3 + 1, none⟩ (.int .i64 x)).setCell ⟨w6.heap.size, a2 * 3 + 2, none⟩ (.bool true)) = V at TS FS s2 s3 ⊢
          clear y0 y1 y2 z0 z1 z2 c37 c3
          go_wp2
          go_ret
          obtain ⟨d, hd1, hd2, hd3⟩ := DZ.out
          have hcs := cnt_set (y := some ⟨.slice (some ⟨g, 0, none⟩) k.length k.length, k, x⟩) AZ.out
          simp at hcs
          have hcz := CZ.out
          have hcn : cnt (Q.set a2 (some ⟨.slice (some ⟨g, 0, none⟩) k.length k.length, k, x⟩)) = cnt P + 1 := by omega
          refine ⟨by rw [HE.out]; rfl, w6.heap.size, Q.set a2 (some ⟨.slice (some ⟨g, 0, none⟩) k.length k.length, k, x⟩), ⟨?_, fun _ => ?_, ?_, ?_⟩, ?_, ?_, ⟨?_, ?_⟩, ?_⟩
          · rw [hcn]
            have := TS.out.count (cnt P + 1)
            simpa using this
          · rw [List.length_set, hd2]
            exact PZ.out.lay hd3 hd1 (hd2 ▸ AZ.out) NW.out (by have := LZ.out; omega) _ _
          · have : putM W M (cnt P) m k x = upd m k (some x) := by unfold putM; rw [HE.out]; rfl
            rw [this]
            exact MZ.out.lay AZ.out HN.out _ _
          · rw [hcn]; omega
          · unfold putC; rw [if_pos ⟨HE.out, HN.out⟩, hcn]
          · rw [List.length_set]
            exact SZ.out
          · first | exact PBZ.out | exact .inl rfl
          · exact fun j hj => (kblk_set hal hgn hj).imp (KBZ.out j) id
          · exact FS.out.setCell (.inl rfl) _
        · have i9 : ¬ ((P.length : Int) < 2 * ((cnt P : Int) + 1)) := by omega
          go_wp2
          refine wp_region_ext (by kernel_rfl) (by kernel_rfl) ?_
          repeat (go_big_quiet_step (first | exact rfl))
          refine wpQuiet_nil ?_
          intro w6 hw
          have BZ : Hid (Below w.heap.size w w6) := chain B5.out (ext_of hw) (Nat.le_refl _)
          clear hw c3 c2 lb
          have TZ : Hid (TB w6 b pb W M (cnt P) P) := H.out.t.kept BZ.out
          have NZE : Hid (P ≠ []) := (fun e => by rw [e] at hgrow; simp at hgrow : P ≠ [])
          have HGO : Hid (¬ P.length < 2 * (cnt P + 1)) := hgrow
          have NW : Hid (∀ (i : Nat) (e : Ent), P[i]? = some (some e) → e.key ≠ k) := fun i e hi q => by
            have := H.out.m.there hi
            rw [q, HN.out] at this
            cases this
          obtain ⟨-, haz, hdz⟩ := HF.out.isgap NW.out HL.out NZE.out
          have AZ : Hid (P[a]? = some none) := haz
          have DZ : Hid (∃ d, d < P.length ∧ a = pos P.length (hmN P.length k) d ∧ ∀ x, x < d → ∃ e, P[pos P.length (hmN P.length k) x]? = some (some e)) := hdz
          clear haz hdz hgrow
          go_upto_region 12 with fail
          have PZ : Hid (Probe (hmN P.length) P) := H.out.p NZE.out
          have CZ : Hid (cnt P = cnt P) := rfl
          have LZ : Hid (2 * (cnt P + 1) ≤ P.length) := (by have := HGO.out; omega : 2 * (cnt P + 1) ≤ P.length)
          have FZ : Hid (Fr (own2 b pb) w w6) := Fr.of_below BZ.out
          have MZ : Hid (Maps P m) := H.out.m
          have SZ : Hid (P.length = putN W M (cnt P) P.length m k) := (by unfold putN; rw [if_neg (fun q => HGO.out q.2.2)] : P.length = putN W M (cnt P) P.length m k)
          have PBZ : Hid (pb = pb ∨ w.heap.size ≤ pb) := (.inl rfl : pb = pb ∨ w.heap.size ≤ pb)
          have KBZ : Hid (∀ j, kblk P j → kblk P j) := fun _ h => h
          have c3 := TZ.out.c3p NZE.out
          have hal := get_lt AZ.out
          have hpow := TZ.out.pow NZE.out
          have i0 : (0 : Int) ≤ (a : Int) := by omega
          have i1 : (a : Int) < (P.length : Int) := by omega
          have hbp := TZ.out.bp NZE.out
          have hpb := Ne.symm hbp
          have kl : k.length ≤ 1000000 := by have := HL.out; omega
          have AK : Hid (ArgI w6.drew (.slice q k.length cap) k) := HZ.out.kept BZ.out.drew
          go_region_held (fun w' => w'.cell? ⟨b, 3, none⟩ = some (.slice (some ⟨pb, 0, none⟩) P.length P.length)) (go_keep) (first | (go_at_call 17; refine (copied_g AK.out kl).mono ?_; rintro e w7 ⟨g, rfl, hg7, hgn, hb⟩; have G7 : Hid (w7.heap[g]? = some (.cells (ints k).toArray 3 (0, 0)) ∧ w6.heap.size ≤ g) := ⟨hg7, hgn⟩; have B7 : Hid (Below w6.heap.size w6 w7) := (Below.refl _ _).drew.trans hb; clear hg7 hgn hb; have T7 : Hid (TB w7 b pb W M (cnt P) P) := TZ.out.kept B7.out; have c37 := T7.out.c3p NZE.out; have y0 := T7.out.pf0 AZ.out; have y1 := T7.out.pf1 AZ.out; have y2 := T7.out.pf2 AZ.out; have z0 := T7.out.frp NZE.out (a * 3); have z1 := T7.out.frp NZE.out (a * 3 + 1); have z2 := T7.out.frp NZE.out (a * 3 + 2)))
          have hgn : w.heap.size ≤ g := Nat.le_trans FZ.out.size G7.out.2
          have TS : Hid (TB (((w7.setCell ⟨pb, a * 3, none⟩ (.slice (some ⟨g, 0, none⟩) k.length k.length)).setCell ⟨pb, a * 3 + 1, none⟩ (.int .i64 x)).setCell ⟨pb, a * 3 + 2, none⟩ (.bool true)) b pb W M (cnt P) (P.set a (some ⟨.slice (some ⟨g, 0, none⟩) k.length k.length, k, x⟩))) := T7.out.put3 hal _ _ _ _ rfl (fun e he => by cases he; exact ⟨⟨g, rfl, G7.out.1⟩, HL.out⟩)
          have FS : Hid (Fr (own2 b pb) w (((w7.setCell ⟨pb, a * 3, none⟩ (.slice (some ⟨g, 0, none⟩) k.length k.length)).setCell ⟨pb, a * 3 + 1, none⟩ (.int .i64 x)).setCell ⟨pb, a * 3 + 2, none⟩ (.bool true))) := (((FZ.out.then B7.out).setCell (.inr rfl) _).setCell (.inr rfl) _).setCell (.inr rfl) _
          have s2 := TS.out.c2
          have s3 := TS.out.frb 2
          have hcM : cnt P < M := HLT.out
          generalize (((w7.setCell ⟨pb, a * 3, none⟩ (.slice (some ⟨g, 0, none⟩) k.length k.length)).setCell ⟨pb, a * 3 + 1, none⟩ (.int .i64 x)).setCell ⟨pb, a * 3 + 2, none⟩ (.bool true)) = V at TS FS s2 s3 ⊢
          clear y0 y1 y2 z0 z1 z2 c37 c3
          go_wp2
          go_ret
          obtain ⟨d, hd1, hd2, hd3⟩ := DZ.out
          have hcs := cnt_set (y := some ⟨.slice (some ⟨g, 0, none⟩) k.length k.length, k, x⟩) AZ.out
          simp at hcs
          have hcz := CZ.out
          have hcn : cnt (P.set a (some ⟨.slice (some ⟨g, 0, none⟩) k.length k.length, k, x⟩)) = cnt P + 1 := by omega
          refine ⟨by rw [HE.out]; rfl, pb, P.set a (some ⟨.slice (some ⟨g, 0, none⟩) k.length k.length, k, x⟩), ⟨?_, fun _ => ?_, ?_, ?_⟩, ?_, ?_, ⟨?_, ?_⟩, ?_⟩
          · rw [hcn]
            have := TS.out.count (cnt P + 1)
            simpa using this
          · rw [List.length_set, hd2]
            exact PZ.out.lay hd3 hd1 (hd2 ▸ AZ.out) NW.out (by have := LZ.out; omega) _ _
          · have : putM W M (cnt P) m k x = upd m k (some x) := by unfold putM; rw [HE.out]; rfl
            rw [this]
            exact MZ.out.lay AZ.out HN.out _ _
          · rw [hcn]; omega
          · unfold putC; rw [if_pos ⟨HE.out, HN.out⟩, hcn]
          · rw [List.length_set]
            exact SZ.out
          · first | exact PBZ.out | exact .inl rfl
          · exact fun j hj => (kblk_set hal hgn hj).imp (KBZ.out j) id
          · exact FS.out.setCell (.inl rfl) _
    · obtain ⟨e, he, hk, hmk⟩ := HF.out.here H.out.m
      have HN : Hid (m k = some e.val ∧ e.key = k ∧ P[a]? = some (some e)) := ⟨hmk, hk, he⟩
      have HE : Hid (putE W M (cnt P) m k = 0) := (by unfold putE; rw [if_neg (by simp [HL.out]), hmk]; rfl : putE W M (cnt P) m k = 0)
      have hal := get_lt he
      have hpow := T1.out.pow (ne_nil_get he)
      have c3 := T1.out.c3p (ne_nil_get he)
      have c1 := T1.out.pc1 he
      have z1 := T1.out.frp (ne_nil_get he) (a * 3 + 1)
      clear hmk hk he
      have i0 : (0 : Int) ≤ (a : Int) := by omega
      have i1 : (a : Int) < (P.length : Int) := by omega
      go_wp2
      go_ret
      obtain ⟨hmk, hk, he⟩ := HN.out
      have hcs := cnt_set (y := some { e with val := x }) he
      simp at hcs
      refine ⟨by rw [HE.out]; rfl, pb, P.set a (some { e with val := x }), ⟨?_, fun _ => ?_, ?_, ?_⟩, ?_, ?_, ⟨.inl rfl, ?_⟩, ?_⟩
      · rw [hcs]; exact T1.out.value he x
      · rw [List.length_set]; exact (H.out.p (ne_nil_get he)).over he x
      · have : putM W M (cnt P) m k x = upd m e.key (some x) := by unfold putM; rw [HE.out, hk]; rfl
        rw [this]
        exact H.out.m.over (H.out.p (ne_nil_get he)) he x
      · rw [hcs]; exact H.out.few
      · unfold putC; rw [hcs, hmk]; simp
      · unfold putN; rw [hmk]; simp
      · rintro j ⟨i, e', o, n, mm, hi, hkv⟩
        rw [set_get hal] at hi
        split at hi
        · cases hi; exact .inl ⟨a, e, o, n, mm, he, hkv⟩
        · exact .inl ⟨i, e', o, n, mm, hi, hkv⟩
      · exact (Fr.of_below B1.out).setCell (.inr rfl) _
  · have hb1 : (((k.length : Nat) : Int) != ((W : Nat) : Int)) = true := by simp; omega
    have HE : Hid (putE W M (cnt P) m k = 11) := if_pos hl
    clear hl
    go_enter Try.func11, Try.ntmps11
    go_wp2
    go_ret
    refine ⟨by rw [HE.out]; rfl, pb, P, ?_, ?_, ?_, Stay.refl _ _ _ _, Fr.refl _ _⟩
    · have : putM W M (cnt P) m k x = m := by unfold putM; rw [HE.out]; rfl
      rw [this]
      exact H.out
    · unfold putC; rw [HE.out]; simp
    · unfold putN; rw [HE.out]; simp
end Go.Proofs.Ytmfljfedpdipiaa
