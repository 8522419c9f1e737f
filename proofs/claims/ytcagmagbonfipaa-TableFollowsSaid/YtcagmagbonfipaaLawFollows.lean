/-
  The law TableFollows, walked.
-/
import Derived.Test.YtcagmagbonfipaaFollowsA
namespace Go.Proofs.Ytcagmagbonfipaa
open Go Go.RowKit Go.Shelf
attribute [local go_sem] Oper.semAt_some ext_cell

set_option maxRecDepth 100000 in
set_option maxHeartbeats 80000000 in
theorem follows_in (n : Nat) (hn : 3 ≤ n) (zs : List Int) (v : Value) (ds : List Int) (v2 : Value) (w : World) (hz : ArgI w v zs) (hd : ArgI w v2 ds) :
    CallsIn Fence.wide n Try.prog 5 #[v, v2] w fun e W' => e = .returned (.bool true) ∧ Below w.heap.size w W' := by
  have h1 : 1 ≤ n := by omega
  have h2 : 1 ≤ n - 1 - 1 := by omega
  have hfn : ∀ f, Fence.wide.fn f := fun _ => trivial
  have HZ : Hid (ArgI w v zs) := hz
  obtain ⟨q, cap, rfl, hlen, hcell⟩ := hz.slice
  have HC : Hid (∀ (i : Nat) (x : Int), zs[i]? = some x → ∃ g off, q = some ⟨g, off, none⟩ ∧ g < w.heap.size ∧ w.cell? ⟨g, off + i, none⟩ = some (.int .i64 x)) := hcell
  obtain ⟨q2, cap2, rfl, hlen2, hcell2⟩ := hd.slice
  have HC2 : Hid (∀ (i : Nat) (x : Int), ds[i]? = some x → ∃ g off, q2 = some ⟨g, off, none⟩ ∧ g < w.heap.size ∧ w.cell? ⟨g, off + i, none⟩ = some (.int .i64 x)) := hcell2
  have hcap : zs.length ≤ cap ∨ zs = [] := by
    rcases HZ.out with ⟨_, _, _, e⟩ | ⟨_, _, _, e, _, h, _⟩
    · exact .inr e
    · cases e; exact .inl h
  clear hcell hcell2 hz hd
  unfold maxLen at hlen hlen2
  refine callsIn_of_wp_marks Try.func5 rfl trivial ?_ rfl
  simp only [Try.ntmps5, List.size_toArray, List.length_cons, List.length_nil, Nat.reduceAdd, Nat.reduceSub, Array.replicate_succ, Array.replicate_zero, List.push_toArray, List.append_toArray, List.nil_append, List.cons_append]
  refine wpIn_wide.2 (Code.wp_mono noPanicF_imp ?_)
  obtain ⟨ys, hys⟩ : ∃ ys, ys = zs.take 600 := ⟨_, rfl⟩
  have YZ : Hid (∀ (i : Nat) (x : Int), ys[i]? = some x → ∃ g off, q = some ⟨g, off, none⟩ ∧ g < w.heap.size ∧ w.cell? ⟨g, off + i, none⟩ = some (.int .i64 x)) := fun i x hx => by
    rw [hys] at hx
    have hi : i < 600 := by have := (List.getElem?_eq_some_iff.1 hx).1; simp at this; omega
    rw [List.getElem?_take_of_lt hi] at hx
    exact HC.out i x hx
  have hyl : ys.length ≤ 600 := by rw [hys]; simp; omega
  by_cases h600 : zs.length ≤ 600
  have j0 : decide ((600 : Int) < (zs.length : Int)) = false := by simp; omega
  have YE : Hid (ys = zs) := (by rw [hys, List.take_of_length_le h600] : ys = zs)
  clear hys h600 hcap
  rotate_left
  have j0 : decide ((600 : Int) < (zs.length : Int)) = true := by simp; omega
  have j1 : (600 : Int) ≤ (cap : Int) := by
    rcases hcap with h | h
    · omega
    · rw [h] at h600; simp at h600
  have HY : Hid (ys.length = 600) := (by rw [hys]; simp; omega : ys.length = 600)
  clear hys h600 hcap
  go_upto_region 8 with first | (go_at_call 9; (with_reducible refine (known_c _).mono ?_); rintro e w0 ⟨rfl, hb⟩; have B0 : Hid (Below w.heap.size w w0) := chain (((Below.refl _ w).alloc (Nat.le_refl _) _).alloc (by simp) _) hb (Nat.le_refl _); have X0 : Hid (Boxed w0 w.heap.size 34 (.slice q zs.length cap)) := boxed_kept ((Boxed.new w 34 (.slice q zs.length cap)).alloc _) hb; have Y0 : Hid (Boxed w0 (w.heap.size + 1) 4 (.bool false)) := boxed_kept (boxed_second w _ 4 (.bool false)) hb; clear hb) | (go_at_call 10; (with_reducible refine (new_s 2 1000000 (by decide) (by decide) _).mono ?_); rintro e w1 ⟨b, rfl, hT, hB⟩; have T0 : Hid (TS w.heap.size w1 b 2 1000000 0 0 m0) := (hT.mono B0.out.size : TS w.heap.size w1 b 2 1000000 0 0 m0); have O0 : Hid (Below w.heap.size w w1) := chain B0.out hB (Nat.le_refl _); have X1 : Hid (Boxed w1 w.heap.size 34 (.slice q zs.length cap)) := boxed_kept X0.out hB; have Y1 : Hid (Boxed w1 (w.heap.size + 1) 4 (.bool false)) := boxed_kept Y0.out hB; have cl := (X1.out.alloc (.cells #[.pointer (some ⟨b, 0, none⟩)] 23)).cell; have fl := (X1.out.alloc (.cells #[.pointer (some ⟨b, 0, none⟩)] 23)).frozen; clear hT hB)
  have TB1 := Boxed.new w1 23 (.pointer (some ⟨b, 0, none⟩))
  have B1 : Below w1.heap.size w1 (w1.alloc (.cells #[.pointer (some ⟨b, 0, none⟩)] 23)) := (Below.refl _ _).alloc (Nat.le_refl _) _
  have hcb : w.heap.size ≠ b := T0.out.not_box X1.out (by decide)
  have hct : w1.heap.size ≠ w.heap.size := Ne.symm (Nat.ne_of_lt X1.out.lt)
  have T1 : Hid (TS w.heap.size ((w1.alloc (.cells #[.pointer (some ⟨b, 0, none⟩)] 23)).setCell ⟨w.heap.size, 0, none⟩ (.slice q 600 cap)) b 2 1000000 0 0 m0) := (T0.out.kept B1).bare_fr (S := fun k => k = w.heap.size) ((Fr.refl (fun k => k = w.heap.size) _).setCell (p := ⟨w.heap.size, 0, none⟩) rfl _) (Ne.symm hcb)
  have O1 : Hid (Below w.heap.size w ((w1.alloc (.cells #[.pointer (some ⟨b, 0, none⟩)] 23)).setCell ⟨w.heap.size, 0, none⟩ (.slice q 600 cap))) := (chain O0.out B1 (Nat.le_refl _)).setCell (Nat.le_refl _) _
  have F1 : Hid (FB ((w1.alloc (.cells #[.pointer (some ⟨b, 0, none⟩)] 23)).setCell ⟨w.heap.size, 0, none⟩ (.slice q 600 cap)) w.heap.size (w.heap.size + 1) w1.heap.size b (.slice q ys.length cap)) := ⟨by rw [HY.out]; exact (boxed_kept X1.out B1).set _, (boxed_kept Y1.out B1).other (by omega) _, TB1.other hct _⟩
  clear TB1 B1 T0 O0 X1 Y1 B0 X0 Y0 cl fl j0 j1 hcb hct
  generalize ((w1.alloc (.cells #[.pointer (some ⟨b, 0, none⟩)] 23)).setCell ⟨w.heap.size, 0, none⟩ (.slice q 600 cap)) = V' at T1 O1 F1 ⊢
  rotate_left
  have TB1 := Boxed.new w1 23 (.pointer (some ⟨b, 0, none⟩))
  have B1 : Below w1.heap.size w1 (w1.alloc (.cells #[.pointer (some ⟨b, 0, none⟩)] 23)) := (Below.refl _ _).alloc (Nat.le_refl _) _
  have T1 : Hid (TS w.heap.size (w1.alloc (.cells #[.pointer (some ⟨b, 0, none⟩)] 23)) b 2 1000000 0 0 m0) := T0.out.kept B1
  have O1 : Hid (Below w.heap.size w (w1.alloc (.cells #[.pointer (some ⟨b, 0, none⟩)] 23))) := chain O0.out B1 (Nat.le_refl _)
  have F1 : Hid (FB (w1.alloc (.cells #[.pointer (some ⟨b, 0, none⟩)] 23)) w.heap.size (w.heap.size + 1) w1.heap.size b (.slice q ys.length cap)) := ⟨by rw [YE.out]; exact boxed_kept X1.out B1, boxed_kept Y1.out B1, TB1⟩
  clear TB1 B1 T0 O0 X1 Y1 B0 X0 Y0 cl fl j0
  generalize (w1.alloc (.cells #[.pointer (some ⟨b, 0, none⟩)] 23)) = V' at T1 O1 F1 ⊢
  all_goals
    go_loopw [8] (fun i wr => ∃ (k c N : Nat) (m : List Int → Option Int), k ≤ ys.length ∧ i = .int .i64 k ∧ c ≤ k ∧ Places ys k m ∧ TS w.heap.size wr b 2 1000000 c N m ∧ FB wr w.heap.size (w.heap.size + 1) w1.heap.size b (.slice q ys.length cap) ∧ Below w.heap.size w wr) (fun i _ => ys.length - (intOf i).toNat)
    case atStart => exact ⟨0, 0, 0, m0, Nat.zero_le _, rfl, Nat.le_refl _, (fun _ _ h => by cases h), T1.out, F1.out, O1.out⟩
    case round =>
      obtain ⟨k, c, N, m, hk, rfl, hck, hpl, hT, hF, hB⟩ := hrel
      have T : Hid (TS w.heap.size wr b 2 1000000 c N m) := hT
      have F : Hid (FB wr w.heap.size (w.heap.size + 1) w1.heap.size b (.slice q ys.length cap)) := hF
      have O : Hid (Below w.heap.size w wr) := hB
      have PL : Hid (Places ys k m) := hpl
      clear hT hF hB hpl T1 F1 O1
      have cl := F.out.l.cell
      have ct := F.out.t.cell
      by_cases hlt : k < ys.length
      · obtain ⟨x, hx⟩ : ∃ x, ys[k]? = some x := ⟨_, List.getElem?_eq_getElem hlt⟩
        obtain ⟨g, off, rfl, hg, hcx⟩ := YZ.out k x hx
        have HX : Hid (ys[k]? = some x) := hx
        have cx := (O.out.cell (p := ⟨g, off + k, none⟩) hg).trans hcx
        have hgw : g < wr.heap.size := Nat.lt_of_lt_of_le hg O.out.size
        clear hx hcx
        have i0 : (0 : Int) ≤ (k : Int) := by omega
        have i1 : (k : Int) < (ys.length : Int) := by omega
        go_upto_region 10 with fail
        go_region_held (fun w' => w'.cell? ⟨w.heap.size, 0, none⟩ = some (.slice (some ⟨g, off, none⟩) ys.length cap) ∧ w'.cell? ⟨g, off + k, none⟩ = some (.int .i64 x)) (go_keep) (fail)
        have hA : Below wr.heap.size wr (wr.alloc (.cells #[.int .i64 x, .int .i64 (x.tmod 7)] 3)).drew := ((Below.refl _ _).alloc (Nat.le_refl _) _).drew
        have KY : Hid ((wr.alloc (.cells #[.int .i64 x, .int .i64 (x.tmod 7)] 3)).drew.heap[wr.heap.size]? = some (.cells (ints (kk x)).toArray 3 (0, 0))) := World.alloc_heap_new wr _
        have Ta : Hid (TS w.heap.size (wr.alloc (.cells #[.int .i64 x, .int .i64 (x.tmod 7)] 3)).drew b 2 1000000 c N m) := T.out.kept hA
        have Fa : Hid (FB (wr.alloc (.cells #[.int .i64 x, .int .i64 (x.tmod 7)] 3)).drew w.heap.size (w.heap.size + 1) w1.heap.size b (.slice (some ⟨g, off, none⟩) ys.length cap)) := F.out.kept hA
        have Oa : Hid (Below w.heap.size w (wr.alloc (.cells #[.int .i64 x, .int .i64 (x.tmod 7)] 3)).drew) := chain O.out hA (Nat.le_refl _)
        have APK : Hid (Apart (.slice (some ⟨wr.heap.size, 0, none⟩) 2 2) b) := apart_new T.out.lt
        generalize (wr.alloc (.cells #[.int .i64 x, .int .i64 (x.tmod 7)] 3)).drew = X at KY Ta Fa Oa ⊢
        clear hA T F cl ct cx
        have ct := Fa.out.t.cell
        have AK : Hid (ArgI X (.slice (some ⟨wr.heap.size, 0, none⟩) 2 2) (kk x)) := argI_heap KY.out rfl (by decide)
        have Ka : Hid (X.heap[wr.heap.size]? = some (.cells (ints (kk x)).toArray 3 (0, 0))) := KY.out
        have Aa : Hid (ArgI X (.slice (some ⟨wr.heap.size, 0, none⟩) 2 2) (kk x)) := AK.out
        have G2 : Hid (upd m (kk x) (some (k : Int)) (kk x) = some (k : Int)) := upd_same _ _ _
        have ADD : ∀ c' N' m', TS w.heap.size X b 2 1000000 c' N' m' → True := fun _ _ _ _ => trivial
        clear ADD KY AK
        cases hmk : m (kk x) with
        | none =>
          as_aux_lemma =>
            have GN : Hid (m (kk x) = none) := hmk
            have HCM : Hid (c < 1000000) := (by omega : c < 1000000)
            clear hmk
            go_upto_region 16 with first | (go_at_call 12; (with_reducible refine (get_s Tc.out Ac.out).mono ?_); rw [G2.out, getV_some]; rintro e w4 ⟨rfl, hb⟩; have Td : Hid (TS w.heap.size w4 b 2 1000000 (c + 1) N3 (upd m (kk x) (some (k : Int)))) := Tc.out.kept hb; have Fd : Hid (FB w4 w.heap.size (w.heap.size + 1) w1.heap.size b (.slice (some ⟨g, off, none⟩) ys.length cap)) := Fc.out.kept hb; have Kd : Hid (w4.heap[wr.heap.size]? = some (.cells (ints (kk x)).toArray 3 (0, 0))) := (hb.block _ (lt_of_heap Kc.out)).trans Kc.out; have Ad : Hid (ArgI w4 (.slice (some ⟨wr.heap.size, 0, none⟩) 2 2) (kk x)) := argI_heap Kd.out rfl (by decide); have Od : Hid (Below w.heap.size w w4) := chain Oc.out hb (Nat.le_refl _); clear hb; have ctd := Fd.out.t.cell) | (go_at_call 12; (with_reducible refine (get_s Ta.out Aa.out).mono ?_); rw [GN.out, getV_none]; rintro e w2 ⟨rfl, hb⟩; have Tb : Hid (TS w.heap.size w2 b 2 1000000 c N m) := Ta.out.kept hb; have Fb : Hid (FB w2 w.heap.size (w.heap.size + 1) w1.heap.size b (.slice (some ⟨g, off, none⟩) ys.length cap)) := Fa.out.kept hb; have Kb : Hid (w2.heap[wr.heap.size]? = some (.cells (ints (kk x)).toArray 3 (0, 0))) := (hb.block _ (lt_of_heap Ka.out)).trans Ka.out; have Ab : Hid (ArgI w2 (.slice (some ⟨wr.heap.size, 0, none⟩) 2 2) (kk x)) := argI_heap Kb.out rfl (by decide); have Ob : Hid (Below w.heap.size w w2) := chain Oa.out hb (Nat.le_refl _); clear hb; have ctb := Fb.out.t.cell) | (go_at_call 11; (with_reducible refine (len_s Tb.out).mono ?_); rintro e w9 ⟨rfl, h9⟩; subst w9) | (go_at_call 13; (with_reducible refine (put_new Tb.out Ab.out APK.out (k : Int) rfl GN.out HCM.out).mono ?_); rintro e w3 ⟨rfl, ⟨N3, hT, _⟩, hO⟩; have Tc : Hid (TS w.heap.size w3 b 2 1000000 (c + 1) N3 (upd m (kk x) (some (k : Int)))) := hT; have Fc : Hid (FB w3 w.heap.size (w.heap.size + 1) w1.heap.size b (.slice (some ⟨g, off, none⟩) ys.length cap)) := Fb.out.ki hO.ki; have Kc : Hid (w3.heap[wr.heap.size]? = some (.cells (ints (kk x)).toArray 3 (0, 0))) := hO.ki _ _ _ (by decide) (by decide) Kb.out; have Ac : Hid (ArgI w3 (.slice (some ⟨wr.heap.size, 0, none⟩) 2 2) (kk x)) := argI_heap Kc.out rfl (by decide); have Oc : Hid (Below w.heap.size w w3) := Ob.out.trans hO.below; clear hT hO; have ctc := Fc.out.t.cell)
            have ltb := Fd.out.t.lt
            have e1 : ((k : Int) != (k : Int)) = false := by simp
            have e2 : (((c + 1 : Nat) : Int) == (c : Int) + 1) = true := by simp
            have e3 : (true == false) = false := rfl
            refine wp_region_ext (by kernel_rfl) (by kernel_rfl) ?_
            repeat (go_big_quiet_step (first | exact rfl | (go_at_call 11; with_reducible exact ext_call_same (len_s (Td.out.kept (ext_below _))))))
            refine wpQuiet_nil ?_
            intro w5 hw
            have B5 : Hid (Below w4.heap.size w4 w5) := ext_of hw
            clear hw
            go_wp2
            go_roundw
            case rel => exact ⟨k + 1, c + 1, N3, (upd m (kk x) (some (k : Int))), by omega, by go_num, by omega, PL.out.put HX.out, Td.out.kept B5.out, Fd.out.kept B5.out, chain Od.out B5.out (Nat.le_refl _)⟩
            case measure => simp [intOf]; omega
        | some y =>
          as_aux_lemma =>
            obtain ⟨j, rfl, hjk, x', hx', hkk⟩ := PL.out _ _ hmk
            have hxx : x = x' := by unfold kk at hkk; simp at hkk; exact hkk.1
            subst hxx
            have GN : Hid (m (kk x) = some (j : Int)) := hmk
            obtain ⟨g', off', hq, _, hcj⟩ := YZ.out j x hx'
            cases hq
            have HCJ : Hid (w.cell? ⟨g, off + j, none⟩ = some (.int .i64 x) ∧ w.cell? ⟨g, off + k, none⟩ = some (.int .i64 x)) := ⟨hcj, by obtain ⟨g2, o2, hq2, _, hck⟩ := YZ.out k x HX.out; cases hq2; exact hck⟩
            clear hmk hx' hkk hcj
            go_upto_region 16 with first | (go_at_call 12; (with_reducible refine (get_s Tc.out Ac.out).mono ?_); rw [G2.out, getV_some]; rintro e w4 ⟨rfl, hb⟩; have Td : Hid (TS w.heap.size w4 b 2 1000000 c N (upd m (kk x) (some (k : Int)))) := Tc.out.kept hb; have Fd : Hid (FB w4 w.heap.size (w.heap.size + 1) w1.heap.size b (.slice (some ⟨g, off, none⟩) ys.length cap)) := Fc.out.kept hb; have Kd : Hid (w4.heap[wr.heap.size]? = some (.cells (ints (kk x)).toArray 3 (0, 0))) := (hb.block _ (lt_of_heap Kc.out)).trans Kc.out; have Ad : Hid (ArgI w4 (.slice (some ⟨wr.heap.size, 0, none⟩) 2 2) (kk x)) := argI_heap Kd.out rfl (by decide); have Od : Hid (Below w.heap.size w w4) := chain Oc.out hb (Nat.le_refl _); clear hb; have ctd := Fd.out.t.cell) | (go_at_call 12; (with_reducible refine (get_s Ta.out Aa.out).mono ?_); rw [GN.out, getV_some]; rintro e w2 ⟨rfl, hb⟩; have Tb : Hid (TS w.heap.size w2 b 2 1000000 c N m) := Ta.out.kept hb; have Fb : Hid (FB w2 w.heap.size (w.heap.size + 1) w1.heap.size b (.slice (some ⟨g, off, none⟩) ys.length cap)) := Fa.out.kept hb; have Kb : Hid (w2.heap[wr.heap.size]? = some (.cells (ints (kk x)).toArray 3 (0, 0))) := (hb.block _ (lt_of_heap Ka.out)).trans Ka.out; have Ab : Hid (ArgI w2 (.slice (some ⟨wr.heap.size, 0, none⟩) 2 2) (kk x)) := argI_heap Kb.out rfl (by decide); have Ob : Hid (Below w.heap.size w w2) := chain Oa.out hb (Nat.le_refl _); clear hb; have ctb := Fb.out.t.cell) | (go_at_call 11; (with_reducible refine (len_s Tb.out).mono ?_); rintro e w9 ⟨rfl, h9⟩; subst w9) | (go_at_call 13; (with_reducible refine (put_old Tb.out Ab.out APK.out (k : Int) rfl GN.out).mono ?_); rintro e w3 ⟨rfl, hT, hO⟩; have Tc : Hid (TS w.heap.size w3 b 2 1000000 c N (upd m (kk x) (some (k : Int)))) := hT; have Fc : Hid (FB w3 w.heap.size (w.heap.size + 1) w1.heap.size b (.slice (some ⟨g, off, none⟩) ys.length cap)) := Fb.out.ki hO.ki; have Kc : Hid (w3.heap[wr.heap.size]? = some (.cells (ints (kk x)).toArray 3 (0, 0))) := hO.ki _ _ _ (by decide) (by decide) Kb.out; have Ac : Hid (ArgI w3 (.slice (some ⟨wr.heap.size, 0, none⟩) 2 2) (kk x)) := argI_heap Kc.out rfl (by decide); have Oc : Hid (Below w.heap.size w w3) := Ob.out.trans hO.below; clear hT hO; have ctc := Fc.out.t.cell)
            have ltb := Fd.out.t.lt
            have ltl := Fd.out.l.lt
            have cld := Fd.out.l.cell
            have cj := (Od.out.cell (p := ⟨g, off + j, none⟩) hg).trans HCJ.out.1
            have ck := (Od.out.cell (p := ⟨g, off + k, none⟩) hg).trans HCJ.out.2
            have hg4 : g < w4.heap.size := Nat.lt_of_lt_of_le hg Od.out.size
            have e1 : ((k : Int) != (k : Int)) = false := by simp
            have e2 : (((c : Nat) : Int) == (c : Int) + 1) = false := by simp; omega
            have e3 : (false == true) = false := rfl
            have e4 : ¬ ((j : Int) < 0) := by omega
            have e5 : ¬ ((k : Int) ≤ (j : Int)) := by omega
            have e6 : (x != x) = false := by simp
            have f0 : (0 : Int) ≤ (j : Int) := by omega
            have f1 : (j : Int) < (ys.length : Int) := by omega
            refine wp_region_ext (by kernel_rfl) (by kernel_rfl) ?_
            repeat (go_big_quiet_step (first | exact rfl | (go_at_call 11; with_reducible exact ext_call_same (len_s (Td.out.kept (ext_below _))))))
            refine wpQuiet_nil ?_
            intro w5 hw
            have B5 : Hid (Below w4.heap.size w4 w5) := ext_of hw
            clear hw
            go_wp2
            go_roundw
            case rel => exact ⟨k + 1, c, N, (upd m (kk x) (some (k : Int))), by omega, by go_num, by omega, PL.out.put HX.out, Td.out.kept B5.out, Fd.out.kept B5.out, chain Od.out B5.out (Nat.le_refl _)⟩
            case measure => simp [intOf]; omega
      · have i1 : ¬ ((k : Int) < (ys.length : Int)) := by omega
        have PK : Hid (Places ys ys.length m) := (by obtain rfl : k = ys.length := by omega
                                                     exact PL.out)
        clear PL
        go_wp2
        go_loopw [15] (fun i ws => ∃ (k2 c2 N2 : Nat) (m2 : List Int → Option Int), k2 ≤ ds.length ∧ k2 ≤ 600 ∧ i = .int .i64 k2 ∧ Places ys ys.length m2 ∧ TS w.heap.size ws b 2 1000000 c2 N2 m2 ∧ FB ws w.heap.size (w.heap.size + 1) w1.heap.size b (.slice q ys.length cap) ∧ Below w.heap.size w ws) (fun i _ => 600 - (intOf i).toNat)
        case atStart => exact ⟨0, c, N, m, Nat.zero_le _, Nat.zero_le _, rfl, PK.out, T.out, F.out, O.out⟩
        case round =>
          obtain ⟨k2, c2, N2, m2, hk2, hk6, rfl, hpl2, hT2, hF2, hB2⟩ := hrel
          clear T F O PK cl ct
          have T : Hid (TS w.heap.size wr b 2 1000000 c2 N2 m2) := hT2
          have F : Hid (FB wr w.heap.size (w.heap.size + 1) w1.heap.size b (.slice q ys.length cap)) := hF2
          have O : Hid (Below w.heap.size w wr) := hB2
          have PL : Hid (Places ys ys.length m2) := hpl2
          clear hT2 hF2 hB2 hpl2
          have ct := F.out.t.cell
          by_cases hgo : k2 < ds.length ∧ k2 < 600
          · obtain ⟨hlt2, h26⟩ := hgo
            obtain ⟨x, hx⟩ : ∃ x, ds[k2]? = some x := ⟨_, List.getElem?_eq_getElem hlt2⟩
            obtain ⟨g2, off2, rfl, hg2, hcx⟩ := HC2.out k2 x hx
            have cx := (O.out.cell (p := ⟨g2, off2 + k2, none⟩) hg2).trans hcx
            have hgw : g2 < wr.heap.size := Nat.lt_of_lt_of_le hg2 O.out.size
            clear hx hcx
            have i0 : (0 : Int) ≤ (k2 : Int) := by omega
            have i1 : (k2 : Int) < (ds.length : Int) := by omega
            have i2 : (k2 : Int) < 600 := by omega
            go_upto_region 21 with fail
            go_region_held (fun w' => w'.cell? ⟨g2, off2 + k2, none⟩ = some (.int .i64 x)) (go_keep) (fail)
            have hA : Below wr.heap.size wr (wr.alloc (.cells #[.int .i64 x, .int .i64 (x.tmod 7)] 3)).drew := ((Below.refl _ _).alloc (Nat.le_refl _) _).drew
            have Ka : Hid ((wr.alloc (.cells #[.int .i64 x, .int .i64 (x.tmod 7)] 3)).drew.heap[wr.heap.size]? = some (.cells (ints (kk x)).toArray 3 (0, 0))) := World.alloc_heap_new wr _
            have Ta : Hid (TS w.heap.size (wr.alloc (.cells #[.int .i64 x, .int .i64 (x.tmod 7)] 3)).drew b 2 1000000 c2 N2 m2) := T.out.kept hA
            have Fa : Hid (FB (wr.alloc (.cells #[.int .i64 x, .int .i64 (x.tmod 7)] 3)).drew w.heap.size (w.heap.size + 1) w1.heap.size b (.slice q ys.length cap)) := F.out.kept hA
            have Oa : Hid (Below w.heap.size w (wr.alloc (.cells #[.int .i64 x, .int .i64 (x.tmod 7)] 3)).drew) := chain O.out hA (Nat.le_refl _)
            generalize (wr.alloc (.cells #[.int .i64 x, .int .i64 (x.tmod 7)] 3)).drew = X at Ka Ta Fa Oa ⊢
            clear hA T F ct cx
            have ct := Fa.out.t.cell
            have Aa : Hid (ArgI X (.slice (some ⟨wr.heap.size, 0, none⟩) 2 2) (kk x)) := argI_heap Ka.out rfl (by decide)
            have G2 : Hid (upd m2 (kk x) none (kk x) = none) := upd_same _ _ _
            cases hmk : m2 (kk x) with
            | none =>
              as_aux_lemma =>
                have GN : Hid (m2 (kk x) = none) := hmk
                clear hmk
                have b1 : (false != false) = false := rfl
                go_wp2_with first | (go_at_call 12; (with_reducible refine (get_s Tc.out Ac.out).mono ?_); rw [G2.out, getV_none]; rintro e w4 ⟨rfl, hb⟩; have Td : Hid (TS w.heap.size w4 b 2 1000000 (dropC c2 none) N2 (upd m2 (kk x) none)) := Tc.out.kept hb; have Fd : Hid (FB w4 w.heap.size (w.heap.size + 1) w1.heap.size b (.slice q ys.length cap)) := Fc.out.kept hb; have Kd : Hid (w4.heap[wr.heap.size]? = some (.cells (ints (kk x)).toArray 3 (0, 0))) := (hb.block _ (lt_of_heap Kc.out)).trans Kc.out; have Ad : Hid (ArgI w4 (.slice (some ⟨wr.heap.size, 0, none⟩) 2 2) (kk x)) := argI_heap Kd.out rfl (by decide); have Od : Hid (Below w.heap.size w w4) := chain Oc.out hb (Nat.le_refl _); clear hb; have ctd := Fd.out.t.cell) | (go_at_call 12; (with_reducible refine (get_s Ta.out Aa.out).mono ?_); rw [GN.out, getV_none]; rintro e w2 ⟨rfl, hb⟩; have Tb : Hid (TS w.heap.size w2 b 2 1000000 c2 N2 m2) := Ta.out.kept hb; have Fb : Hid (FB w2 w.heap.size (w.heap.size + 1) w1.heap.size b (.slice q ys.length cap)) := Fa.out.kept hb; have Kb : Hid (w2.heap[wr.heap.size]? = some (.cells (ints (kk x)).toArray 3 (0, 0))) := (hb.block _ (lt_of_heap Ka.out)).trans Ka.out; have Ab : Hid (ArgI w2 (.slice (some ⟨wr.heap.size, 0, none⟩) 2 2) (kk x)) := argI_heap Kb.out rfl (by decide); have Ob : Hid (Below w.heap.size w w2) := chain Oa.out hb (Nat.le_refl _); clear hb; have ctb := Fb.out.t.cell) | (go_at_call 11; (with_reducible refine (len_s Tc.out).mono ?_); rintro e w9 ⟨rfl, h9⟩; subst w9) | (go_at_call 11; (with_reducible refine (len_s Tb.out).mono ?_); rintro e w9 ⟨rfl, h9⟩; subst w9) | (go_at_call 21; (with_reducible refine (drop_s Tb.out Ab.out).mono ?_); rw [GN.out]; rintro e w3 ⟨rfl, hT, hO⟩; have Tc : Hid (TS w.heap.size w3 b 2 1000000 (dropC c2 none) N2 (upd m2 (kk x) none)) := hT; have Fc : Hid (FB w3 w.heap.size (w.heap.size + 1) w1.heap.size b (.slice q ys.length cap)) := Fb.out.ki hO.ki; have Kc : Hid (w3.heap[wr.heap.size]? = some (.cells (ints (kk x)).toArray 3 (0, 0))) := hO.ki _ _ _ (by decide) (by decide) Kb.out; have Ac : Hid (ArgI w3 (.slice (some ⟨wr.heap.size, 0, none⟩) 2 2) (kk x)) := argI_heap Kc.out rfl (by decide); have Oc : Hid (Below w.heap.size w w3) := Ob.out.trans hO.below; clear hT hO; have ctc := Fc.out.t.cell)
                go_roundw
                case rel => exact ⟨k2 + 1, dropC c2 none, N2, (upd m2 (kk x) none), by omega, by omega, by go_num, PL.out.drop _, Td.out, Fd.out, Od.out⟩
                case measure => simp [intOf]; omega
            | some y =>
              as_aux_lemma =>
                have GN : Hid (m2 (kk x) = some y) := hmk
                have hc0 := Ta.out.pos hmk
                clear hmk
                have b1 : (true != true) = false := rfl
                have b2 : (((dropC c2 (some y) : Nat) : Int) != (c2 : Int) - 1) = false := by unfold dropC; simp; omega
                have hcb : c2 ≤ 1000000 := Nat.le_trans Ta.out.few Ta.out.le_M
                go_wp2_with first | (go_at_call 12; (with_reducible refine (get_s Tc.out Ac.out).mono ?_); rw [G2.out, getV_none]; rintro e w4 ⟨rfl, hb⟩; have Td : Hid (TS w.heap.size w4 b 2 1000000 (dropC c2 (some y)) N2 (upd m2 (kk x) none)) := Tc.out.kept hb; have Fd : Hid (FB w4 w.heap.size (w.heap.size + 1) w1.heap.size b (.slice q ys.length cap)) := Fc.out.kept hb; have Kd : Hid (w4.heap[wr.heap.size]? = some (.cells (ints (kk x)).toArray 3 (0, 0))) := (hb.block _ (lt_of_heap Kc.out)).trans Kc.out; have Ad : Hid (ArgI w4 (.slice (some ⟨wr.heap.size, 0, none⟩) 2 2) (kk x)) := argI_heap Kd.out rfl (by decide); have Od : Hid (Below w.heap.size w w4) := chain Oc.out hb (Nat.le_refl _); clear hb; have ctd := Fd.out.t.cell) | (go_at_call 12; (with_reducible refine (get_s Ta.out Aa.out).mono ?_); rw [GN.out, getV_some]; rintro e w2 ⟨rfl, hb⟩; have Tb : Hid (TS w.heap.size w2 b 2 1000000 c2 N2 m2) := Ta.out.kept hb; have Fb : Hid (FB w2 w.heap.size (w.heap.size + 1) w1.heap.size b (.slice q ys.length cap)) := Fa.out.kept hb; have Kb : Hid (w2.heap[wr.heap.size]? = some (.cells (ints (kk x)).toArray 3 (0, 0))) := (hb.block _ (lt_of_heap Ka.out)).trans Ka.out; have Ab : Hid (ArgI w2 (.slice (some ⟨wr.heap.size, 0, none⟩) 2 2) (kk x)) := argI_heap Kb.out rfl (by decide); have Ob : Hid (Below w.heap.size w w2) := chain Oa.out hb (Nat.le_refl _); clear hb; have ctb := Fb.out.t.cell) | (go_at_call 11; (with_reducible refine (len_s Tc.out).mono ?_); rintro e w9 ⟨rfl, h9⟩; subst w9) | (go_at_call 11; (with_reducible refine (len_s Tb.out).mono ?_); rintro e w9 ⟨rfl, h9⟩; subst w9) | (go_at_call 21; (with_reducible refine (drop_s Tb.out Ab.out).mono ?_); rw [GN.out]; rintro e w3 ⟨rfl, hT, hO⟩; have Tc : Hid (TS w.heap.size w3 b 2 1000000 (dropC c2 (some y)) N2 (upd m2 (kk x) none)) := hT; have Fc : Hid (FB w3 w.heap.size (w.heap.size + 1) w1.heap.size b (.slice q ys.length cap)) := Fb.out.ki hO.ki; have Kc : Hid (w3.heap[wr.heap.size]? = some (.cells (ints (kk x)).toArray 3 (0, 0))) := hO.ki _ _ _ (by decide) (by decide) Kb.out; have Ac : Hid (ArgI w3 (.slice (some ⟨wr.heap.size, 0, none⟩) 2 2) (kk x)) := argI_heap Kc.out rfl (by decide); have Oc : Hid (Below w.heap.size w w3) := Ob.out.trans hO.below; clear hT hO; have ctc := Fc.out.t.cell)
                go_roundw
                case rel => exact ⟨k2 + 1, dropC c2 (some y), N2, (upd m2 (kk x) none), by omega, by omega, by go_num, PL.out.drop _, Td.out, Fd.out, Od.out⟩
                case measure => simp [intOf]; omega
          · have hq : ((k2 : Int) < (ds.length : Int) ∧ ¬ (k2 : Int) < 600) ∨ ¬ ((k2 : Int) < (ds.length : Int)) := by omega
            clear hgo
            obtain ⟨pb, P, hTM, hcP, hNP, hbp, hPe⟩ := T.out.ex
            have M0 : Hid (TM wr b pb 2 1000000 P m2) := hTM
            have CP : Hid (cnt P = c2) := hcP
            have BB : Hid (w.heap.size ≤ b ∧ w.heap.size ≤ pb) := ⟨T.out.hb, hbp⟩
            clear hTM hcP hNP hbp hPe T
            have BV : Hid (Below wr.heap.size wr (((wr.alloc (.cells #[.int .i64 0] 3)).alloc (.cells #[.int .i64 0, .int .i64 0] 3)).alloc (.cells #[.slice (some ⟨wr.heap.size + 1, 0, none⟩) 2 2] 34))) := (((Below.refl _ _).alloc (Nat.le_refl _) _).alloc (by simp) _).alloc (by simp; omega) _
            have NB : Hid (Boxed (((wr.alloc (.cells #[.int .i64 0] 3)).alloc (.cells #[.int .i64 0, .int .i64 0] 3)).alloc (.cells #[.slice (some ⟨wr.heap.size + 1, 0, none⟩) 2 2] 34)) wr.heap.size 3 (.int .i64 0)) := ((Boxed.new wr _ _).alloc _).alloc _
            have SB : Hid (Boxed (((wr.alloc (.cells #[.int .i64 0] 3)).alloc (.cells #[.int .i64 0, .int .i64 0] 3)).alloc (.cells #[.slice (some ⟨wr.heap.size + 1, 0, none⟩) 2 2] 34)) (wr.heap.size + 1 + 1) 34 (.slice (some ⟨wr.heap.size + 1, 0, none⟩) 2 2)) := by
              have := Boxed.new ((wr.alloc (.cells #[.int .i64 0] 3)).alloc (.cells #[.int .i64 0, .int .i64 0] 3)) 34 (.slice (some ⟨wr.heap.size + 1, 0, none⟩) 2 2)
              rw [World.size_alloc, World.size_alloc] at this
              exact this
            have ct3 := (F.out.kept BV.out).t.cell
            clear ct
            rcases hq with ⟨j1, j2⟩ | j1
            all_goals
              go_wp2_with (go_at_call 18; refine (all_c b _).mono ?_; rintro e w7 ⟨rfl, h7⟩; subst w7)
              have BV4 : Below wr.heap.size wr ((((wr.alloc (.cells #[.int .i64 0] 3)).alloc (.cells #[.int .i64 0, .int .i64 0] 3)).alloc (.cells #[.slice (some ⟨wr.heap.size + 1, 0, none⟩) 2 2] 34)).alloc (.cells #[.pointer (some ⟨b, 0, none⟩)] 23)) := BV.out.alloc BV.out.size _
              have NB4 := NB.out.alloc (.cells #[.pointer (some ⟨b, 0, none⟩)] 23)
              have SB4 := SB.out.alloc (.cells #[.pointer (some ⟨b, 0, none⟩)] 23)
              have AB4 := Boxed.new (((wr.alloc (.cells #[.int .i64 0] 3)).alloc (.cells #[.int .i64 0, .int .i64 0] 3)).alloc (.cells #[.slice (some ⟨wr.heap.size + 1, 0, none⟩) 2 2] 34)) 23 (.pointer (some ⟨b, 0, none⟩))
              simp only [World.size_alloc] at AB4
              obtain ⟨V4, hV4⟩ : ∃ V4, ((((wr.alloc (.cells #[.int .i64 0] 3)).alloc (.cells #[.int .i64 0, .int .i64 0] 3)).alloc (.cells #[.slice (some ⟨wr.heap.size + 1, 0, none⟩) 2 2] 34)).alloc (.cells #[.pointer (some ⟨b, 0, none⟩)] 23)) = V4 := ⟨_, rfl⟩
              rw [hV4] at BV4 NB4 SB4 AB4 ⊢
              clear hV4 NB SB BV ct3
              have M4 : TM V4 b pb 2 1000000 P m2 := M0.out.kept BV4
              have F4 : FB V4 w.heap.size (w.heap.size + 1) w1.heap.size b (.slice q ys.length cap) := F.out.kept BV4
              have O4 : Below w.heap.size w V4 := chain O.out BV4 (Nat.le_refl _)
              have hs0 := O.out.size
              have hs4 := BV4.size
              have hs5 := SB4.lt
              have KB4 : Hid (∀ k, kblk P k → k < wr.heap.size) := fun k hk => kblk_lt M0.out hk
              refine (wpIn_wide (n := n)).1 ?_
              refine all_range hn 171 172 24 25 (wr.heap.size + 1 + 1 + 1) rfl rfl AB4 M4
                (FI w wr.heap.size (wr.heap.size + 1 + 1) w.heap.size (w.heap.size + 1) w1.heap.size b (.slice q ys.length cap) pb P m2) (fun _ _ _ => False)
                (FI.own (by omega)) (fun _ _ _ _ _ h _ _ => h)
                ⟨NB4, ⟨_, SB4, fun z hz => by simp at hz⟩, F4, M4, O4⟩ ?_ ?_ ?_ ?_
              · intro l x W K hK
                gi_wp2
                exact hK
              · rintro l pre ⟨gx, key, val⟩ V hFI ⟨hk1, hk2, hk3, hpc, hpre⟩
                have hmk : m2 key = some val := hpre.there (key, val) (by simp)
                obtain ⟨j, rfl, hjl, x', hx', rfl⟩ := PL.out key val hmk
                obtain ⟨g, off, rfl, hg, hcj⟩ := YZ.out j x' hx'
                have FIH : Hid (FI w wr.heap.size (wr.heap.size + 1 + 1) w.heap.size (w.heap.size + 1) w1.heap.size b (.slice (some ⟨g, off, none⟩) ys.length cap) pb P m2 pre V) := hFI
                have AK : Hid (ArgI V (.slice (some ⟨gx, 0, none⟩) 2 2) (kk x')) := argI_heap hk1 rfl (by decide)
                have HK1 : Hid (V.heap[gx]? = some (.cells (ints (kk x')).toArray 3 (0, 0)) ∧ V4.heap.size ≤ gx) := ⟨hk1, hk2⟩
                have GM : Hid (m2 (kk x') = some (j : Int)) := hmk
                have cj := (hFI.bel.cell (p := ⟨g, off + j, none⟩) hg).trans hcj
                have ct := hFI.fb.t.cell
                have cl := hFI.fb.l.cell
                have cn := hFI.n.cell
                have fn := hFI.n.frozen
                have ckx : V.cell? ⟨gx, 0, none⟩ = some (.int .i64 x') := cell_row hk1 (i := 0) rfl
                have f0 : (0 : Int) ≤ (j : Int) := by omega
                have f1 : (j : Int) < (ys.length : Int) := by omega
                have e1 : ((j : Int) != (j : Int)) = false := by simp
                have e4 : ¬ ((j : Int) < 0) := by omega
                have e5 : ¬ ((ys.length : Int) ≤ (j : Int)) := by omega
                have e6 : (x' != x') = false := by simp
                have hpl : pre.length ≤ 1000000 := by have := M0.out.few; omega
                have hP0 : P ≠ [] := by rintro rfl; simp [cnt] at hpc
                have ND : Hid (wr.heap.size ≠ wr.heap.size + 1 + 1 ∧ wr.heap.size < V4.heap.size ∧ wr.heap.size + 1 + 1 < V4.heap.size ∧ (w.heap.size ≤ wr.heap.size ∧ w.heap.size ≤ wr.heap.size + 1 + 1) ∧ (∀ k, kblk P k → k < wr.heap.size ∧ k < wr.heap.size + 1 + 1) ∧
                    (w.heap.size ≠ wr.heap.size ∧ w.heap.size ≠ wr.heap.size + 1 + 1 ∧ w.heap.size + 1 ≠ wr.heap.size ∧ w.heap.size + 1 ≠ wr.heap.size + 1 + 1 ∧ w1.heap.size ≠ wr.heap.size ∧ w1.heap.size ≠ wr.heap.size + 1 + 1 ∧ b ≠ wr.heap.size ∧ b ≠ wr.heap.size + 1 + 1 ∧ pb ≠ wr.heap.size ∧ pb ≠ wr.heap.size + 1 + 1)) := by
                  have q1 := F.out.l.lt
                  have q2 := F.out.r.lt
                  have q3 := F.out.t.lt
                  have q4 := M0.out.t.ltb
                  have q5 := M0.out.t.ltp hP0
                  exact ⟨by omega, by omega, by omega, by omega, fun k hk => by have := KB4.out k hk; omega, by omega⟩
                clear hpc hP0
                have hgV : g < V.heap.size := Nat.lt_of_lt_of_le hg hFI.bel.size
                have hxV : gx < V.heap.size := lt_of_heap hk1
                have htV := hFI.fb.t.lt
                have hlV := hFI.fb.l.lt
                have hnV := hFI.n.lt
                obtain ⟨uu, hu1, hu2⟩ := hFI.last
                have cs := hu1.cell
                have fs := hu1.frozen
                have hsV := hu1.lt
                simp only [roundAct2, List.setIfInBounds_toArray, List.set_cons_succ, List.set_cons_zero, kk_len]
                rcases List.eq_nil_or_concat pre with rfl | ⟨p', z, hpp⟩
                · as_aux_lemma =>
                    have US : Hid (Boxed V (wr.heap.size + 1 + 1) 34 uu) := hu1
                    clear hu1 hu2 hFI hk1 hk2 hk3 hpre hmk hx' hcj
                    gi_wp2_with (gi_at_call 12; refine (CallsIn.inRound l (callsIn_wide.2 (get_p FIH.out.t.t FIH.out.t.p FIH.out.t.m AK.out))).mono ?_; rw [GM.out, getV_some]; rintro e W2 ⟨rfl, hb⟩; have B2 : Hid (Below V.heap.size V W2) := hb; clear hb; have ct2 := (B2.out.cell (p := ⟨w1.heap.size, 0, none⟩) htV).trans ct; have cl2 := (B2.out.cell (p := ⟨w.heap.size, 0, none⟩) hlV).trans cl; have cj2 := (B2.out.cell (p := ⟨g, off + j, none⟩) hgV).trans cj; have cx2 := (B2.out.cell (p := ⟨gx, 0, none⟩) hxV).trans ckx; have cn2 := (B2.out.cell (p := ⟨wr.heap.size, 0, none⟩) hnV).trans cn; have cs2 := (B2.out.cell (p := ⟨wr.heap.size + 1 + 1, 0, none⟩) hsV).trans cs; have z2 := B2.out.size; clear ct cl cj ckx cn cs)
                    have l1 : g < W2.heap.size := Nat.lt_of_lt_of_le hgV z2
                    have l2 : gx < W2.heap.size := Nat.lt_of_lt_of_le hxV z2
                    have l3 : w.heap.size < W2.heap.size := Nat.lt_of_lt_of_le hlV z2
                    have l4 : wr.heap.size < W2.heap.size := Nat.lt_of_lt_of_le hnV z2
                    have l5 : wr.heap.size + 1 + 1 < W2.heap.size := Nat.lt_of_lt_of_le hsV z2
                    have d4 : decide ((j : Int) < 0) = false := by simp
                    have d5 : decide (ys.length ≤ j) = false := by simp; omega
                    have d6 : (x' != x') = false := by simp
                    have d8 : decide ((0 : Int) > 0) = false := by decide
                    have cn3 : W2.cell? ⟨wr.heap.size, 0, none⟩ = some (.int .i64 0) := cn2
                    clear cn2
                    refine wpIn_region_ext (by kernel_rfl) (by kernel_rfl) (by kernel_rfl) (fun ⟨_, _, h⟩ => h) ?_
                    repeat (go_big_quiet_step (first | exact rfl))
                    refine wpQuiet_nil ?_
                    intro W5 hw
                    have B5 : Hid (Below V.heap.size V W5) := chain B2.out (ext_of hw) (Nat.le_refl _)
                    clear hw ct2 cl2 cj2 cx2 cn3 cs2
                    have cn5 := (B5.out.cell (p := ⟨wr.heap.size, 0, none⟩) hnV).trans FIH.out.n.cell
                    have fn5 := (B5.out.frozen (p := ⟨wr.heap.size, 0, none⟩) hnV).trans fn
                    have cs5 := (boxed_kept US.out B5.out).cell
                    have fs5 := (boxed_kept US.out B5.out).frozen
                    gi_wp2
                    obtain ⟨n1, n2, n3, n4, n5, n6⟩ := ND.out
                    exact FI.next (x := (gx, kk x', (j : Int))) FIH.out B5.out HK1.out.1 n1 n2 n3 HK1.out.2 n4 n5 n6
                · as_aux_lemma =>
                    rw [List.concat_eq_append] at hpp
                    subst hpp
                    obtain ⟨gz, kz, vz⟩ := z
                    obtain ⟨rfl, huz⟩ := hu2 (gz, kz, vz) (by simp)
                    obtain ⟨_, _, _, y', _, rfl⟩ := PL.out kz vz (hpre.there (kz, vz) (by simp))
                    have hxy : y' < x' := by
                      have hr := hpre.rise
                      unfold RisingK at hr
                      simp only [List.map_append, List.map_cons, List.map_nil, List.pairwise_append] at hr
                      exact kk_lt (hr.2.2 (kk y', vz) (by simp) (kk x', (j : Int)) (by simp))
                    have US : Hid (Boxed V (wr.heap.size + 1 + 1) 34 (.slice (some ⟨gz, 0, none⟩) 2 2)) := hu1
                    have cz : V.cell? ⟨gz, 0, none⟩ = some (.int .i64 y') := cell_row huz (i := 0) rfl
                    have hzV : gz < V.heap.size := lt_of_heap huz
                    have HL : Hid (0 < (p' ++ [(gz, kk y', vz)]).length) := (by simp : 0 < (p' ++ [(gz, kk y', vz)]).length)
                    obtain ⟨L, hL⟩ : ∃ L, (p' ++ [(gz, kk y', vz)]).length = L := ⟨_, rfl⟩
                    have LE : Hid ((p' ++ [(gz, kk y', vz)]).length = L) := hL
                    rw [hL] at cn hpl
                    have CS : Hid (V.cell? ⟨wr.heap.size + 1 + 1, 0, none⟩ = some (.slice (some ⟨gz, 0, none⟩) 2 2)) := cs
                    clear hu1 hu2 huz hFI hk1 hk2 hk3 hpre hmk hx' hcj hL cs
                    gi_wp2_with (gi_at_call 12; refine (CallsIn.inRound l (callsIn_wide.2 (get_p FIH.out.t.t FIH.out.t.p FIH.out.t.m AK.out))).mono ?_; rw [GM.out, getV_some]; rintro e W2 ⟨rfl, hb⟩; have B2 : Hid (Below V.heap.size V W2) := hb; clear hb; have ct2 := (B2.out.cell (p := ⟨w1.heap.size, 0, none⟩) htV).trans ct; have cl2 := (B2.out.cell (p := ⟨w.heap.size, 0, none⟩) hlV).trans cl; have cj2 := (B2.out.cell (p := ⟨g, off + j, none⟩) hgV).trans cj; have cx2 := (B2.out.cell (p := ⟨gx, 0, none⟩) hxV).trans ckx; have cn2 := (B2.out.cell (p := ⟨wr.heap.size, 0, none⟩) hnV).trans cn; have cs2 := (B2.out.cell (p := ⟨wr.heap.size + 1 + 1, 0, none⟩) hsV).trans CS.out; have cz2 := (B2.out.cell (p := ⟨gz, 0, none⟩) hzV).trans cz; have z2 := B2.out.size; clear ct cl cj ckx cz cn)
                    have l1 : g < W2.heap.size := Nat.lt_of_lt_of_le hgV z2
                    have l2 : gx < W2.heap.size := Nat.lt_of_lt_of_le hxV z2
                    have l3 : w.heap.size < W2.heap.size := Nat.lt_of_lt_of_le hlV z2
                    have l4 : wr.heap.size < W2.heap.size := Nat.lt_of_lt_of_le hnV z2
                    have l5 : wr.heap.size + 1 + 1 < W2.heap.size := Nat.lt_of_lt_of_le hsV z2
                    have l6 : gz < W2.heap.size := Nat.lt_of_lt_of_le hzV z2
                    have d4 : decide ((j : Int) < 0) = false := by simp
                    have d5 : decide (ys.length ≤ j) = false := by simp; omega
                    have d6 : (x' != x') = false := by simp
                    have d7 : decide (x' ≤ y') = false := by simp; omega
                    have d8 : (0 : Int) < (L : Int) := by have := HL.out; have := LE.out; omega
                    have d9 : 0 < L := by omega
                    refine wpIn_region_ext (by kernel_rfl) (by kernel_rfl) (by kernel_rfl) (fun ⟨_, _, h⟩ => h) ?_
                    repeat (go_big_quiet_step (first | exact rfl))
                    refine wpQuiet_nil ?_
                    intro W5 hw
                    have B5 : Hid (Below V.heap.size V W5) := chain B2.out (ext_of hw) (Nat.le_refl _)
                    have cn5 := (ext_of hw).cell (p := ⟨wr.heap.size, 0, none⟩) l4 |>.trans cn2
                    clear hw ct2 cl2 cj2 cx2 cn2 cs2 cz2
                    have fn5 := (B5.out.frozen (p := ⟨wr.heap.size, 0, none⟩) hnV).trans fn
                    have cs5 := (boxed_kept US.out B5.out).cell
                    have fs5 := (boxed_kept US.out B5.out).frozen
                    gi_wp2
                    obtain ⟨n1, n2, n3, n4, n5, n6⟩ := ND.out
                    have FN := FI.next (x := (gx, kk x', (j : Int))) FIH.out B5.out HK1.out.1 n1 n2 n3 HK1.out.2 n4 n5 n6
                    rw [LE.out] at FN
                    exact FN
              · as_aux_lemma =>
                  intro D xs V hD hall hFI hK
                  have hlen : xs.length = c2 := by have := hall.len; rw [List.length_map, CP.out] at this; exact this
                  have TV : Hid (TM V b pb 2 1000000 P m2) := hFI.t
                  have BVV : Hid (Below w.heap.size w V) := hFI.bel
                  have HK : Hid (V.heap[D]? = some (.deferred (some []))) := hK
                  have RV : Hid (Boxed V (w.heap.size + 1) 4 (.bool false)) := hFI.fb.r
                  have cn : V.cell? ⟨wr.heap.size, 0, none⟩ = some (.int .i64 (c2 : Nat)) := by rw [← hlen]; exact hFI.n.cell
                  have ct := hFI.fb.t.cell
                  have cr := hFI.fb.r.cell
                  have fr := hFI.fb.r.frozen
                  clear hall hFI hK
                  simp only [behindAct]
                  have e9 : ((c2 : Int) == (c2 : Int)) = true := by simp
                  have HCP : Hid (cnt P = c2) := CP.out
                  go_wp2
                  go_region_with (go_at_call 11; first | (with_reducible refine (len_c TV.out.t).mono ?_) | (with_reducible refine (len_c (TV.out.kept (Below.refl _ _).drew).t).mono ?_); rw [HCP.out]; rintro e w9 ⟨rfl, h9⟩; subst w9)
                  all_goals
                    have hDr : w.heap.size + 1 < D := by have := F.out.r.lt; omega
                    have HB : Hid (Below w.heap.size w (V.setCell ⟨w.heap.size + 1, 0, none⟩ (.bool true)).drew) := (BVV.out.setCell (by simp) _).drew
                    have HK2 : Hid ((V.setCell ⟨w.heap.size + 1, 0, none⟩ (.bool true)).drew.heap[D]? = some (.deferred (some []))) := (Below.heap_setCell _ _ _ _ (by simp; omega)).trans HK.out
                    have HR2 : Hid (Boxed (V.setCell ⟨w.heap.size + 1, 0, none⟩ (.bool true)).drew (w.heap.size + 1) 4 (.bool true)) := boxed_kept (RV.out.set _) (Below.refl _ _).drew
                    go_wp2
                    refine ⟨by simp, .inl ⟨_, _, rfl, run_takeDeferred HK2.out, ?_⟩⟩
                    have cr := (boxed_same (W' := (V.setCell ⟨w.heap.size + 1, 0, none⟩ (.bool true)).drew.putObj D (.deferred none)) HR2.out (World.putObj_heap_other (by omega))).cell
                    exact ⟨.bool true, by simp [results, Try.results5, go_sem, cr], rfl, HB.out.trans (belowK_b (w := w) (Nat.le_refl _) _ D _ _ (by omega) HK2.out rfl rfl)⟩
              · intro D c pre W _ _ h
                exact h.elim

theorem law_follows (zs : List Int) (v : Value) (ds : List Int) (v2 : Value) (w : World) (hz : ArgI w v zs) (hd : ArgI w v2 ds) :
    Calls Try.prog 5 #[v, v2] w fun e W' => e = .returned (.bool true) ∧ Below w.heap.size w W' := callsIn_wide.1 (follows_in 3 (Nat.le_refl _) zs v ds v2 w hz hd)
end Go.Proofs.Ytcagmagbonfipaa
