/-
  ParseGroup of long texts, of patterns that are refused; of any.
-/
import Derived.Test.YtpfdapnfkghgkaaGreatDoorGroupProof9B0
namespace Go.Proofs.YtpfdapnfkghgkaaGreatDoor
open Go Go.RowKit
attribute [local go_sem] ext_cell

set_option maxRecDepth 100000 in
set_option maxHeartbeats 4000000 in
theorem group_long {w : World} (hG : Glb w) (a b : ByteArray) (m : Md) (hsz : 900 < a.size + b.size) (hla : a.size ≤ 4611686018427387904) (hlb : b.size ≤ 4611686018427387903) :
    Calls Tryz.prog 4 #[.string a, .string b, .agg #[.bool m.c, .bool m.f]] w fun e w' => e = .returned (.bool true) ∧ Below w.heap.size w w' := by
  have BX : Hid (Below w.heap.size w (boxM9 w m)) := (Below.refl _ _).alloc (Nat.le_refl _) _
  have HE := hide (examples9_c (hG.kept BX.out))
  have n900 : (900 : Int) < (a.size : Int) + (b.size : Int) := by omega
  clear hG hsz
  go_enter Tryz.func4, Tryz.ntmps4
  go_wp2_with (go_at_call 8; (with_reducible refine (HE.out).mono ?_); rintro e w1 ⟨rfl, h1⟩; have X1 := hide (chain BX.out h1 (Nat.le_refl _)); clear h1)
  go_ret
  exact ⟨by simp, X1.out⟩
set_option maxRecDepth 100000 in
set_option maxHeartbeats 4000000 in
theorem group_bad1 {w : World} (hG : Glb w) (a b : ByteArray) (m : Md) (hsz : a.size + b.size ≤ 900) {c p : Nat} (ha : ∀ W, Below w.heap.size w W → PCall a m W (ParseErr W c p))
    (hb : (∃ c' p', ∀ W, Below w.heap.size w W → PCall b m W (ParseErr W c' p')) ∨ ∃ x, ∀ W, Below w.heap.size w W → PCall b m W (ParseOk W x)) :
    Calls Tryz.prog 4 #[.string a, .string b, .agg #[.bool m.c, .bool m.f]] w fun e w' => e = .returned (.bool true) ∧ Below w.heap.size w w' := by
  have BX : Hid (Below w.heap.size w (boxM9 w m)) := (Below.refl _ _).alloc (Nat.le_refl _) _
  have HE := hide (examples9_c (hG.kept BX.out))
  have HA := hide ha
  have M0 := hide (seesM_new w m)
  have n900 : ¬ (900 : Int) < (a.size : Int) + (b.size : Int) := by omega
  clear hG ha
  rcases hb with ⟨c', p', hb⟩ | ⟨x, hb⟩
  · have HB := hide hb
    clear hb
    go_enter Tryz.func4, Tryz.ntmps4
    go_wp2_with first
      | (go_at_call 8; (with_reducible refine (HE.out).mono ?_); rintro e w1 ⟨rfl, h1⟩; have X1 := hide (chain BX.out h1 (Nat.le_refl _)); have M1 := hide (M0.out.kept h1); obtain ⟨ml, m0, m1⟩ := M1.out; clear h1)
      | (go_at_call 9; (with_reducible refine (HB.out _ X2.out).mono ?_); rintro e w3 ⟨g3, h1, rfl, h2, h3⟩; have X3 := hide ((chain X2.out h3 (Nat.le_refl _)).alloc (Nat.le_trans X2.out.size h3.size) nodeZ); clear h1 h2 h3)
      | (go_at_call 9; (with_reducible refine (HA.out _ X1.out).mono ?_); rintro e w2 ⟨g2, h1, rfl, h2, h3⟩; have b2 := ((Below.refl w2.heap.size w2).alloc (Nat.le_refl _) nodeZ); have bb := chain h3 b2 (Nat.le_refl _); have X2 := hide (chain X1.out bb (Nat.le_refl _)); have M2 := hide (M1.out.kept bb); obtain ⟨ml, m0, m1⟩ := M2.out; clear h1 h2 h3 b2 bb)
    go_ret
    exact ⟨by simp, X3.out⟩
  · have HB := hide hb
    clear hb
    go_enter Tryz.func4, Tryz.ntmps4
    go_wp2_with first
      | (go_at_call 8; (with_reducible refine (HE.out).mono ?_); rintro e w1 ⟨rfl, h1⟩; have X1 := hide (chain BX.out h1 (Nat.le_refl _)); have M1 := hide (M0.out.kept h1); obtain ⟨ml, m0, m1⟩ := M1.out; clear h1)
      | (go_at_call 9; (with_reducible refine (HB.out _ X2.out).mono ?_); rintro e w3 ⟨ty, rfl, h1, h2, h3, h4⟩; have X3 := hide ((chain X2.out h4 (Nat.le_refl _)).alloc (Nat.le_trans X2.out.size h4.size) (.cells #[.int .i64 ty.f.k, .int .i64 ty.f.n, .int .i64 ty.f.mn, .int .i64 ty.f.mx, .slice ty.f.rq ty.f.rs.length ty.f.rc, .slice ty.f.kq ty.f.kl ty.f.kc] 28)); clear h1 h2 h3 h4)
      | (go_at_call 9; (with_reducible refine (HA.out _ X1.out).mono ?_); rintro e w2 ⟨g2, h1, rfl, h2, h3⟩; have b2 := ((Below.refl w2.heap.size w2).alloc (Nat.le_refl _) nodeZ); have bb := chain h3 b2 (Nat.le_refl _); have X2 := hide (chain X1.out bb (Nat.le_refl _)); have M2 := hide (M1.out.kept bb); obtain ⟨ml, m0, m1⟩ := M2.out; clear h1 h2 h3 b2 bb)
    go_ret
    exact ⟨by simp, X3.out⟩
set_option maxRecDepth 100000 in
set_option maxHeartbeats 4000000 in
theorem group_bad2 {w : World} (hG : Glb w) (a b : ByteArray) (m : Md) (hsz : a.size + b.size ≤ 900) {x : Ps} (ha : ∀ W, Below w.heap.size w W → PCall a m W (ParseOk W x)) {c p : Nat} (hb : ∀ W, Below w.heap.size w W → PCall b m W (ParseErr W c p)) :
    Calls Tryz.prog 4 #[.string a, .string b, .agg #[.bool m.c, .bool m.f]] w fun e w' => e = .returned (.bool true) ∧ Below w.heap.size w w' := by
  have BX : Hid (Below w.heap.size w (boxM9 w m)) := (Below.refl _ _).alloc (Nat.le_refl _) _
  have HE := hide (examples9_c (hG.kept BX.out))
  have HA := hide ha
  have HB := hide hb
  have M0 := hide (seesM_new w m)
  have n900 : ¬ (900 : Int) < (a.size : Int) + (b.size : Int) := by omega
  clear hG ha hb
  go_enter Tryz.func4, Tryz.ntmps4
  go_wp2_with first
    | (go_at_call 8; (with_reducible refine (HE.out).mono ?_); rintro e w1 ⟨rfl, h1⟩; have X1 := hide (chain BX.out h1 (Nat.le_refl _)); have M1 := hide (M0.out.kept h1); obtain ⟨ml, m0, m1⟩ := M1.out; clear h1)
    | (go_at_call 9; (with_reducible refine (HB.out _ X2.out).mono ?_); rintro e w3 ⟨g3, h1, rfl, h2, h3⟩; have X3 := hide ((chain X2.out h3 (Nat.le_refl _)).alloc (Nat.le_trans X2.out.size h3.size) nodeZ); clear h1 h2 h3)
    | (go_at_call 9; (with_reducible refine (HA.out _ X1.out).mono ?_); rintro e w2 ⟨tx, rfl, h1, h2, h3, h4⟩; have b2 := ((Below.refl w2.heap.size w2).alloc (Nat.le_refl _) (.cells #[.int .i64 tx.f.k, .int .i64 tx.f.n, .int .i64 tx.f.mn, .int .i64 tx.f.mx, .slice tx.f.rq tx.f.rs.length tx.f.rc, .slice tx.f.kq tx.f.kl tx.f.kc] 28)); have bb := chain h4 b2 (Nat.le_refl _); have X2 := hide (chain X1.out bb (Nat.le_refl _)); have M2 := hide (M1.out.kept bb); obtain ⟨ml, m0, m1⟩ := M2.out; clear h1 h2 h3 h4 b2 bb)
  go_ret
  exact ⟨by simp, X3.out⟩
theorem grpS_is (s : ByteArray) : (grpS s).data.toList = [92, 40] ++ s.data.toList ++ [92, 41] := by
  show ((⟨#[92, 40]⟩ ++ s ++ ⟨#[92, 41]⟩ : ByteArray)).data.toList = _
  rw [ByteArray.data_append, ByteArray.data_append, Array.toList_append, Array.toList_append]
theorem orS_is (a b : ByteArray) : (orS a b).data.toList = a.data.toList ++ [92, 124] ++ b.data.toList := by
  show ((a ++ ⟨#[92, 124]⟩ ++ b : ByteArray)).data.toList = _
  rw [ByteArray.data_append, ByteArray.data_append, Array.toList_append, Array.toList_append]
theorem law_group9 {w : World} (hG : Glb w) (a b : ByteArray) (m : Md) (hla : a.size ≤ 4611686018427387904) (hlb : b.size ≤ 4611686018427387903) :
    Calls Tryz.prog 4 #[.string a, .string b, .agg #[.bool m.c, .bool m.f]] w fun e w' => e = .returned (.bool true) ∧ Below w.heap.size w w' := by
  rcases Nat.lt_or_ge 900 (a.size + b.size) with hs | hs
  · exact group_long hG a b m hs hla hlb
  rcases parse_any hG a m with ⟨c, p, ha⟩ | ⟨x, T, ha⟩
  · refine group_bad1 hG a b m hs ha ?_
    rcases parse_any hG b m with ⟨c', p', hb⟩ | ⟨y, U, hb⟩
    · exact .inl ⟨c', p', hb⟩
    · exact .inr ⟨y, fun W hW => hb.calls (hG.kept hW)⟩
  · rcases parse_any hG b m with ⟨c', p', hb⟩ | ⟨y, U, hb⟩
    · exact group_bad2 hG a b m hs (fun W hW => ha.calls (hG.kept hW)) hb
    · have h1 := ha.small
      have h2 := hb.small
      have h3 : (orP x y).sz ≤ 2000 := by
        have q := (psz_bound _ (orP_wf ha.wf hb.wf)).1
        rw [orP_flat ha.wf hb.wf, List.length_append, List.length_cons, ha.pfl, hb.pfl, sgns_length, sgns_length] at q
        have := ha.len
        have := hb.len
        omega
      exact group_ok hG a b m hs ha.wf hb.wf (by omega) (by omega) h3 (fun W hW => ha.calls (hG.kept hW)) (fun W hW => hb.calls (hG.kept hW))
        (fun hn hd W hW => by obtain ⟨T', h⟩ := takes_group ha (grpS_is a) (by omega) hn hd; exact h.calls (hG.kept hW))
        (fun hn _ hd he W hW => by obtain ⟨T', h⟩ := takes_or ha hb (orS_is a b) hs hn hd he; exact h.calls (hG.kept hW))
end Go.Proofs.YtpfdapnfkghgkaaGreatDoor
