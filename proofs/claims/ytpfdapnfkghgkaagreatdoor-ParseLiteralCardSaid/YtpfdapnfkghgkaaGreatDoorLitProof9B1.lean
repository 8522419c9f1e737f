/-
  The digits of a number. Units of a text that is put together of two. What Literal makes is right; of two texts it is Cat of both. A text whose special bytes have a backslash ahead: mathematics. ParseGroup. ParseLiteral. (mklit9.py writes it.)
-/
import Derived.Test.YtpfdapnfkghgkaaGreatDoorLitProof9B0
import Derived.Test.YtpfdapnfkghgkaaGreatDoorC18
import Derived.Test.YtpfdapnfkghgkaaGreatDoorC19
import Derived.Test.YtpfdapnfkghgkaaGreatDoorC14
import Derived.Test.YtpfdapnfkghgkaaGreatDoorC17
namespace Go.Proofs.YtpfdapnfkghgkaaGreatDoor
open Go Go.RowKit
attribute [local go_sem] ext_cell

abbrev tenD : ByteArray := ⟨#[48, 49, 50, 51, 52, 53, 54, 55, 56, 57]⟩
theorem ten_ext {r : Nat} (h : r < 10) : tenD.extract r (r + 1) = ⟨#[UInt8.ofNat (48 + r)]⟩ := by
  match r, h with
  | 0, _ => rfl
  | 1, _ => rfl
  | 2, _ => rfl
  | 3, _ => rfl
  | 4, _ => rfl
  | 5, _ => rfl
  | 6, _ => rfl
  | 7, _ => rfl
  | 8, _ => rfl
  | 9, _ => rfl
theorem ba_app (l r : List UInt8) : (⟨l.toArray⟩ : ByteArray) ++ ⟨r.toArray⟩ = ⟨(l ++ r).toArray⟩ := by
  apply ByteArray.ext
  rw [ByteArray.data_append]
  simp
/-- A list of bytes as a text. -/
def ofL (l : List UInt8) : ByteArray := ⟨l.toArray⟩
theorem ofL_size (l : List UInt8) : (ofL l).size = l.length := by simp [ofL, ByteArray.size]
theorem ofL_app (l r : List UInt8) : ofL l ++ ofL r = ofL (l ++ r) := ba_app l r
theorem natD_le {n : Nat} (h : n < 9223372036854775808) : (natD n).length ≤ 19 := natD_len 19 n (by omega) (by omega)
theorem intD_le {z : Int} (h0 : -9223372036854775808 ≤ z) (h1 : z ≤ 9223372036854775807) : (intD z).length ≤ 20 := by
  unfold intD
  split
  · have := natD_le (n := (-(z + 1)).toNat) (by omega)
    simp; omega
  · have := natD_le (n := z.toNat) (by omega)
    omega
set_option maxRecDepth 100000 in
set_option maxHeartbeats 2000000 in
theorem digits_small {n : Nat} (h : n < 10) (w : World) : Calls Tryz.prog 16 #[.int .i64 (n : Int)] w fun e w' => e = .returned (.string (ofL (natD n))) ∧ Below w.heap.size w w' := by
  have e : Hid (tenD.extract n (n + 1) = ofL (natD n)) := (ten_ext h).trans (by rw [natD_small h]; rfl)
  have i0 : ¬ (n : Int) < 0 := by omega
  have i1 : (n : Int) < 10 := by omega
  have i2 : (0 : Int) ≤ (n : Int) := by omega
  have i3 : (n : Int) ≤ (n : Int) + 1 := by omega
  have i4 : (n : Int) + 1 ≤ 10 := by omega
  have i5 : ((n : Int) + 1).toNat = n + 1 := by omega
  have hw : IntKind.wrap .i64 ((n : Int) + 1) = (n : Int) + 1 := wrap_small _ (by omega) (by omega)
  generalize ofL (natD n) = DN at *
  go_enter Tryz.func16, Tryz.ntmps16
  go_wp2
  go_ret
  refine ⟨?_, Below.refl _ _⟩
  exact congrArg (fun x => Ending.returned (.string x)) e.out
set_option maxRecDepth 100000 in
set_option maxHeartbeats 2000000 in
theorem digits_nat : ∀ (k n : Nat), n ≤ k → n < 9223372036854775808 → ∀ w : World, Calls Tryz.prog 16 #[.int .i64 (n : Int)] w fun e w' => e = .returned (.string (ofL (natD n))) ∧ Below w.heap.size w w'
  | k, n, hk, hn, w => by
    by_cases h : n < 10
    · exact digits_small h w
    cases k with
    | zero => omega
    | succ k =>
      obtain ⟨q, hq⟩ : ∃ q, q = n / 10 := ⟨_, rfl⟩
      obtain ⟨r, hr⟩ : ∃ r, r = n % 10 := ⟨_, rfl⟩
      have ih : ∀ W, Calls Tryz.prog 16 #[.int .i64 (q : Int)] W fun e w' => e = .returned (.string (ofL (natD q))) ∧ Below W.heap.size W w' := fun W => digits_nat k q (by omega) (by omega) W
      have e := ten_ext (r := r) (by omega)
      have i0 : ¬ (n : Int) < 0 := by omega
      have i1 : ¬ (n : Int) < 10 := by omega
      have t1 : (n : Int).tdiv 10 = (q : Int) := by rw [Int.tdiv_eq_ediv_of_nonneg (by omega)]; omega
      have t2 : (n : Int).tmod 10 = (r : Int) := by rw [Int.tmod_eq_emod_of_nonneg (by omega)]; omega
      have hw1 : IntKind.wrap .i64 (q : Int) = (q : Int) := wrap_small _ (by omega) (by omega)
      have hw2 : IntKind.wrap .i64 (r : Int) = (r : Int) := wrap_small _ (by omega) (by omega)
      have hw3 : IntKind.wrap .i64 ((r : Int) + 1) = (r : Int) + 1 := wrap_small _ (by omega) (by omega)
      have i2 : (0 : Int) ≤ (r : Int) := by omega
      have i3 : (r : Int) ≤ (r : Int) + 1 := by omega
      have i4 : (r : Int) + 1 ≤ 10 := by omega
      have i5 : ((r : Int) + 1).toNat = r + 1 := by omega
      have E : Hid (ofL (natD q) ++ tenD.extract r (r + 1) = ofL (natD n)) := by
        show _ = _
        rw [e, natD_big h, ← hq, ← hr]
        exact ofL_app (natD q) [UInt8.ofNat (48 + r)]
      have zq : (ofL (natD q)).size ≤ 19 := by rw [ofL_size]; exact natD_le (by omega)
      generalize ofL (natD q) = DQ at *
      generalize ofL (natD n) = DN at *
      have zs : DQ.size + 1 ≤ 9223372036854775807 := by omega
      have zt : (tenD.extract r (r + 1)).size = 1 := by rw [e]; rfl
      have hadd : ∀ W : World, (binOp .add 9 (.string DQ) (.string (tenD.extract r (r + 1)))).run Tryz.prog W = .ok (.string (DQ ++ tenD.extract r (r + 1))) W := fun W => by
        have : DQ.size + (tenD.extract r (r + 1)).size ≤ 9223372036854775807 := by omega
        simp [go_sem]
        omega
      clear hq hr e
      go_enter Tryz.func16, Tryz.ntmps16
      go_wp2
      refine wp_region_ext (by kernel_rfl) (by kernel_rfl) ?_
      repeat (go_big_quiet_step (first | exact rfl | (go_at_call 16; exact ext_call (ih _))))
      refine wpQuiet_nil ?_
      intro w5 hw5
      have B5 : Hid (Below w.heap.size w w5) := ext_of hw5
      clear hw5
      go_wp2
      go_ret
      refine ⟨?_, B5.out⟩
      exact congrArg (fun x => Ending.returned (.string x)) E.out
end Go.Proofs.YtpfdapnfkghgkaaGreatDoor
namespace Go.Proofs.YtpfdapnfkghgkaaGreatDoor
open Go

def sl (s : ByteArray) (p n : Nat) : List UInt8 := (s.data.toList.drop p).take n
theorem decL (s : ByteArray) (p : Nat) : Lib.decodeL (s.data.toList.drop p) = Utf8.decode s p := by
  rw [Lib.decodeL_N, Lib.decode_N, List.length_drop]
  simp only [List.getD_eq_getElem?_getD, List.getElem?_drop, Nat.add_zero]
theorem enc_sl (s : ByteArray) (p : Nat) (hp : p < s.size) (hb : bad s p = false) : Lib.encodeRune ((Utf8.decode s p).1 : Int) = sl s p (wd s p) := by
  have hne : s.data.toList.drop p ≠ [] := by
    intro e
    have := congrArg List.length e
    rw [List.length_drop, size_list] at this
    simp at this; omega
  have := Lib.encode_decode (s.data.toList.drop p) hne (by
    rw [decL]
    rintro ⟨h1, h2⟩
    have : bad s p = true := by
      unfold bad
      rw [decide_eq_true_eq]
      exact Prod.ext h1 h2
    rw [hb] at this; cases this)
  rw [decL] at this
  exact this
theorem dec_valid (s : ByteArray) (p : Nat) : Lib.validRune ((Utf8.decode s p).1 : Int) = true := by
  have q0 := bt_lt s p
  rw [dec_eq]
  unfold Lib.validRune
  rw [decide_eq_true_eq]
  rcases decN_cases (s.size - p) (bt s p) (bt s (p + 1)) (bt s (p + 2)) (bt s (p + 3)) with k | ⟨_, k⟩ | ⟨_, _, _, _, k⟩ | ⟨_, _, _, _, _, _, k⟩ | ⟨_, _, _, _, _, _, _, k⟩
  all_goals (rw [k]; simp only; omega)
theorem sl_bt {s : ByteArray} {p n i : Nat} {l : List UInt8} (h : sl s p n = l) (hi : i < l.length) : bt s (p + i) = (l[i]).toNat ∧ i < s.size - p := by
  have hl : i < ((s.data.toList.drop p).take n).length := by rw [show (s.data.toList.drop p).take n = l from h]; exact hi
  have hl' := hl
  rw [List.length_take, List.length_drop, size_list] at hl'
  have e : l[i]? = s.data.toList[p + i]? := by
    rw [← h, sl, List.getElem?_take_of_lt (by omega), List.getElem?_drop]
  rw [List.getElem?_eq_getElem hi] at e
  refine ⟨?_, by omega⟩
  unfold bt
  rw [List.getD_eq_getElem?_getD, ← e]
  rfl
theorem dec_of_enc {s : ByteArray} {p : Nat} {c : Int} (hc : 0 ≤ c ∧ c ≤ 1114111 ∧ (c < 55296 ∨ 57343 < c)) (h : sl s p (Lib.encodeRune c).length = Lib.encodeRune c) : ((Utf8.decode s p).1 : Int) = c ∧ wd s p = (Lib.encodeRune c).length ∧ bad s p = false := by
  obtain ⟨r0, r1, r2⟩ := hc
  have key : ∀ (m : Nat), Utf8.decode s p = (c.toNat, m) → (c.toNat, m) ≠ ((65533, 1) : Nat × Nat) → ((Utf8.decode s p).1 : Int) = c ∧ wd s p = m ∧ bad s p = false := fun m e hne => by
    refine ⟨by rw [e]; simp only; omega, by unfold wd; rw [e], ?_⟩
    unfold bad
    rw [e]
    simpa using hne
  by_cases h1 : c ≤ 127
  · have hE : Lib.encodeRune c = [c].map fun x => x.toNat.toUInt8 := by rw [Lib.encodeRune, Lib.encodeRuneZ_one r0 h1]
    rw [hE] at h ⊢
    obtain ⟨b0, s0⟩ := sl_bt h (i := 0) (by simp)
    simp at b0
    refine key 1 ?_ (by simp; omega)
    rw [dec_eq]
    have : bt s p = c.toNat := by omega
    rw [this]
    unfold Lib.decodeN
    rw [if_pos (by omega)]
  by_cases h2 : c ≤ 2047
  · have hE : Lib.encodeRune c = [192 + c / 64, 128 + c % 64].map fun x => x.toNat.toUInt8 := by rw [Lib.encodeRune, Lib.encodeRuneZ_two (by omega) h2]
    rw [hE] at h ⊢
    obtain ⟨b0, s0⟩ := sl_bt h (i := 0) (by simp)
    obtain ⟨b1, s1⟩ := sl_bt h (i := 1) (by simp)
    simp at b0 b1
    refine key 2 ?_ (by simp)
    rw [dec_eq]
    have e0 : bt s p = 192 + c.toNat / 64 := by omega
    have e1 : bt s (p + 1) = 128 + c.toNat % 64 := by omega
    have hl : c.toNat ≤ 2047 := by omega
    have hg : 128 ≤ c.toNat := by omega
    rw [e0, e1]
    generalize c.toNat = m at *
    unfold Lib.decodeN
    rw [if_neg (by omega), if_pos (by omega), if_pos (by omega)]
    apply Prod.ext <;> simp only <;> omega
  by_cases h3 : c ≤ 65535
  · have hE : Lib.encodeRune c = [224 + c / 4096, 128 + c / 64 % 64, 128 + c % 64].map fun x => x.toNat.toUInt8 := by rw [Lib.encodeRune, Lib.encodeRuneZ_three (by omega)]
    rw [hE] at h ⊢
    obtain ⟨b0, s0⟩ := sl_bt h (i := 0) (by simp)
    obtain ⟨b1, s1⟩ := sl_bt h (i := 1) (by simp)
    obtain ⟨b2, s2⟩ := sl_bt h (i := 2) (by simp)
    simp at b0 b1 b2
    refine key 3 ?_ (by simp)
    rw [dec_eq]
    have e0 : bt s p = 224 + c.toNat / 4096 := by omega
    have e1 : bt s (p + 1) = 128 + c.toNat / 64 % 64 := by omega
    have e2 : bt s (p + 2) = 128 + c.toNat % 64 := by omega
    have hl : c.toNat ≤ 65535 := by omega
    have hg : 2048 ≤ c.toNat := by omega
    have hv : c.toNat < 55296 ∨ 57344 ≤ c.toNat := by omega
    rw [e0, e1, e2]
    generalize c.toNat = m at *
    unfold Lib.decodeN
    rw [if_neg (by omega), if_neg (by omega), if_pos (by omega), if_pos (by omega)]
    apply Prod.ext <;> simp only <;> omega
  · have hE : Lib.encodeRune c = [240 + c / 262144, 128 + c / 4096 % 64, 128 + c / 64 % 64, 128 + c % 64].map fun x => x.toNat.toUInt8 := by rw [Lib.encodeRune, Lib.encodeRuneZ_four (by omega) (by omega)]
    rw [hE] at h ⊢
    obtain ⟨b0, s0⟩ := sl_bt h (i := 0) (by simp)
    obtain ⟨b1, s1⟩ := sl_bt h (i := 1) (by simp)
    obtain ⟨b2, s2⟩ := sl_bt h (i := 2) (by simp)
    obtain ⟨b3, s3⟩ := sl_bt h (i := 3) (by simp)
    simp at b0 b1 b2 b3
    refine key 4 ?_ (by simp)
    rw [dec_eq]
    have e0 : bt s p = 240 + c.toNat / 262144 := by omega
    have e1 : bt s (p + 1) = 128 + c.toNat / 4096 % 64 := by omega
    have e2 : bt s (p + 2) = 128 + c.toNat / 64 % 64 := by omega
    have e3 : bt s (p + 3) = 128 + c.toNat % 64 := by omega
    have hl : c.toNat ≤ 1114111 := by omega
    have hg : 65536 ≤ c.toNat := by omega
    rw [e0, e1, e2, e3]
    generalize c.toNat = m at *
    unfold Lib.decodeN
    rw [if_neg (by omega), if_neg (by omega), if_neg (by omega), if_pos (by omega), if_pos (by omega)]
    apply Prod.ext <;> simp only <;> omega
theorem uFrom_fuel (s : ByteArray) : ∀ f f' p, s.size ≤ p + f → s.size ≤ p + f' → uFrom s f p = uFrom s f' p
  | 0, f', p, h, _ => by rw [uFrom_end s 0 p (by omega), uFrom_end s f' p (by omega)]
  | f + 1, 0, p, _, h => by rw [uFrom_end s 0 p (by omega), uFrom_end s _ p (by omega)]
  | f + 1, f' + 1, p, h1, h2 => by
    by_cases hp : p < s.size
    · have := wd_pos s p
      rw [uFrom_more s f p hp, uFrom_more s f' p hp, uFrom_fuel s f f' (p + wd s p) (by omega) (by omega)]
    · rw [uFrom_end s _ _ hp, uFrom_end s _ _ hp]

theorem app_list (a b : ByteArray) : (a ++ b).data.toList = a.data.toList ++ b.data.toList := by simp
theorem app_size (a b : ByteArray) : (a ++ b).size = a.size + b.size := by rw [← size_list, app_list, List.length_append, size_list, size_list]
theorem bt_right (a b : ByteArray) (i : Nat) : bt (a ++ b) (a.size + i) = bt b i := by
  unfold bt
  rw [app_list, List.getD_eq_getElem?_getD, List.getD_eq_getElem?_getD, List.getElem?_append_right (by rw [size_list]; omega), size_list, Nat.add_sub_cancel_left]
theorem dec_right (a b : ByteArray) (p : Nat) : Utf8.decode (a ++ b) (a.size + p) = Utf8.decode b p := by
  rw [dec_eq, dec_eq, app_size, Nat.add_assoc, Nat.add_assoc, Nat.add_assoc, bt_right, bt_right, bt_right, bt_right, show a.size + b.size - (a.size + p) = b.size - p by omega]
theorem ch_right (a b : ByteArray) (p : Nat) : ch (a ++ b) (a.size + p) = ch b p ∧ wd (a ++ b) (a.size + p) = wd b p := by
  unfold ch wd bad
  rw [dec_right]
  exact ⟨rfl, rfl⟩
theorem ch_left (a b : ByteArray) (p : Nat) (hp : p < a.size) (hb : bad a p = false) : ch (a ++ b) p = ch a p ∧ wd (a ++ b) p = wd a p := by
  have hw := wd_pos a p
  have hwl := (wd_le a p hp).2
  have es := enc_sl a p hp hb
  have hl : (Lib.encodeRune ((Utf8.decode a p).1 : Int)).length = wd a p := by
    rw [es]; unfold sl; rw [List.length_take, List.length_drop, size_list]; omega
  have hv := dec_valid a p
  have hle := dec_le a p
  have e2 : sl (a ++ b) p (Lib.encodeRune ((Utf8.decode a p).1 : Int)).length = Lib.encodeRune ((Utf8.decode a p).1 : Int) := by
    rw [hl, es]
    unfold sl
    rw [app_list, List.drop_append_of_le_length (by rw [size_list]; omega), List.take_append_of_le_length (by rw [List.length_drop, size_list]; omega)]
  have d := dec_of_enc (s := a ++ b) (p := p) (by simp [Lib.validRune] at hv; omega) e2
  rw [ch_good hb, ch_good d.2.2]
  exact ⟨d.1, d.2.1.trans hl⟩
theorem chs_right (a b : ByteArray) : ∀ f p, chs (uFrom (a ++ b) f (a.size + p)) = chs (uFrom b f p)
  | 0, p => by simp [uFrom, chs]
  | f + 1, p => by
    by_cases hp : p < b.size
    · rw [uFrom_more _ f _ (by rw [app_size]; omega), uFrom_more b f p hp]
      have e := ch_right a b p
      rw [e.1, e.2]
      have ih := chs_right a b f (p + wd b p)
      simp only [chs, List.map_cons] at ih ⊢
      rw [Nat.add_assoc, ih]
    · rw [uFrom_end _ _ _ (by rw [app_size]; omega), uFrom_end b _ p hp]
theorem chs_left (a b : ByteArray) : ∀ f p, p ≤ a.size → a.size ≤ p + f → good (uFrom a f p) = true → chs (uFrom (a ++ b) (f + b.size) p) = chs (uFrom a f p) ++ chs (us b)
  | 0, p, h1, h2, _ => by
    have hp : p = a.size := by omega
    subst hp
    have := chs_right a b (0 + b.size) 0
    rw [Nat.add_zero] at this
    rw [this, Nat.zero_add, uFrom_end a 0 _ (by omega)]
    rfl
  | f + 1, p, h1, h2, hg => by
    by_cases hp : p < a.size
    · rw [uFrom_more a f p hp] at hg ⊢
      have hb : bad a p = false := by
        cases hq : bad a p with
        | false => rfl
        | true =>
          have := (ch_bad hq).1
          unfold good at hg
          rw [List.all_cons, Bool.and_eq_true] at hg
          have h3 := hg.1
          rw [decide_eq_true_eq] at h3
          simp only at h3
          omega
      have hg2 : good (uFrom a f (p + wd a p)) = true := by
        unfold good at hg ⊢
        rw [List.all_cons, Bool.and_eq_true] at hg
        exact hg.2
      have e := ch_left a b p hp hb
      have hwl := (wd_le a p hp).2
      have hw := wd_pos a p
      have ih := chs_left a b f (p + wd a p) hwl (by omega) hg2
      rw [show f + 1 + b.size = (f + b.size) + 1 by omega, uFrom_more _ _ p (by rw [app_size]; omega), e.1, e.2]
      simp only [chs, List.map_cons] at ih ⊢
      rw [ih]
      rfl
    · have hpe : p = a.size := by omega
      subst hpe
      have this : chs (uFrom (a ++ b) (f + 1 + b.size) a.size) = chs (uFrom b (f + 1 + b.size) 0) := chs_right a b (f + 1 + b.size) 0
      rw [this, uFrom_end a _ _ (by omega)]
      unfold us
      rw [uFrom_fuel b (f + 1 + b.size) b.size 0 (by omega) (by omega)]
      rfl
theorem good_chs (l : List (Nat × Int)) : good l = (chs l).all fun x => decide (0 ≤ x) := by
  unfold good chs
  rw [List.all_map]
  rfl
theorem us_app (a b : ByteArray) (hg : good (us a) = true) : chs (us (a ++ b)) = chs (us a) ++ chs (us b) := by
  have := chs_left a b a.size 0 (Nat.zero_le _) (by omega) hg
  rw [← app_size] at this
  exact this
theorem us_app_good (a b : ByteArray) (ha : good (us a) = true) (hb : good (us b) = true) : good (us (a ++ b)) = true := by
  rw [good_chs, us_app a b ha, List.all_append, ← good_chs, ← good_chs, ha, hb]
  rfl
theorem us_valid (s : ByteArray) : ∀ f p, ∀ u ∈ uFrom s f p, 0 ≤ u.2 → u.2 < 55296 ∨ 57343 < u.2
  | 0, p, u, h, _ => by simp [uFrom] at h
  | f + 1, p, u, h, h0 => by
    by_cases hp : p < s.size
    · rw [uFrom_more s f p hp] at h
      rcases List.mem_cons.1 h with rfl | h
      · have h1 : 0 ≤ ch s p := h0
        have hb : bad s p = false := by
          cases hq : bad s p with
          | false => rfl
          | true => rw [(ch_bad hq).1] at h1; omega
        have hv := dec_valid s p
        show ch s p < _ ∨ _ < ch s p
        rw [ch_good hb]
        simp [Lib.validRune] at hv
        omega
      · exact us_valid s f _ u h h0
    · rw [uFrom_end s _ p hp] at h; cases h
end Go.Proofs.YtpfdapnfkghgkaaGreatDoor
namespace Go.Proofs.YtpfdapnfkghgkaaGreatDoor
open Go Go.RowKit

theorem litE_bytes (s : ByteArray) : litE false s = 0 := rfl
theorem lit_good {s : ByteArray} (h : litE true s = 0) : good (us s) = true := by
  unfold litE dErr at h
  simp only [if_true] at h
  cases hg : good (us s) with
  | true => rfl
  | false => rw [hg] at h; simp at h
theorem lit_app {c : Bool} {a b : ByteArray} (ha : litE c a = 0) (hb : litE c b = 0) : litE c (a ++ b) = 0 ∧ litL c (a ++ b) = litL c a ++ litL c b := by
  cases c with
  | true =>
    have ga := lit_good ha
    have gb := lit_good hb
    have gab := us_app_good a b ga gb
    unfold litE litL dErr dList
    simp only [if_true, ga, gb, gab, us_app a b ga]
    exact ⟨trivial, trivial⟩
  | false =>
    refine ⟨rfl, ?_⟩
    unfold litL byL
    simp
theorem lit_char {c : Bool} {s : ByteArray} : ∀ x ∈ litL c s, isChar c x := by
  intro x hx
  have hbd := litL_bd c s x hx
  cases c with
  | true =>
    refine ⟨hbd.1, hbd.2, fun _ => ?_⟩
    unfold litL dList at hx
    simp only [if_true] at hx
    split at hx
    · obtain ⟨u, hu, rfl⟩ := List.mem_map.1 hx
      exact us_valid s _ _ u hu hbd.1
    · cases hx
  | false =>
    unfold litL byL at hx
    simp only [Bool.false_eq_true, if_false] at hx
    obtain ⟨b, -, rfl⟩ := List.mem_map.1 hx
    have := b.toNat_lt
    exact ⟨by omega, by simp [top]; omega, fun h => by cases h⟩
theorem catE_join {L : List Er} (h : ∀ E ∈ L, E.k = 2) : catE (joinE 5 L (.mk 1 0 0 0 [] [])) = L := by
  match L, h with
  | [], _ => rfl
  | [x], h =>
    have := h x List.mem_cons_self
    show catE x = [x]
    unfold catE
    rw [if_neg (by omega), if_neg (by omega)]
  | x :: y :: r, _ => rfl
theorem cat_join {L M : List Er} (hL : ∀ E ∈ L, E.k = 2) (hM : ∀ E ∈ M, E.k = 2) : catX (joinE 5 L (.mk 1 0 0 0 [] [])) (joinE 5 M (.mk 1 0 0 0 [] [])) = joinE 5 (L ++ M) (.mk 1 0 0 0 [] []) := by
  unfold catX
  rw [catE_join hL, catE_join hM]
theorem set_ok {c f : Bool} {y : Int} {C : List (Int × Int)} (h : IsC C (oneP f y)) (hy : isChar c y) : setM c f C := by
  cases f with
  | false =>
    have hm : ∀ x, In C x ↔ x = y := fun x => by rw [h.mem]; simp [oneP]
    refine ⟨h.to fun x => ?_, fun z => by cases z⟩
    rw [hm]
    simp only [oneP, Bool.false_eq_true, if_false]
    constructor
    · rintro rfl; exact ⟨rfl, hy⟩
    · exact fun z => z.1
  | true =>
    have hm : ∀ x, In C x ↔ (x = y ∨ (x - 32 = y ∧ 65 ≤ x - 32 ∧ x - 32 ≤ 90) ∨ (x + 32 = y ∧ 97 ≤ x + 32 ∧ x + 32 ≤ 122)) := fun x => by
      have hi : ∀ z, In [(y, y)] z ↔ z = y := fun z => by
        constructor
        · rintro ⟨r, hr, h1, h2⟩; simp at hr; subst hr; simp at h1 h2; omega
        · rintro rfl; exact ⟨_, List.mem_cons_self, Int.le_refl _, Int.le_refl _⟩
      rw [h.mem]
      simp only [oneP, if_true, foldP, hi]
    obtain ⟨h0, h1, h2⟩ := hy
    refine ⟨h.to fun x => ?_, fun _ x => ?_⟩
    · rw [← h.mem]
      constructor
      · intro z
        refine ⟨z, ?_⟩
        rcases (hm x).1 z with rfl | ⟨e, e1, e2⟩ | ⟨e, e1, e2⟩
        · exact ⟨h0, h1, h2⟩
        · refine ⟨by omega, ?_, fun _ => by omega⟩
          cases c <;> simp [top] <;> omega
        · refine ⟨by omega, ?_, fun _ => by omega⟩
          cases c <;> simp [top] <;> omega
      · exact fun z => z.1
    · unfold foldP
      rw [hm, hm, hm]
      omega
/-- A node that has nothing to say but its kind. -/
theorem look_set {c f : Bool} {p : Way} {t : Tr} {ah gr : Nat} (ha : ah < 2000) (hp : p.length ≤ 1) (hs : standP p 2 = true) (hk : t.f.k = 2) (hn : t.f.n = 0 ∧ t.f.mn = 0 ∧ t.f.mx = 0) (hr : setM c f t.f.rs) (hks : t.ks = []) : lookM c f p t ah gr = 0 := by
  unfold lookM
  rw [if_neg (by omega), if_neg (by omega), if_neg, if_neg (by omega), if_neg (by omega)]
  refine fun z => z ⟨by rw [hk]; exact hs, ?_, by rw [hk, hks]; rfl⟩
  unfold fieldsM
  rw [if_pos hk]
  exact ⟨hr, hn⟩
theorem look_bare {c f : Bool} {t : Tr} {ah gr : Nat} (ha : ah < 2000) (hk : (t.f.k = 1 ∧ t.ks = []) ∨ (t.f.k = 5 ∧ 2 ≤ t.ks.length)) (hn : t.f.n = 0 ∧ t.f.mn = 0 ∧ t.f.mx = 0) (hr : t.f.rs = []) : lookM c f [] t ah gr = 0 := by
  unfold lookM
  rw [if_neg (by omega), if_neg (by simp), if_neg, if_neg (by omega), if_neg (by omega)]
  refine fun z => z ⟨?_, ?_, ?_⟩
  · unfold standP kindB
    rcases hk with h | h <;> rw [h.1] <;> rfl
  · unfold fieldsM
    rw [if_neg (by omega), if_neg (by omega), if_neg (by omega), if_neg (by omega)]
    exact ⟨hn.1, hn.2.1, hn.2.2, by rw [hr]; rfl⟩
  · unfold kidsB
    rcases hk with h | h
    · rw [if_neg (by omega), if_neg (by omega), h.2]; rfl
    · rw [if_pos (by omega)]
      exact decide_eq_true h.2
theorem er_parts {t : Tr} {k n mn mx : Int} {rs : List (Int × Int)} {ks : List Er} (h : er t = .mk k n mn mx rs ks) : t.f.k = k ∧ t.f.n = n ∧ t.f.mn = mn ∧ t.f.mx = mx ∧ t.f.rs = rs ∧ t.ks.map er = ks := by
  rw [er_eq] at h
  injection h with h1 h2 h3 h4 h5 h6
  exact ⟨h1, h2, h3, h4, h5, h6⟩
/-- The node of a character, wherever it may stand. -/
theorem look_char {c f : Bool} {p : Way} {t : Tr} {ah gr : Nat} {y : Int} (ha : ah < 2000) (hp : p.length ≤ 1) (hs : standP p 2 = true) (h : EC f y (er t)) (hy : isChar c y) : lookM c f p t ah gr = 0 ∧ t.ks = [] := by
  obtain ⟨C, e, hC⟩ := h
  obtain ⟨h1, h2, h3, h4, h5, h6⟩ := er_parts e
  have hk : t.ks = [] := List.map_eq_nil_iff.1 h6
  exact ⟨look_set ha hp hs h1 ⟨h2, h3, h4⟩ (by rw [h5]; exact set_ok hC hy) hk, hk⟩
theorem pps_mem {par : Tr} {p : Way} : ∀ {ks : List Tr} {i : Nat}, (∀ u ∈ ks, u.ks = []) → ∀ x ∈ pps par p i ks, ∃ j u, u ∈ ks ∧ x = ((par, j) :: p, u)
  | [], i, _, x, hx => by rw [pps_nil] at hx; cases hx
  | u :: ks, i, h, x, hx => by
    rw [pps_cons] at hx
    rcases List.mem_append.1 hx with hx | hx
    · rw [pp_eq, h u List.mem_cons_self, pps_nil, List.mem_singleton] at hx
      exact ⟨i, u, List.mem_cons_self, hx⟩
    · obtain ⟨j, v, hv, e⟩ := pps_mem (fun v hv => h v (List.mem_cons_of_mem _ hv)) x hx
      exact ⟨j, v, List.mem_cons_of_mem _ hv, e⟩
theorem lit_right {c f : Bool} {l : List Int} {L : List Er} {t : Tr} (hE : ECs f l L) (hl : ∀ x ∈ l, isChar c x) (hn : l.length ≤ 1999) (ht : er t = joinE 5 L (.mk 1 0 0 0 [] [])) : rightM c f 0 0 (pp [] t) = 0 ∧ (er t).sz ≤ 2000 := by
  have hz : (er t).sz ≤ 2000 := by
    have h1 := join_sz 5 L 1
    have h2 : ∀ M : List Er, (∀ E ∈ M, E ∈ L) → eszs M = M.length := by
      intro M
      induction M with
      | nil => intro _; rw [eszs_nil]; rfl
      | cons E M ih =>
        intro h
        obtain ⟨z, -, hz⟩ := hE.mem E (h E List.mem_cons_self)
        rw [eszs_cons, esz_eq, hz.k.2, eszs_nil, ih (fun v hv => h v (List.mem_cons_of_mem _ hv)), List.length_cons]
        omega
    rw [ht]
    have := h2 L (fun _ h => h)
    have := hE.len
    omega
  refine ⟨all_right _ 0 0 fun pre x post e => ?_, hz⟩
  have hah : 0 + pre.length < 2000 := by
    have := congrArg List.length e
    rw [pp_len, ← er_sz] at this
    simp at this
    omega
  have hx : x ∈ pp [] t := by rw [e]; simp
  match L, hE, ht with
  | [], _, ht =>
    obtain ⟨h1, h2, h3, h4, h5, h6⟩ := er_parts ht
    have hk : t.ks = [] := List.map_eq_nil_iff.1 h6
    rw [pp_eq, hk, pps_nil, List.mem_singleton] at hx
    subst hx
    exact look_bare hah (.inl ⟨h1, hk⟩) ⟨h2, h3, h4⟩ h5
  | [E], hE, ht =>
    have ht' : er t = E := ht
    obtain ⟨y, hy, hEC⟩ := hE.mem E List.mem_cons_self
    rw [← ht'] at hEC
    have hk := (look_char (c := c) (p := []) (ah := 0) (gr := 0) (by omega) (by simp) rfl hEC (hl y hy)).2
    rw [pp_eq, hk, pps_nil, List.mem_singleton] at hx
    subst hx
    exact (look_char hah (by simp) rfl hEC (hl y hy)).1
  | E :: F :: R, hE, ht =>
    obtain ⟨h1, h2, h3, h4, h5, h6⟩ := er_parts ht
    have hk : ∀ u ∈ t.ks, ∃ y ∈ l, EC f y (er u) := fun u hu => hE.mem _ (by rw [← h6]; exact List.mem_map_of_mem hu)
    rw [pp_eq] at hx
    rcases List.mem_cons.1 hx with hx | hx
    · subst hx
      refine look_bare hah (.inr ⟨h1, ?_⟩) ⟨h2, h3, h4⟩ h5
      have := congrArg List.length h6
      rw [List.length_map, List.length_cons, List.length_cons] at this
      show 2 ≤ t.ks.length
      omega
    · obtain ⟨j, u, hu, rfl⟩ := pps_mem (fun u hu => by
        obtain ⟨y, hy, hEC⟩ := hk u hu
        exact (look_char (c := c) (p := []) (ah := 0) (gr := 0) (by omega) (by simp) rfl hEC (hl y hy)).2) x hx
      obtain ⟨y, hy, hEC⟩ := hk u hu
      refine (look_char hah (by simp) ?_ hEC (hl y hy)).1
      show standB t.f.k _ _ 2 = true
      rw [h1]
      rfl
end Go.Proofs.YtpfdapnfkghgkaaGreatDoor
namespace Go.Proofs.YtpfdapnfkghgkaaGreatDoor
open Go Go.RowKit

/-- May a byte stand in the text? -/
def keepB (m : Md) (x : UInt8) : Bool := low x || !m.c
theorem chr_keep {m : Md} {s : ByteArray} {p : Nat} (h : bt s p < 128 ∨ m.c = false) : chr m s p = .ok ((bt s p : Int), p + 1) := by
  rcases h with h | h
  · exact chr_ascii m h
  · have e : un m s p = ((bt s p : Int), 1) := by unfold un; rw [h]; rfl
    unfold chr
    rw [e, if_neg (by simp only; omega)]
theorem keep_or {m : Md} {x : UInt8} (h : keepB m x = true) : x.toNat < 128 ∨ m.c = false := by
  unfold keepB low at h
  simpa using h
theorem lx_keep (m : Md) (s : ByteArray) : ∀ (R : List UInt8) (f : Nat) (A : List UInt8) (T : List Tp), s.data.toList = A ++ R.flatMap encP → (∀ x ∈ R, keepB m x = true) → s.size < f + A.length →
    ∃ T', lx m s f A.length T = .ok (T ++ T') ∧ T'.map Prod.fst = R.map (fun x => setT m [((x.toNat : Int), (x.toNat : Int))] false)
  | R, 0, A, T, h, hR, hf => by
    have := congrArg List.length h
    rw [size_list, List.length_append] at this
    omega
  | [], f + 1, A, T, h, hR, hf => by
    have hz : s.size = A.length := by rw [← size_list, h]; simp
    exact ⟨[], by rw [lx, if_neg (by omega)]; simp, rfl⟩
  | x :: R, f + 1, A, T, h, hR, hf => by
    have hx := keep_or (hR x (by simp))
    have key : tok m s A.length (lastK T) = .ok (setT m [((x.toNat : Int), (x.toNat : Int))] false, A.length + (encP x).length) ∧ A.length < s.size := by
      cases hp : plainB x with
      | true =>
        have e : encP x = [x] := by unfold encP; rw [hp]; rfl
        have h1 : s.data.toList = A ++ x :: R.flatMap encP := by rw [h, List.flatMap_cons, e]; rfl
        obtain ⟨hlt, hb⟩ := bt_at.1 (show s.data.toList[A.length]? = some x by rw [h1]; simp)
        obtain ⟨n1, n2, n3, n4, n5, n6⟩ := plain_not hp
        refine ⟨?_, hlt⟩
        have sd : ∀ c : UInt8, x.toNat ≠ c.toNat → sees s A.length [c] = false := fun c hc => by rw [sees_dec hlt, hb]; exact decide_eq_false hc
        unfold tok
        rw [sd 92 n1, sd 42 n4, sd 94 n5, sd 36 n6, sd 46 n3, sd 91 n2, chr_keep (by rw [hb]; exact hx), hb, e]
        rfl
      | false =>
        have e : encP x = [92, x] := by unfold encP; rw [hp]; rfl
        have h1 : s.data.toList = A ++ 92 :: x :: R.flatMap encP := by rw [h, List.flatMap_cons, e]; rfl
        obtain ⟨hlt, hb⟩ := bt_at.1 (show s.data.toList[A.length]? = some 92 by rw [h1]; simp)
        obtain ⟨hlt2, hb2⟩ := bt_at.1 (show s.data.toList[A.length + 1]? = some x by rw [h1]; simp)
        refine ⟨?_, hlt⟩
        have ht : tok m s A.length (lastK T) = esc m s A.length (lastK T) := by
          unfold tok
          rw [if_pos (sees_one.2 ⟨hlt, hb⟩)]
        rw [ht, esc_set m s A.length (lastK T) (by omega) (by rw [hb2]; rcases special hp with rfl | rfl | rfl | rfl | rfl | rfl <;> decide), hb2, e]
        rfl
    obtain ⟨T', q1, q2⟩ := lx_keep m s R f (A ++ encP x) (T ++ [(setT m [((x.toNat : Int), (x.toNat : Int))] false, A.length, A.length + (encP x).length)]) (by rw [h, List.flatMap_cons, List.append_assoc]) (fun y hy => hR y (by simp [hy])) (by
      have : 0 < (encP x).length := by unfold encP; split <;> simp
      rw [List.length_append]; omega)
    refine ⟨(setT m [((x.toNat : Int), (x.toNat : Int))] false, A.length, A.length + (encP x).length) :: T', ?_, by rw [List.map_cons, List.map_cons, q2]⟩
    rw [lx, if_pos key.2, key.1]
    simp only
    rw [List.length_append] at q1
    rw [q1, List.append_assoc]
    rfl
theorem lex_keep (m : Md) (s : ByteArray) (R : List UInt8) (h : s.data.toList = R.flatMap encP) (hR : ∀ x ∈ R, keepB m x = true) (hs : s.size ≤ 2000) :
    ∃ T, lexM m s = .ok T ∧ T.map Prod.fst = R.map (fun x => setT m [((x.toNat : Int), (x.toNat : Int))] false) := by
  obtain ⟨T, h1, h2⟩ := lx_keep m s R (s.size + 1) [] [] (by rw [h]; rfl) hR (by simp)
  refine ⟨T, ?_, h2⟩
  unfold lexM
  rw [if_neg (by omega)]
  simpa using h1
/-- The tree's leaf for a byte. -/
noncomputable def lfB (m : Md) (x : UInt8) : Ps := .lf 2 0 (rsQ (setQ m [((x.toNat : Int), (x.toNat : Int))] false))
theorem sgns_sets (m : Md) : ∀ (T : List Tp) (R : List UInt8) (g : Nat), T.map Prod.fst = R.map (fun x => setT m [((x.toNat : Int), (x.toNat : Int))] false) → sgns g T = pfls (R.map (lfB m))
  | [], [], g, _ => rfl
  | [], x :: R, g, h => by simp at h
  | t :: T, [], g, h => by simp at h
  | t :: T, x :: R, g, h => by
    rw [List.map_cons, List.map_cons, List.cons.injEq] at h
    rw [sgns, List.map_cons, pfls, ← sgns_sets m T R (gnx g t.1) h.2, h.1]
    rfl
theorem pfls_plain (m : Md) (R : List UInt8) : ∀ s ∈ pfls (R.map (lfB m)), plainS s := by
  induction R with
  | nil => intro s hs; cases hs
  | cons x R ih =>
    intro s hs
    rw [List.map_cons, pfls] at hs
    rcases List.mem_append.1 hs with h | h
    · rw [lfB, pfl, List.mem_singleton] at h
      subst h
      simp [plainS]
    · exact ih s h
theorem lfs_wf (m : Md) (R : List UInt8) : wfs (R.map (lfB m)) := by
  induction R with
  | nil => trivial
  | cons x R ih => exact ⟨.inl rfl, ih⟩
theorem lfs_dp (m : Md) (R : List UInt8) : pdps (R.map (lfB m)) ≤ 1 := by
  induction R with
  | nil => exact Nat.zero_le _
  | cons x R ih => rw [List.map_cons, pdps, lfB, Ps.dp]; omega
theorem lfs_anch (m : Md) (R : List UInt8) : Anch (R.map (lfB m)) := by
  intro i x hx
  obtain ⟨y, -, rfl⟩ := List.mem_map.1 (List.mem_of_getElem? hx)
  exact ⟨rfl, fun h => absurd h (by simp [lfB, Ps.kd]), fun h => absurd h (by simp [lfB, Ps.kd])⟩
theorem takes_plain {m : Md} {s : ByteArray} {R : List UInt8} (h : s.data.toList = R.flatMap encP) (hR : ∀ x ∈ R, keepB m x = true) (hs : s.size ≤ 2000) (hl : R.length ≤ 900) : ∃ T, Takes m s (mkB (R.map (lfB m))) T := by
  obtain ⟨T, h1, h2⟩ := lex_keep m s R h hR hs
  have hp := sgns_sets m T R 0 h2
  have ed : (mkB (R.map (lfB m))).dp ≤ 2 := by
    match R with
    | [] => simp [mkB, Ps.dp, pdps]
    | [x] => simp [mkB, lfB, Ps.dp]
    | x :: y :: R =>
      show Ps.dp (.row ((x :: y :: R).map (lfB m))) ≤ 2
      rw [Ps.dp]
      have := lfs_dp m (x :: y :: R)
      omega
  have e : pfl (mkB (R.map (lfB m))) = pfls (R.map (lfB m)) ∧ wf (mkB (R.map (lfB m))) ∧ (mkB (R.map (lfB m))).dp ≤ 2 := ⟨mkB_flat _, (mkB_wf (lfs_anch m R) (lfs_wf m R)).1, ed⟩
  have hk1 : hk 0 [] [] (sgns 0 T) := by
    rw [hp, ← List.append_nil (pfls _), hk_plain (pfls_plain m R)]
    rfl
  have hb := (psz_bound _ e.2.1).1
  rw [e.1, ← hp, sgns_length, ← List.length_map Prod.fst, h2, List.length_map] at hb
  exact ⟨T, h1, hk_held (lex_kinds h1) hk1, e.2.1, e.1.trans hp.symm, by omega, by omega⟩
theorem te_lits (l : List Ps) : te (mkB l) = joinE 5 (l.map te) (.mk 1 0 0 0 [] []) := by
  match l with
  | [] => rfl
  | [x] => rfl
  | x :: y :: r =>
    show te (.row (x :: y :: r)) = _
    rw [te, if_neg (by simp), tes_map]
    rfl
theorem one_set {m : Md} {x : Int} (h : isChar m.c x) (c : Int) : oneP m.f x c ↔ setQ m [(x, x)] false c := by
  unfold oneP setQ
  simp only [Bool.false_eq_true, if_false]
  have key : (if m.f = true then foldP [(x, x)] c else c = x) ↔ (if m.f = true then foldQ (In [(x, x)]) c else In [(x, x)] c) := by
    cases m.f with
    | false => simp only [Bool.false_eq_true, if_false, in_one]; omega
    | true => exact Iff.rfl
  rw [key]
  refine ⟨fun k => ⟨?_, k⟩, fun k => k.2⟩
  have hx : c = x ∨ ((65 ≤ x ∧ x ≤ 90) ∧ c = x + 32) ∨ ((97 ≤ x ∧ x ≤ 122) ∧ c = x - 32) := by
    revert k
    cases m.f with
    | false => simp only [Bool.false_eq_true, if_false, in_one]; omega
    | true => simp only [if_true, foldQ, in_one]; omega
  unfold isChar top at h ⊢
  obtain ⟨a, b, d⟩ := h
  cases hc : m.c with
  | false =>
    rw [hc] at b
    simp only [Bool.false_eq_true, if_false] at b ⊢
    exact ⟨by omega, by omega, fun k => by cases k⟩
  | true =>
    rw [hc] at b d
    simp only [if_true] at b ⊢
    have := d rfl
    exact ⟨by omega, by omega, fun _ => by omega⟩
theorem ec_leaf {m : Md} {x : UInt8} {E : Er} (h : EC m.f (x.toNat : Int) E) (hx : isChar m.c (x.toNat : Int)) : E = te (lfB m x) := by
  obtain ⟨C, rfl, hC⟩ := h
  have : IsC C (setQ m [((x.toNat : Int), (x.toNat : Int))] false) := ⟨hC.cls, hC.fit, fun c => (hC.mem c).trans (one_set hx c)⟩
  rw [lfB, te, rsQ_is this]
theorem ecs_leaves {m : Md} : ∀ {R : List UInt8} {L : List Er}, ECs m.f (R.map fun x => (x.toNat : Int)) L → (∀ x ∈ R, isChar m.c (x.toNat : Int)) → L = (R.map (lfB m)).map te
  | [], [], _, _ => rfl
  | [], _ :: _, h, _ => by cases h
  | _ :: _, [], h, _ => by cases h
  | x :: R, E :: L, h, hR => by
    rw [List.map_cons, List.map_cons, ← ecs_leaves (R := R) h.2 (fun y hy => hR y (List.mem_cons_of_mem _ hy)), ← ec_leaf h.1 (hR x List.mem_cons_self)]
theorem keep_char {m : Md} {x : UInt8} (h : keepB m x = true) : isChar m.c (x.toNat : Int) := by
  have := x.toNat_lt
  unfold isChar top
  rcases keep_or h with h | h
  · refine ⟨by omega, ?_, fun _ => by omega⟩
    split <;> omega
  · rw [h]
    simp only [Bool.false_eq_true, if_false]
    exact ⟨by omega, by omega, fun h => by cases h⟩
theorem lit_one {x : UInt8} (h : x.toNat < 128) : litE true (ofL [x]) = 0 ∧ litL true (ofL [x]) = [(x.toNat : Int)] := by
  have hb : bt (ofL [x]) 0 = x.toNat := rfl
  have e := un_ascii ⟨true, false⟩ (s := ofL [x]) (p := 0) (by rw [hb]; exact h)
  unfold un at e
  simp only [if_true, Prod.mk.injEq] at e
  have u : us (ofL [x]) = [(0, (x.toNat : Int))] := by
    unfold us
    rw [ofL_size, show [x].length = 0 + 1 from rfl, uFrom_more _ _ _ (by rw [ofL_size]; simp), e.1, e.2, hb]
    rfl
  unfold litE litL dErr dList
  rw [u]
  have g : good [(0, (x.toNat : Int))] = true := by unfold good; simp
  rw [g]
  exact ⟨rfl, rfl⟩
theorem lit_list {m : Md} : ∀ (R : List UInt8), (∀ x ∈ R, keepB m x = true) → litE m.c (ofL R) = 0 ∧ litL m.c (ofL R) = R.map (fun x => (x.toNat : Int))
  | [], _ => by cases m.c <;> exact ⟨rfl, rfl⟩
  | x :: R, h => by
    have ih := lit_list R (fun y hy => h y (List.mem_cons_of_mem _ hy))
    have h1 : litE m.c (ofL [x]) = 0 ∧ litL m.c (ofL [x]) = [(x.toNat : Int)] := by
      rcases keep_or (h x List.mem_cons_self) with k | k
      · cases m.c with
        | true => exact lit_one k
        | false => exact ⟨rfl, rfl⟩
      · rw [k]
        exact ⟨rfl, rfl⟩
    have := lit_app h1.1 ih.1
    rw [ofL_app, h1.2, ih.2] at this
    exact this
end Go.Proofs.YtpfdapnfkghgkaaGreatDoor
namespace Go.Proofs.YtpfdapnfkghgkaaGreatDoor
open Go Go.RowKit
attribute [local go_sem] ext_cell

abbrev grpS (a : ByteArray) : ByteArray := ⟨#[92, 40]⟩ ++ a ++ ⟨#[92, 41]⟩
abbrev orS (a b : ByteArray) : ByteArray := a ++ ⟨#[92, 124]⟩ ++ b
/-- A node's box and the mode's, as cells. -/
def Sees6 (W : World) (b : Nat) (f : Fl) : Prop := b < W.heap.size ∧ W.cell? ⟨b, 0, none⟩ = some (.int .i64 f.k) ∧ W.cell? ⟨b, 1, none⟩ = some (.int .i64 f.n) ∧ W.cell? ⟨b, 2, none⟩ = some (.int .i64 f.mn) ∧ W.cell? ⟨b, 3, none⟩ = some (.int .i64 f.mx) ∧ W.cell? ⟨b, 4, none⟩ = some (.slice f.rq f.rs.length f.rc) ∧ W.cell? ⟨b, 5, none⟩ = some (.slice f.kq f.kl f.kc)
def SeesM (W : World) (b : Nat) (m : Md) : Prop := b < W.heap.size ∧ W.cell? ⟨b, 0, none⟩ = some (.bool m.c) ∧ W.cell? ⟨b, 1, none⟩ = some (.bool m.f)
theorem Sees6.kept {W W' : World} {b : Nat} {f : Fl} (h : Sees6 W b f) (hb : Below W.heap.size W W') : Sees6 W' b f := by
  obtain ⟨l, c0, c1, c2, c3, c4, c5⟩ := h
  exact ⟨Nat.lt_of_lt_of_le l hb.size, (hb.cell (p := ⟨b, 0, none⟩) l).trans c0, (hb.cell (p := ⟨b, 1, none⟩) l).trans c1, (hb.cell (p := ⟨b, 2, none⟩) l).trans c2, (hb.cell (p := ⟨b, 3, none⟩) l).trans c3, (hb.cell (p := ⟨b, 4, none⟩) l).trans c4, (hb.cell (p := ⟨b, 5, none⟩) l).trans c5⟩
theorem SeesM.kept {W W' : World} {b : Nat} {m : Md} (h : SeesM W b m) (hb : Below W.heap.size W W') : SeesM W' b m :=
  ⟨Nat.lt_of_lt_of_le h.1 hb.size, (hb.cell (p := ⟨b, 0, none⟩) h.1).trans h.2.1, (hb.cell (p := ⟨b, 1, none⟩) h.1).trans h.2.2⟩
theorem sees6_new (W : World) (f : Fl) : Sees6 (W.alloc (.cells #[.int .i64 f.k, .int .i64 f.n, .int .i64 f.mn, .int .i64 f.mx, .slice f.rq f.rs.length f.rc, .slice f.kq f.kl f.kc] 28)) W.heap.size f := by
  have N : BoxN (W.alloc (.cells #[.int .i64 f.k, .int .i64 f.n, .int .i64 f.mn, .int .i64 f.mx, .slice f.rq f.rs.length f.rc, .slice f.kq f.kl f.kc] 28)) W.heap.size f := alloc_new W _
  obtain ⟨c0, c1, c2, c3, c4, c5⟩ := N.six
  simp only [Nat.zero_add] at c1 c2 c3 c4 c5
  exact ⟨lt_of_heap N, c0, c1, c2, c3, c4, c5⟩
theorem seesM_new (W : World) (m : Md) : SeesM (boxM9 W m) W.heap.size m := ⟨lt_of_heap (alloc_new W _), cell_row (alloc_new W _) (i := 0) rfl, cell_row (alloc_new W _) (i := 1) rfl⟩
theorem grp_see {W : World} {t : Tr} {x : Ps} (h : TA W t) (he : er t = te (.grp 1 x)) : t.f.k = 7 ∧ t.f.n = 1 ∧ t.f.kl = 1 ∧ ∃ g off, t.f.kq = some ⟨g, off, none⟩ ∧ g < W.heap.size ∧ ∃ u, TA W u ∧ er u = te x ∧ Six W g off u.f := by
  rw [te] at he
  obtain ⟨f1, f2, -, -, -, f6⟩ := er_open he
  obtain ⟨u, hk, hu⟩ := map_one f6
  have hn := h.node
  have hkl := hn.kl
  rw [hk] at hkl
  refine ⟨f1, f2, hkl, ?_⟩
  rcases hn.k with ⟨p, cap, -, e, -⟩ | ⟨g, off, cap, e, hg, -, -, hs⟩
  · rw [hk] at e; cases e
  · injection e with e1
    exact ⟨g, off, e1, hg, u, h.kid (by rw [hk]; simp), hu, by have := hs 0 u (by rw [hk]; rfl); simpa using this⟩
/-- What Groups and Depth answer of a tree that Parse told. -/
theorem groups_of {W : World} {t : Tr} {x : Ps} (h : TA W t) (he : er t = te x) (hw : wf x) (hs : x.sz ≤ 2000) : Calls Tryz.prog 12 #[.agg #[.int .i64 t.f.k, .int .i64 t.f.n, .int .i64 t.f.mn, .int .i64 t.f.mx, .slice t.f.rq t.f.rs.length t.f.rc, .slice t.f.kq t.f.kl t.f.kc]] W fun e w' => e = .returned (.int .i64 (nop (pfl x) : Int)) ∧ Below W.heap.size W w' := by
  have := groups_c h
  rw [if_neg (by rw [pp_len, ← er_sz, he, te_sz]; omega), grp_is x hw t [] he] at this
  exact this
theorem depth_of {W : World} {t : Tr} {x : Ps} (h : TA W t) (he : er t = te x) (hs : x.sz ≤ 2000) : Calls Tryz.prog 13 #[.agg #[.int .i64 t.f.k, .int .i64 t.f.n, .int .i64 t.f.mn, .int .i64 t.f.mx, .slice t.f.rq t.f.rs.length t.f.rc, .slice t.f.kq t.f.kl t.f.kc]] W fun e w' => e = .returned (.int .i64 (x.dp : Int)) ∧ Below W.heap.size W w' := by
  have := depth_c h
  rw [if_neg (by rw [pp_len, ← er_sz, he, te_sz]; omega), deep_is x t [] he] at this
  simpa using this
/-- The state behind the two parses. -/
structure GSt (w : World) (m : Md) (bm bx by_ : Nat) (tx ty : Tr) (W0 : World) : Prop where
  bel : Below w.heap.size w W0
  sm : SeesM W0 bm m
  sx : Sees6 W0 bx tx.f
  sy : Sees6 W0 by_ ty.f
  tx : TA W0 tx
  ty : TA W0 ty
set_option maxRecDepth 100000 in
set_option maxHeartbeats 8000000 in
theorem group_ok {w : World} (hG : Glb w) (a b : ByteArray) (m : Md) {xa xb : Ps} (hsz : a.size + b.size ≤ 900) (hwa : wf xa) (hwb : wf xb) (hza : xa.sz ≤ 1900) (hzb : xb.sz ≤ 1900) (hzo : (orP xa xb).sz ≤ 2000)
    (ha : ∀ W, Below w.heap.size w W → Calls Tryz.prog 9 #[.string a, .agg #[.bool m.c, .bool m.f]] W (ParseOk W xa)) (hb : ∀ W, Below w.heap.size w W → Calls Tryz.prog 9 #[.string b, .agg #[.bool m.c, .bool m.f]] W (ParseOk W xb))
    (hg : nop (pfl xa) = 0 → xa.dp < 40 → ∀ W, Below w.heap.size w W → Calls Tryz.prog 9 #[.string (grpS a), .agg #[.bool m.c, .bool m.f]] W (ParseOk W (.grp 1 xa)))
    (ho : nop (pfl xa) = 0 → nop (pfl xb) = 0 → xa.dp < 40 → xb.dp < 40 → ∀ W, Below w.heap.size w W → Calls Tryz.prog 9 #[.string (orS a b), .agg #[.bool m.c, .bool m.f]] W (ParseOk W (orP xa xb))) :
    Calls Tryz.prog 4 #[.string a, .string b, .agg #[.bool m.c, .bool m.f]] w fun e w' => e = .returned (.bool true) ∧ Below w.heap.size w w' := by
  have BX : Hid (Below w.heap.size w (boxM9 w m)) := (Below.refl _ _).alloc (Nat.le_refl _) _
  have HE := hide (examples9_c (hG.kept BX.out))
  have HA := hide ha
  have HB := hide hb
  have HG := hide hg
  have HO := hide ho
  have M0 := hide (seesM_new w m)
  have n900 : ¬ (900 : Int) < (a.size : Int) + (b.size : Int) := by omega
  have zs0 : ¬ 9223372036854775807 < 2 + a.size := by omega
  have zs1 : ¬ 9223372036854775807 < 2 + a.size + 2 := by omega
  have zs2 : ¬ 9223372036854775807 < a.size + 2 := by omega
  have zs3 : ¬ 9223372036854775807 < a.size + 2 + b.size := by omega
  clear hG ha hb hg ho
  go_enter Tryz.func4, Tryz.ntmps4
  go_upto_region 6 with first
    | (go_at_call 8; (with_reducible refine (HE.out).mono ?_); rintro e w1 ⟨rfl, h1⟩; have X1 := hide (chain BX.out h1 (Nat.le_refl _)); have M1 := hide (M0.out.kept h1); obtain ⟨ml, m0, m1⟩ := M1.out; clear h1)
    | (go_at_call 9; (with_reducible refine (HB.out _ X2.out).mono ?_); rintro e w3 ⟨ty, rfl, h1, h2, h3, h4⟩; have b3 := ((Below.refl w3.heap.size w3).alloc (Nat.le_refl _) (.cells #[.int .i64 ty.f.k, .int .i64 ty.f.n, .int .i64 ty.f.mn, .int .i64 ty.f.mx, .slice ty.f.rq ty.f.rs.length ty.f.rc, .slice ty.f.kq ty.f.kl ty.f.kc] 28)); have bb := chain h4 b3 (Nat.le_refl _); have ST := hide (show GSt w m w.heap.size w2.heap.size w3.heap.size tx ty (w3.alloc (.cells #[.int .i64 ty.f.k, .int .i64 ty.f.n, .int .i64 ty.f.mn, .int .i64 ty.f.mx, .slice ty.f.rq ty.f.rs.length ty.f.rc, .slice ty.f.kq ty.f.kl ty.f.kc] 28)) from ⟨chain X2.out bb (Nat.le_refl _), M2.out.kept bb, SX2.out.kept bb, sees6_new w3 ty.f, TX.out.kept bb, h1.kept b3⟩); have EY := hide h2; clear h1 h2 h3 h4 b3 bb)
    | (go_at_call 9; (with_reducible refine (HA.out _ X1.out).mono ?_); rintro e w2 ⟨tx, rfl, h1, h2, h3, h4⟩; have b2 := ((Below.refl w2.heap.size w2).alloc (Nat.le_refl _) (.cells #[.int .i64 tx.f.k, .int .i64 tx.f.n, .int .i64 tx.f.mn, .int .i64 tx.f.mx, .slice tx.f.rq tx.f.rs.length tx.f.rc, .slice tx.f.kq tx.f.kl tx.f.kc] 28)); have bb := chain h4 b2 (Nat.le_refl _); have X2 := hide (chain X1.out bb (Nat.le_refl _)); have M2 := hide (M1.out.kept bb); obtain ⟨ml, m0, m1⟩ := M2.out; have TX := hide (h1.kept b2); have EX := hide h2; have SX2 := hide (sees6_new w2 tx.f); clear h1 h2 h3 h4 b2 bb)
  generalize (w3.alloc (.cells #[.int .i64 ty.f.k, .int .i64 ty.f.n, .int .i64 ty.f.mn, .int .i64 ty.f.mx, .slice ty.f.rq ty.f.rs.length ty.f.rc, .slice ty.f.kq ty.f.kl ty.f.kc] 28)) = W0 at ST ⊢
  clear X1 X2 M0 M1 M2 ml m0 m1 TX SX2 BX HE HA HB
  generalize w2.heap.size = bx at ST ⊢
  generalize w3.heap.size = by_ at ST ⊢
  have HM : Hid (∀ W, Below W0.heap.size W0 W → SeesM W w.heap.size m ∧ Sees6 W bx tx.f ∧ Sees6 W by_ ty.f) := fun W hW => ⟨ST.out.sm.kept hW, ST.out.sx.kept hW, ST.out.sy.kept hW⟩
  have XB : Hid (Below W0.heap.size W0 W0) := Below.refl _ _
  obtain ⟨⟨ml, m0, m1⟩, ⟨xl, x0, x1, x2, x3, x4, x5⟩, ⟨yl, y0, y1, y2, y3, y4, y5⟩⟩ := HM.out _ XB.out
  have GX0 : ∀ W, Below W0.heap.size W0 W → Calls Tryz.prog 12 #[.agg #[.int .i64 tx.f.k, .int .i64 tx.f.n, .int .i64 tx.f.mn, .int .i64 tx.f.mx, .slice tx.f.rq tx.f.rs.length tx.f.rc, .slice tx.f.kq tx.f.kl tx.f.kc]] W fun e w' => e = .returned (.int .i64 (nop (pfl xa) : Int)) ∧ Below W.heap.size W w' := fun W hW => groups_of (ST.out.tx.kept hW) EX.out hwa (by omega)
  have GY0 : ∀ W, Below W0.heap.size W0 W → Calls Tryz.prog 12 #[.agg #[.int .i64 ty.f.k, .int .i64 ty.f.n, .int .i64 ty.f.mn, .int .i64 ty.f.mx, .slice ty.f.rq ty.f.rs.length ty.f.rc, .slice ty.f.kq ty.f.kl ty.f.kc]] W fun e w' => e = .returned (.int .i64 (nop (pfl xb) : Int)) ∧ Below W.heap.size W w' := fun W hW => groups_of (ST.out.ty.kept hW) EY.out hwb (by omega)
  have DX0 : ∀ W, Below W0.heap.size W0 W → Calls Tryz.prog 13 #[.agg #[.int .i64 tx.f.k, .int .i64 tx.f.n, .int .i64 tx.f.mn, .int .i64 tx.f.mx, .slice tx.f.rq tx.f.rs.length tx.f.rc, .slice tx.f.kq tx.f.kl tx.f.kc]] W fun e w' => e = .returned (.int .i64 (xa.dp : Int)) ∧ Below W.heap.size W w' := fun W hW => depth_of (ST.out.tx.kept hW) EX.out (by omega)
  have DY0 : ∀ W, Below W0.heap.size W0 W → Calls Tryz.prog 13 #[.agg #[.int .i64 ty.f.k, .int .i64 ty.f.n, .int .i64 ty.f.mn, .int .i64 ty.f.mx, .slice ty.f.rq ty.f.rs.length ty.f.rc, .slice ty.f.kq ty.f.kl ty.f.kc]] W fun e w' => e = .returned (.int .i64 (xb.dp : Int)) ∧ Below W.heap.size W w' := fun W hW => depth_of (ST.out.ty.kept hW) EY.out (by omega)
  have GX := hide GX0
  have GY := hide GY0
  have DX := hide DX0
  have DY := hide DY0
  obtain ⟨na, hna⟩ : ∃ n, nop (pfl xa) = n := ⟨_, rfl⟩
  obtain ⟨nb, hnb⟩ : ∃ n, nop (pfl xb) = n := ⟨_, rfl⟩
  obtain ⟨da, hda⟩ : ∃ n, xa.dp = n := ⟨_, rfl⟩
  obtain ⟨db, hdb⟩ : ∃ n, xb.dp = n := ⟨_, rfl⟩
  rw [hna] at GX HG HO
  rw [hnb] at GY HO
  rw [hda] at DX HG HO
  rw [hdb] at DY HO
  clear GX0 GY0 DX0 DY0 hna hnb hda hdb
  by_cases na0 : ¬ na = 0
  · have e1 : ((na : Int) == 0) = false := by rw [beq_eq_false_iff_ne]; omega
    clear na0
    go_wp2_with first
      | (go_at_call 12; (with_reducible refine (GX.out _ XB.out).mono ?_); rintro e wn ⟨rfl, h1⟩; have XB := hide (chain XB.out h1 (Nat.le_refl _)); obtain ⟨⟨ml, m0, m1⟩, ⟨xl, x0, x1, x2, x3, x4, x5⟩, ⟨yl, y0, y1, y2, y3, y4, y5⟩⟩ := HM.out _ XB.out; clear h1)
      | (go_at_call 12; (with_reducible refine (GY.out _ XB.out).mono ?_); rintro e wn ⟨rfl, h1⟩; have XB := hide (chain XB.out h1 (Nat.le_refl _)); obtain ⟨⟨ml, m0, m1⟩, ⟨xl, x0, x1, x2, x3, x4, x5⟩, ⟨yl, y0, y1, y2, y3, y4, y5⟩⟩ := HM.out _ XB.out; clear h1)
      | (go_at_call 13; (with_reducible refine (DX.out _ XB.out).mono ?_); rintro e wn ⟨rfl, h1⟩; have XB := hide (chain XB.out h1 (Nat.le_refl _)); obtain ⟨⟨ml, m0, m1⟩, ⟨xl, x0, x1, x2, x3, x4, x5⟩, ⟨yl, y0, y1, y2, y3, y4, y5⟩⟩ := HM.out _ XB.out; clear h1)
      | (go_at_call 13; (with_reducible refine (DY.out _ XB.out).mono ?_); rintro e wn ⟨rfl, h1⟩; have XB := hide (chain XB.out h1 (Nat.le_refl _)); obtain ⟨⟨ml, m0, m1⟩, ⟨xl, x0, x1, x2, x3, x4, x5⟩, ⟨yl, y0, y1, y2, y3, y4, y5⟩⟩ := HM.out _ XB.out; clear h1)
    go_ret
    exact ⟨by simp, chain ST.out.bel XB.out (Nat.le_refl _)⟩
  have na0 : na = 0 := by omega
  subst na0
  by_cases da0 : ¬ da < 40
  · have e2 : ¬ (da : Int) < 40 := by omega
    by_cases nb0 : nb = 0
    · subst nb0
      go_wp2_with first
      | (go_at_call 12; (with_reducible refine (GX.out _ XB.out).mono ?_); rintro e wn ⟨rfl, h1⟩; have XB := hide (chain XB.out h1 (Nat.le_refl _)); obtain ⟨⟨ml, m0, m1⟩, ⟨xl, x0, x1, x2, x3, x4, x5⟩, ⟨yl, y0, y1, y2, y3, y4, y5⟩⟩ := HM.out _ XB.out; clear h1)
      | (go_at_call 12; (with_reducible refine (GY.out _ XB.out).mono ?_); rintro e wn ⟨rfl, h1⟩; have XB := hide (chain XB.out h1 (Nat.le_refl _)); obtain ⟨⟨ml, m0, m1⟩, ⟨xl, x0, x1, x2, x3, x4, x5⟩, ⟨yl, y0, y1, y2, y3, y4, y5⟩⟩ := HM.out _ XB.out; clear h1)
      | (go_at_call 13; (with_reducible refine (DX.out _ XB.out).mono ?_); rintro e wn ⟨rfl, h1⟩; have XB := hide (chain XB.out h1 (Nat.le_refl _)); obtain ⟨⟨ml, m0, m1⟩, ⟨xl, x0, x1, x2, x3, x4, x5⟩, ⟨yl, y0, y1, y2, y3, y4, y5⟩⟩ := HM.out _ XB.out; clear h1)
      | (go_at_call 13; (with_reducible refine (DY.out _ XB.out).mono ?_); rintro e wn ⟨rfl, h1⟩; have XB := hide (chain XB.out h1 (Nat.le_refl _)); obtain ⟨⟨ml, m0, m1⟩, ⟨xl, x0, x1, x2, x3, x4, x5⟩, ⟨yl, y0, y1, y2, y3, y4, y5⟩⟩ := HM.out _ XB.out; clear h1)
      go_ret
      exact ⟨by simp, chain ST.out.bel XB.out (Nat.le_refl _)⟩
    · have e3 : ((nb : Int) == 0) = false := by rw [beq_eq_false_iff_ne]; omega
      clear nb0
      go_wp2_with first
      | (go_at_call 12; (with_reducible refine (GX.out _ XB.out).mono ?_); rintro e wn ⟨rfl, h1⟩; have XB := hide (chain XB.out h1 (Nat.le_refl _)); obtain ⟨⟨ml, m0, m1⟩, ⟨xl, x0, x1, x2, x3, x4, x5⟩, ⟨yl, y0, y1, y2, y3, y4, y5⟩⟩ := HM.out _ XB.out; clear h1)
      | (go_at_call 12; (with_reducible refine (GY.out _ XB.out).mono ?_); rintro e wn ⟨rfl, h1⟩; have XB := hide (chain XB.out h1 (Nat.le_refl _)); obtain ⟨⟨ml, m0, m1⟩, ⟨xl, x0, x1, x2, x3, x4, x5⟩, ⟨yl, y0, y1, y2, y3, y4, y5⟩⟩ := HM.out _ XB.out; clear h1)
      | (go_at_call 13; (with_reducible refine (DX.out _ XB.out).mono ?_); rintro e wn ⟨rfl, h1⟩; have XB := hide (chain XB.out h1 (Nat.le_refl _)); obtain ⟨⟨ml, m0, m1⟩, ⟨xl, x0, x1, x2, x3, x4, x5⟩, ⟨yl, y0, y1, y2, y3, y4, y5⟩⟩ := HM.out _ XB.out; clear h1)
      | (go_at_call 13; (with_reducible refine (DY.out _ XB.out).mono ?_); rintro e wn ⟨rfl, h1⟩; have XB := hide (chain XB.out h1 (Nat.le_refl _)); obtain ⟨⟨ml, m0, m1⟩, ⟨xl, x0, x1, x2, x3, x4, x5⟩, ⟨yl, y0, y1, y2, y3, y4, y5⟩⟩ := HM.out _ XB.out; clear h1)
      go_ret
      exact ⟨by simp, chain ST.out.bel XB.out (Nat.le_refl _)⟩
  have da0 : da < 40 := by omega
  have e2 : (da : Int) < 40 := by omega
  have PG := hide (HG.out (by first | trivial | omega) (by first | trivial | omega))
  go_upto_region 10 with first
      | (go_at_call 12; (with_reducible refine (GX.out _ XB.out).mono ?_); rintro e wn ⟨rfl, h1⟩; have XB := hide (chain XB.out h1 (Nat.le_refl _)); obtain ⟨⟨ml, m0, m1⟩, ⟨xl, x0, x1, x2, x3, x4, x5⟩, ⟨yl, y0, y1, y2, y3, y4, y5⟩⟩ := HM.out _ XB.out; clear h1)
      | (go_at_call 12; (with_reducible refine (GY.out _ XB.out).mono ?_); rintro e wn ⟨rfl, h1⟩; have XB := hide (chain XB.out h1 (Nat.le_refl _)); obtain ⟨⟨ml, m0, m1⟩, ⟨xl, x0, x1, x2, x3, x4, x5⟩, ⟨yl, y0, y1, y2, y3, y4, y5⟩⟩ := HM.out _ XB.out; clear h1)
      | (go_at_call 13; (with_reducible refine (DX.out _ XB.out).mono ?_); rintro e wn ⟨rfl, h1⟩; have XB := hide (chain XB.out h1 (Nat.le_refl _)); obtain ⟨⟨ml, m0, m1⟩, ⟨xl, x0, x1, x2, x3, x4, x5⟩, ⟨yl, y0, y1, y2, y3, y4, y5⟩⟩ := HM.out _ XB.out; clear h1)
      | (go_at_call 13; (with_reducible refine (DY.out _ XB.out).mono ?_); rintro e wn ⟨rfl, h1⟩; have XB := hide (chain XB.out h1 (Nat.le_refl _)); obtain ⟨⟨ml, m0, m1⟩, ⟨xl, x0, x1, x2, x3, x4, x5⟩, ⟨yl, y0, y1, y2, y3, y4, y5⟩⟩ := HM.out _ XB.out; clear h1)
      | (go_at_call 9; (with_reducible refine (PG.out _ (chain ST.out.bel XB.out (Nat.le_refl _))).mono ?_); rintro e w6 ⟨tn, rfl, h1, h2, h3, h4⟩; obtain ⟨f1, f2, f3, g, off, f4, f5, u, f6, f7, f8⟩ := grp_see h1 h2; have B6 := hide h4; have U6 := hide f6; have EU := hide f7; have SU := hide f8; have LG := hide f5; rw [f1, f2, f3, f4]; clear f1 f2 f3 f4 f5 f6 f7 f8 h1 h2 h3 h4)
  have b7 : Below w6.heap.size w6 (w6.alloc (.cells #[.int .i64 7, .int .i64 1, .int .i64 tn.f.mn, .int .i64 tn.f.mx, .slice tn.f.rq tn.f.rs.length tn.f.rc, .slice (some ⟨g, off, none⟩) 1 tn.f.kc] 28)) := (Below.refl _ _).alloc (Nat.le_refl _) _
  have N7 := hide (alloc_new w6 (.cells #[.int .i64 7, .int .i64 1, .int .i64 tn.f.mn, .int .i64 tn.f.mx, .slice tn.f.rq tn.f.rs.length tn.f.rc, .slice (some ⟨g, off, none⟩) 1 tn.f.kc] 28))
  have XB := hide (chain (chain XB.out B6.out (Nat.le_refl _)) b7 (Nat.le_refl _))
  have U7 := hide (U6.out.kept b7)
  have SU7 := hide (SU.out.ck (CK.of_below b7) LG.out)
  have LG7 : g < (w6.alloc (.cells #[.int .i64 7, .int .i64 1, .int .i64 tn.f.mn, .int .i64 tn.f.mx, .slice tn.f.rq tn.f.rs.length tn.f.rc, .slice (some ⟨g, off, none⟩) 1 tn.f.kc] 28)).heap.size := Nat.lt_of_lt_of_le LG.out b7.size
  generalize (w6.alloc (.cells #[.int .i64 7, .int .i64 1, .int .i64 tn.f.mn, .int .i64 tn.f.mx, .slice tn.f.rq tn.f.rs.length tn.f.rc, .slice (some ⟨g, off, none⟩) 1 tn.f.kc] 28)) = W7 at N7 XB U7 SU7 LG7 ⊢
  clear b7 B6 U6 SU
  obtain ⟨⟨ml, m0, m1⟩, ⟨xl, x0, x1, x2, x3, x4, x5⟩, ⟨yl, y0, y1, y2, y3, y4, y5⟩⟩ := HM.out _ XB.out
  have z0 := cell_row N7.out (i := 0) rfl
  have z1 := cell_row N7.out (i := 1) rfl
  have z5 := cell_row N7.out (i := 5) rfl
  have zl := lt_of_heap N7.out
  obtain ⟨v0, v1, v2, v3, v4, v5⟩ := SU7.out
  have SM : ∀ y : Ext W7, Calls Tryz.prog 14 #[.agg #[.int .i64 u.f.k, .int .i64 u.f.n, .int .i64 u.f.mn, .int .i64 u.f.mx, .slice u.f.rq u.f.rs.length u.f.rc, .slice u.f.kq u.f.kl u.f.kc], .agg #[.int .i64 tx.f.k, .int .i64 tx.f.n, .int .i64 tx.f.mn, .int .i64 tx.f.mx, .slice tx.f.rq tx.f.rs.length tx.f.rc, .slice tx.f.kq tx.f.kl tx.f.kc]] y.val fun e w' => e = .returned (.bool true) ∧ Below y.val.heap.size y.val w' := fun y => same_yes8 (U7.out.kept y.2) ((ST.out.tx.kept XB.out).kept y.2) (EU.out.trans EX.out.symm) (by rw [EU.out, te_sz]; omega)
  refine wp_region_ext (by kernel_rfl) (by kernel_rfl) ?_
  repeat (go_big_quiet_step (first | exact rfl | (go_at_call 14; with_reducible exact ext_call (SM _))))
  refine wpQuiet_nil ?_
  intro w8 hw8
  have XB := hide (chain XB.out (ext_of hw8) (Nat.le_refl _))
  obtain ⟨⟨ml, m0, m1⟩, ⟨xl, x0, x1, x2, x3, x4, x5⟩, ⟨yl, y0, y1, y2, y3, y4, y5⟩⟩ := HM.out _ XB.out
  clear hw8 SM z0 z1 z5 zl v0 v1 v2 v3 v4 v5
  by_cases nb0 : ¬ nb = 0
  · have e3 : ((nb : Int) == 0) = false := by rw [beq_eq_false_iff_ne]; omega
    clear nb0
    go_wp2_with first
      | (go_at_call 12; (with_reducible refine (GX.out _ XB.out).mono ?_); rintro e wn ⟨rfl, h1⟩; have XB := hide (chain XB.out h1 (Nat.le_refl _)); obtain ⟨⟨ml, m0, m1⟩, ⟨xl, x0, x1, x2, x3, x4, x5⟩, ⟨yl, y0, y1, y2, y3, y4, y5⟩⟩ := HM.out _ XB.out; clear h1)
      | (go_at_call 12; (with_reducible refine (GY.out _ XB.out).mono ?_); rintro e wn ⟨rfl, h1⟩; have XB := hide (chain XB.out h1 (Nat.le_refl _)); obtain ⟨⟨ml, m0, m1⟩, ⟨xl, x0, x1, x2, x3, x4, x5⟩, ⟨yl, y0, y1, y2, y3, y4, y5⟩⟩ := HM.out _ XB.out; clear h1)
      | (go_at_call 13; (with_reducible refine (DX.out _ XB.out).mono ?_); rintro e wn ⟨rfl, h1⟩; have XB := hide (chain XB.out h1 (Nat.le_refl _)); obtain ⟨⟨ml, m0, m1⟩, ⟨xl, x0, x1, x2, x3, x4, x5⟩, ⟨yl, y0, y1, y2, y3, y4, y5⟩⟩ := HM.out _ XB.out; clear h1)
      | (go_at_call 13; (with_reducible refine (DY.out _ XB.out).mono ?_); rintro e wn ⟨rfl, h1⟩; have XB := hide (chain XB.out h1 (Nat.le_refl _)); obtain ⟨⟨ml, m0, m1⟩, ⟨xl, x0, x1, x2, x3, x4, x5⟩, ⟨yl, y0, y1, y2, y3, y4, y5⟩⟩ := HM.out _ XB.out; clear h1)
    go_ret
    exact ⟨by simp, chain ST.out.bel XB.out (Nat.le_refl _)⟩
  have nb0 : nb = 0 := by omega
  subst nb0
  by_cases db0 : ¬ db < 40
  · have e4 : ¬ (db : Int) < 40 := by omega
    go_wp2_with first
      | (go_at_call 12; (with_reducible refine (GX.out _ XB.out).mono ?_); rintro e wn ⟨rfl, h1⟩; have XB := hide (chain XB.out h1 (Nat.le_refl _)); obtain ⟨⟨ml, m0, m1⟩, ⟨xl, x0, x1, x2, x3, x4, x5⟩, ⟨yl, y0, y1, y2, y3, y4, y5⟩⟩ := HM.out _ XB.out; clear h1)
      | (go_at_call 12; (with_reducible refine (GY.out _ XB.out).mono ?_); rintro e wn ⟨rfl, h1⟩; have XB := hide (chain XB.out h1 (Nat.le_refl _)); obtain ⟨⟨ml, m0, m1⟩, ⟨xl, x0, x1, x2, x3, x4, x5⟩, ⟨yl, y0, y1, y2, y3, y4, y5⟩⟩ := HM.out _ XB.out; clear h1)
      | (go_at_call 13; (with_reducible refine (DX.out _ XB.out).mono ?_); rintro e wn ⟨rfl, h1⟩; have XB := hide (chain XB.out h1 (Nat.le_refl _)); obtain ⟨⟨ml, m0, m1⟩, ⟨xl, x0, x1, x2, x3, x4, x5⟩, ⟨yl, y0, y1, y2, y3, y4, y5⟩⟩ := HM.out _ XB.out; clear h1)
      | (go_at_call 13; (with_reducible refine (DY.out _ XB.out).mono ?_); rintro e wn ⟨rfl, h1⟩; have XB := hide (chain XB.out h1 (Nat.le_refl _)); obtain ⟨⟨ml, m0, m1⟩, ⟨xl, x0, x1, x2, x3, x4, x5⟩, ⟨yl, y0, y1, y2, y3, y4, y5⟩⟩ := HM.out _ XB.out; clear h1)
    go_ret
    exact ⟨by simp, chain ST.out.bel XB.out (Nat.le_refl _)⟩
  have db0 : db < 40 := by omega
  have e4 : (db : Int) < 40 := by omega
  have PO := hide (HO.out (by first | trivial | omega) (by first | trivial | omega) (by first | trivial | omega) (by first | trivial | omega))
  go_upto_region 14 with first
      | (go_at_call 12; (with_reducible refine (GX.out _ XB.out).mono ?_); rintro e wn ⟨rfl, h1⟩; have XB := hide (chain XB.out h1 (Nat.le_refl _)); obtain ⟨⟨ml, m0, m1⟩, ⟨xl, x0, x1, x2, x3, x4, x5⟩, ⟨yl, y0, y1, y2, y3, y4, y5⟩⟩ := HM.out _ XB.out; clear h1)
      | (go_at_call 12; (with_reducible refine (GY.out _ XB.out).mono ?_); rintro e wn ⟨rfl, h1⟩; have XB := hide (chain XB.out h1 (Nat.le_refl _)); obtain ⟨⟨ml, m0, m1⟩, ⟨xl, x0, x1, x2, x3, x4, x5⟩, ⟨yl, y0, y1, y2, y3, y4, y5⟩⟩ := HM.out _ XB.out; clear h1)
      | (go_at_call 13; (with_reducible refine (DX.out _ XB.out).mono ?_); rintro e wn ⟨rfl, h1⟩; have XB := hide (chain XB.out h1 (Nat.le_refl _)); obtain ⟨⟨ml, m0, m1⟩, ⟨xl, x0, x1, x2, x3, x4, x5⟩, ⟨yl, y0, y1, y2, y3, y4, y5⟩⟩ := HM.out _ XB.out; clear h1)
      | (go_at_call 13; (with_reducible refine (DY.out _ XB.out).mono ?_); rintro e wn ⟨rfl, h1⟩; have XB := hide (chain XB.out h1 (Nat.le_refl _)); obtain ⟨⟨ml, m0, m1⟩, ⟨xl, x0, x1, x2, x3, x4, x5⟩, ⟨yl, y0, y1, y2, y3, y4, y5⟩⟩ := HM.out _ XB.out; clear h1)
      | (go_at_call 9; (with_reducible refine (PO.out _ (chain ST.out.bel XB.out (Nat.le_refl _))).mono ?_); rintro e w9 ⟨tw, rfl, h1, h2, h3, h4⟩; have B9 := hide h4; have TO := hide h1; have EO := hide h2; clear h1 h2 h3 h4)
  have bA : Below w9.heap.size w9 (w9.alloc (.cells #[.int .i64 tw.f.k, .int .i64 tw.f.n, .int .i64 tw.f.mn, .int .i64 tw.f.mx, .slice tw.f.rq tw.f.rs.length tw.f.rc, .slice tw.f.kq tw.f.kl tw.f.kc] 28)) := (Below.refl _ _).alloc (Nat.le_refl _) _
  have SO := hide (sees6_new w9 tw.f)
  have XB := hide (chain (chain XB.out B9.out (Nat.le_refl _)) bA (Nat.le_refl _))
  have TOA := hide (TO.out.kept bA)
  generalize w9.heap.size = bo at SO ⊢
  generalize (w9.alloc (.cells #[.int .i64 tw.f.k, .int .i64 tw.f.n, .int .i64 tw.f.mn, .int .i64 tw.f.mx, .slice tw.f.rq tw.f.rs.length tw.f.rc, .slice tw.f.kq tw.f.kl tw.f.kc] 28)) = WA at SO XB TOA ⊢
  obtain ⟨⟨ml, m0, m1⟩, ⟨xl, x0, x1, x2, x3, x4, x5⟩, ⟨yl, y0, y1, y2, y3, y4, y5⟩⟩ := HM.out _ XB.out
  obtain ⟨ol, o0, o1, o2, o3, o4, o5⟩ := SO.out
  have bC : Below WA.heap.size WA (WA.alloc (.cells #[.int .i64 tx.f.k, .int .i64 tx.f.n, .int .i64 tx.f.mn, .int .i64 tx.f.mx, .slice tx.f.rq tx.f.rs.length tx.f.rc, .slice tx.f.kq tx.f.kl tx.f.kc, .int .i64 ty.f.k, .int .i64 ty.f.n, .int .i64 ty.f.mn, .int .i64 ty.f.mx, .slice ty.f.rq ty.f.rs.length ty.f.rc, .slice ty.f.kq ty.f.kl ty.f.kc] 28)).drew := ((Below.refl _ _).alloc (Nat.le_refl _) _).drew
  have NC : (WA.alloc (.cells #[.int .i64 tx.f.k, .int .i64 tx.f.n, .int .i64 tx.f.mn, .int .i64 tx.f.mx, .slice tx.f.rq tx.f.rs.length tx.f.rc, .slice tx.f.kq tx.f.kl tx.f.kc, .int .i64 ty.f.k, .int .i64 ty.f.n, .int .i64 ty.f.mn, .int .i64 ty.f.mx, .slice ty.f.rq ty.f.rs.length ty.f.rc, .slice ty.f.kq ty.f.kl ty.f.kc] 28)).drew.heap[WA.heap.size]? = some (.cells #[.int .i64 tx.f.k, .int .i64 tx.f.n, .int .i64 tx.f.mn, .int .i64 tx.f.mx, .slice tx.f.rq tx.f.rs.length tx.f.rc, .slice tx.f.kq tx.f.kl tx.f.kc, .int .i64 ty.f.k, .int .i64 ty.f.n, .int .i64 ty.f.mn, .int .i64 ty.f.mx, .slice ty.f.rq ty.f.rs.length ty.f.rc, .slice ty.f.kq ty.f.kl ty.f.kc] 28) := alloc_new WA _
  have AC := hide (alt_two NC ((ST.out.tx.kept XB.out).kept bC) ((ST.out.ty.kept XB.out).kept bC) (by rw [EX.out, EY.out, te_sz, te_sz]; omega))
  have BC := hide bC
  clear bC NC
  go_region_with first
    | (go_at_call 15; (with_reducible refine (AC.out).mono ?_); rintro e wB ⟨tB, rfl, h1, h2, h3, h4⟩; have bB := BC.out.trans (h4.mono BC.out.size); have XC := hide (chain XB.out bB (Nat.le_refl _)); obtain ⟨pl, p0, p1, p2, p3, p4, p5⟩ := SO.out.kept bB; have SMC := hide (same_yes8 (TOA.out.kept bB) h1 (by rw [EO.out, h2, EX.out, EY.out, orP_te hwa hwb]) (by rw [EO.out, te_sz]; exact hzo)); clear h1 h2 h3 h4 bB)
    | (go_at_call 14; (with_reducible refine (SMC.out).mono ?_); rintro e wD ⟨rfl, h1⟩; have XD := hide (chain XC.out h1 (Nat.le_refl _)); clear h1)
  all_goals (
    go_wp2
    go_ret
    exact ⟨by simp, chain ST.out.bel XD.out (Nat.le_refl _)⟩)
end Go.Proofs.YtpfdapnfkghgkaaGreatDoor
namespace Go.Proofs.YtpfdapnfkghgkaaGreatDoor
open Go Go.RowKit
attribute [local go_sem] ext_cell

def keepP (m : Md) (t : ByteArray) (k : Nat) : List UInt8 := (t.data.toList.take k).filter (keepB m)
theorem keepP_next {m : Md} {t : ByteArray} {k : Nat} {x : UInt8} (h : t.data.toList[k]? = some x) : keepP m t (k + 1) = keepP m t k ++ (if keepB m x then [x] else []) := by
  unfold keepP
  rw [List.take_add_one, h, List.filter_append]
  congr 1
  cases hl : keepB m x <;> simp [hl]
theorem keepP_len (m : Md) (t : ByteArray) (k : Nat) : (keepP m t k).length ≤ k := Nat.le_trans (List.length_filter_le _ _) (by rw [List.length_take]; omega)
theorem keepP_all (m : Md) (t : ByteArray) (k : Nat) : ∀ x ∈ keepP m t k, keepB m x = true := fun _ hx => (List.mem_filter.1 hx).2
theorem encP_len (R : List UInt8) : (R.flatMap encP).length ≤ 2 * R.length := by
  induction R with
  | nil => simp
  | cons x R ih =>
    rw [List.flatMap_cons, List.length_append, List.length_cons]
    have : (encP x).length ≤ 2 := by unfold encP; split <;> simp
    omega
theorem ext_one {t : ByteArray} {k : Nat} {x : UInt8} (h : t.data.toList[k]? = some x) : t.extract k (k + 1) = ofL [x] := by
  apply ByteArray.ext
  apply Array.ext'
  rw [ByteArray.data_extract, Array.toList_extract, List.extract_eq_take_drop, Nat.add_sub_cancel_left, List.take_one, List.head?_drop, h]
  rfl
/-- What Literal makes of such a text. -/
theorem lit_yes {m : Md} {R : List UInt8} (hR : ∀ x ∈ R, keepB m x = true) (hl : R.length ≤ 900) (w : World) :
    Calls Tryz.prog 18 #[.string (ofL R), .agg #[.bool m.c, .bool m.f]] w fun e w' => ∃ t', e = .returned (.tuple #[.agg #[.int .i64 t'.f.k, .int .i64 t'.f.n, .int .i64 t'.f.mn, .int .i64 t'.f.mx, .slice t'.f.rq t'.f.rs.length t'.f.rc, .slice t'.f.kq t'.f.kl t'.f.kc], .int .i64 0]) ∧ TA w' t' ∧ er t' = te (mkB (R.map (lfB m))) ∧ Below w.heap.size w w' := by
  refine (literal_c (ofL R) w m.c m.f (by rw [ofL_size]; omega)).mono fun e w' h => ?_
  have hL := lit_list R hR
  rcases h with h | ⟨h, t, L, h1, h2, h3, h4, h5⟩
  · exact absurd hL.1 h.1
  · rw [hL.2] at h4
    exact ⟨t, h1, h2, by rw [h3, te_lits, ecs_leaves h4 (fun x hx => keep_char (hR x hx))], h5⟩
/-- Where the mode lies. -/
structure LtSt (w : World) (m : Md) (W : World) : Prop where
  bel : Below w.heap.size w W
  md : SeesM W w.heap.size m
theorem LtSt.kept {w : World} {m : Md} {W W' : World} (h : LtSt w m W) (hb : Below W.heap.size W W') : LtSt w m W' := ⟨chain h.bel hb (Nat.le_refl _), h.md.kept hb⟩
structure BoxL (W : World) (b : Nat) (t : Tr) (x : Er) : Prop where
  sx : Sees6 W b t.f
  ta : TA W t
  er : er t = x
theorem BoxL.kept {W W' : World} {b : Nat} {t : Tr} {x : Er} (h : BoxL W b t x) (hb : Below W.heap.size W W') : BoxL W' b t x := ⟨h.sx.kept hb, h.ta.kept hb, h.er⟩
theorem boxL_new {W : World} {t : Tr} {x : Er} (h : TA W t) (he : Go.Proofs.YtpfdapnfkghgkaaGreatDoor.er t = x) : BoxL (W.alloc (.cells #[.int .i64 t.f.k, .int .i64 t.f.n, .int .i64 t.f.mn, .int .i64 t.f.mx, .slice t.f.rq t.f.rs.length t.f.rc, .slice t.f.kq t.f.kl t.f.kc] 28)) W.heap.size t x :=
  ⟨sees6_new W t.f, h.kept ((Below.refl _ _).alloc (Nat.le_refl _) _), he⟩
set_option maxRecDepth 100000 in
set_option maxHeartbeats 16000000 in
theorem lit_short {w : World} (hG : Glb w) (x : ByteArray) (hx : x.size ≤ 900) (m : Md) : Calls Tryz.prog 6 #[.string x, .agg #[.bool m.c, .bool m.f]] w fun e w' => e = .returned (.bool true) ∧ Below w.heap.size w w' := by
  obtain ⟨s, hs0⟩ : ∃ s, s = x := ⟨_, rfl⟩
  subst hs0
  have dlt : ¬ (900 : Int) < (s.size : Int) := by omega
  have BX : Hid (Below w.heap.size w (boxM9 w m)) := (Below.refl _ _).alloc (Nat.le_refl _) _
  have HE := hide (examples9_c (hG.kept BX.out))
  have M0 := hide (seesM_new w m)
  have zR : (keepP m s s.size).length ≤ 900 := Nat.le_trans (keepP_len m s s.size) hx
  have HP : Hid (∀ W, Below w.heap.size w W → PCall (ofL ((keepP m s s.size).flatMap encP)) m W (ParseOk W (mkB ((keepP m s s.size).map (lfB m))))) := fun W hW => (by
    obtain ⟨T, hT⟩ := takes_plain (m := m) (s := ofL ((keepP m s s.size).flatMap encP)) (R := keepP m s s.size) rfl (keepP_all m s s.size) (by rw [ofL_size]; have := encP_len (keepP m s s.size); omega) zR
    exact hT.calls (hG.kept hW))
  have HT := hide (lit_yes (keepP_all m s s.size) zR)
  have ZS : Hid ((mkB ((keepP m s s.size).map (lfB m))).sz ≤ 2000) := (by
    obtain ⟨T, hT⟩ := takes_plain (m := m) (s := ofL ((keepP m s s.size).flatMap encP)) (R := keepP m s s.size) rfl (keepP_all m s s.size) (by rw [ofL_size]; have := encP_len (keepP m s s.size); omega) zR
    exact hT.sz)
  clear hG zR
  go_enter Tryz.func6, Tryz.ntmps6
  go_wp2_with (go_at_call 8; (with_reducible refine (HE.out).mono ?_); rintro e w5 ⟨rfl, h1⟩; have ST := hide (LtSt.mk (chain BX.out h1 (Nat.le_refl _)) (M0.out.kept h1)); obtain ⟨ml, m0, m1⟩ := ST.out.md; clear h1)
  clear BX HE M0
  go_loopw [6, 7, 8] (fun a b i wr => ∃ k : Nat, k ≤ s.size ∧ a = .string (ofL ((keepP m s k).flatMap encP)) ∧ b = .string (ofL (keepP m s k)) ∧ i = .int .i64 (k : Int) ∧ wr = w5) (fun _ _ i _ => s.size - (intOf i).toNat)
  case atStart => exact ⟨0, Nat.zero_le _, rfl, rfl, rfl, rfl⟩
  case round =>
    obtain ⟨k, hk, rfl, rfl, rfl, hw⟩ := hrel
    replace hw := hw.symm
    subst hw
    rcases Nat.lt_or_ge k s.size with hlt | hge
    · obtain ⟨y, hy⟩ : ∃ y, s[k]'hlt = y := ⟨_, rfl⟩
      have gy : s.data.toList[k]? = some y := by rw [← hy]; exact List.getElem?_eq_getElem (by rw [size_list]; exact hlt)
      have hnx := keepP_next (m := m) gy
      have z1 : (ofL ((keepP m s k).flatMap encP)).size ≤ 1800 := by
        rw [ofL_size]
        have h1 := encP_len (keepP m s k)
        have h2 := keepP_len m s k
        omega
      have z2 : (ofL (keepP m s k)).size ≤ 900 := by rw [ofL_size]; have := keepP_len m s k; omega
      obtain ⟨c, hc⟩ : ∃ c, s.extract k (k + 1) = c := ⟨_, rfl⟩
      have hcc : c = ofL [y] := hc.symm.trans (ext_one gy)
      have hcs : c.size = 1 := by rw [hcc, ofL_size]; rfl
      have NX : Hid (keepP m s (k + 1) = keepP m s k ++ (if keepB m y then [y] else [])) := hnx
      have RP : Hid (keepB m y = true → plainB y = true → ofL (keepP m s k) ++ c = ofL (keepP m s (k + 1)) ∧ ofL ((keepP m s k).flatMap encP) ++ c = ofL ((keepP m s (k + 1)).flatMap encP)) := fun hb hp => (by
        have e : [y].flatMap encP = [y] := by simp [encP, hp]
        rw [NX.out, hb, if_pos rfl, List.flatMap_append, e, hcc]
        exact ⟨ofL_app _ _, ofL_app _ _⟩)
      have RS : Hid (keepB m y = true → plainB y = false → ofL (keepP m s k) ++ c = ofL (keepP m s (k + 1)) ∧ ofL ((keepP m s k).flatMap encP) ++ ⟨#[92]⟩ ++ c = ofL ((keepP m s (k + 1)).flatMap encP)) := fun hb hp => (by
        have e : [y].flatMap encP = [92, y] := by simp [encP, hp]
        rw [NX.out, hb, if_pos rfl, List.flatMap_append, e, hcc]
        refine ⟨ofL_app _ _, ?_⟩
        show ofL ((keepP m s k).flatMap encP) ++ ofL [92] ++ ofL [y] = _
        rw [ofL_app, ofL_app, List.append_assoc]
        rfl)
      have j0 : (0 : Int) ≤ (k : Int) := by omega
      have j1 : (k : Int) < (s.size : Int) := by omega
      have j2 : (k : Int) ≤ (k : Int) + 1 := by omega
      have j3 : (k : Int) + 1 ≤ (s.size : Int) := by omega
      have j4 : ((k : Int) + 1).toNat = k + 1 := by omega
      have j5 : ¬ s.size < k + 1 := by omega
      have hw1 : IntKind.wrap .i64 ((k : Int) + 1) = (k : Int) + 1 := wrap_small _ (by omega) (by omega)
      have hyl : y.toNat < 256 := UInt8.toNat_lt y
      clear hcc hnx gy
      by_cases hlo : y.toNat < 128
      · have i1 : ¬ (127 : Int) < (y.toNat : Int) := by omega
        have hkp : keepB m y = true := by unfold keepB low; simp [hlo]
        cases hp : plainB y with
        | true =>
          obtain ⟨n1, n2, n3, n4, n5, n6⟩ := plain_not hp
          have c0 : ((y.toNat : Int) == 92) = false := by simp; omega
          have c1 : ((y.toNat : Int) == 91) = false := by simp; omega
          have c2 : ((y.toNat : Int) == 46) = false := by simp; omega
          have c3 : ((y.toNat : Int) == 42) = false := by simp; omega
          have c4 : ((y.toNat : Int) == 94) = false := by simp; omega
          have c5 : ((y.toNat : Int) == 36) = false := by simp; omega
          have R1 := hide (RP.out hkp hp)
          clear n1 n2 n3 n4 n5 n6 NX RP RS hkp
          generalize ofL (keepP m s k) = NN at *
          generalize ofL ((keepP m s k).flatMap encP) = SS at *
          have s1 : ¬ 9223372036854775807 < SS.size + 1 := by omega
          have s3 : ¬ 9223372036854775807 < SS.size + 1 + 1 := by omega
          have s2 : ¬ 9223372036854775807 < NN.size + 1 := by omega
          go_wp2
          go_roundw
          case rel => exact ⟨k + 1, by omega, congrArg Value.string R1.out.2, congrArg Value.string R1.out.1, by go_num, by first | rfl | trivial⟩
          case measure => simp only [intOf]; omega
        | false =>
          have R1 := hide (RS.out hkp hp)
          have hsp : y.toNat = 92 ∨ y.toNat = 91 ∨ y.toNat = 46 ∨ y.toNat = 42 ∨ y.toNat = 94 ∨ y.toNat = 36 := by rcases special hp with rfl | rfl | rfl | rfl | rfl | rfl <;> decide
          clear NX RP RS hkp
          generalize ofL (keepP m s k) = NN at *
          generalize ofL ((keepP m s k).flatMap encP) = SS at *
          have s1 : ¬ 9223372036854775807 < SS.size + 1 := by omega
          have s3 : ¬ 9223372036854775807 < SS.size + 1 + 1 := by omega
          have s2 : ¬ 9223372036854775807 < NN.size + 1 := by omega
          rcases hsp with hq | hq | hq | hq | hq | hq
          · have c0 : ((y.toNat : Int) == 92) = true := by simp; omega
            clear hq
            go_wp2
            go_roundw
            case rel => exact ⟨k + 1, by omega, congrArg Value.string R1.out.2, congrArg Value.string R1.out.1, by go_num, by first | rfl | trivial⟩
            case measure => simp only [intOf]; omega
          · have c0 : ((y.toNat : Int) == 92) = false := by simp; omega
            have c1 : ((y.toNat : Int) == 91) = true := by simp; omega
            clear hq
            go_wp2
            go_roundw
            case rel => exact ⟨k + 1, by omega, congrArg Value.string R1.out.2, congrArg Value.string R1.out.1, by go_num, by first | rfl | trivial⟩
            case measure => simp only [intOf]; omega
          · have c0 : ((y.toNat : Int) == 92) = false := by simp; omega
            have c1 : ((y.toNat : Int) == 91) = false := by simp; omega
            have c2 : ((y.toNat : Int) == 46) = true := by simp; omega
            clear hq
            go_wp2
            go_roundw
            case rel => exact ⟨k + 1, by omega, congrArg Value.string R1.out.2, congrArg Value.string R1.out.1, by go_num, by first | rfl | trivial⟩
            case measure => simp only [intOf]; omega
          · have c0 : ((y.toNat : Int) == 92) = false := by simp; omega
            have c1 : ((y.toNat : Int) == 91) = false := by simp; omega
            have c2 : ((y.toNat : Int) == 46) = false := by simp; omega
            have c3 : ((y.toNat : Int) == 42) = true := by simp; omega
            clear hq
            go_wp2
            go_roundw
            case rel => exact ⟨k + 1, by omega, congrArg Value.string R1.out.2, congrArg Value.string R1.out.1, by go_num, by first | rfl | trivial⟩
            case measure => simp only [intOf]; omega
          · have c0 : ((y.toNat : Int) == 92) = false := by simp; omega
            have c1 : ((y.toNat : Int) == 91) = false := by simp; omega
            have c2 : ((y.toNat : Int) == 46) = false := by simp; omega
            have c3 : ((y.toNat : Int) == 42) = false := by simp; omega
            have c4 : ((y.toNat : Int) == 94) = true := by simp; omega
            clear hq
            go_wp2
            go_roundw
            case rel => exact ⟨k + 1, by omega, congrArg Value.string R1.out.2, congrArg Value.string R1.out.1, by go_num, by first | rfl | trivial⟩
            case measure => simp only [intOf]; omega
          · have c0 : ((y.toNat : Int) == 92) = false := by simp; omega
            have c1 : ((y.toNat : Int) == 91) = false := by simp; omega
            have c2 : ((y.toNat : Int) == 46) = false := by simp; omega
            have c3 : ((y.toNat : Int) == 42) = false := by simp; omega
            have c4 : ((y.toNat : Int) == 94) = false := by simp; omega
            have c5 : ((y.toNat : Int) == 36) = true := by simp; omega
            clear hq
            go_wp2
            go_roundw
            case rel => exact ⟨k + 1, by omega, congrArg Value.string R1.out.2, congrArg Value.string R1.out.1, by go_num, by first | rfl | trivial⟩
            case measure => simp only [intOf]; omega
      · have i1 : (127 : Int) < (y.toNat : Int) := by omega
        cases hmc : m.c with
        | true =>
          have hkp : keepB m y = false := by unfold keepB low; simp [hlo, hmc]
          have R1 : Hid (keepP m s k = keepP m s (k + 1)) := (by rw [NX.out, hkp]; simp : keepP m s k = keepP m s (k + 1))
          rw [hmc] at m0
          clear NX RP RS hkp
          go_wp2
          go_roundw
          case rel => exact ⟨k + 1, by omega, by rw [R1.out], by rw [R1.out], by go_num, by first | rfl | trivial⟩
          case measure => simp only [intOf]; omega
        | false =>
          have hkp : keepB m y = true := by unfold keepB; simp [hmc]
          have hp : plainB y = true := by
            cases hp : plainB y with
            | true => rfl
            | false => exact absurd (by rcases special hp with rfl | rfl | rfl | rfl | rfl | rfl <;> decide) hlo
          obtain ⟨n1, n2, n3, n4, n5, n6⟩ := plain_not hp
          have c0 : ((y.toNat : Int) == 92) = false := by simp; omega
          have c1 : ((y.toNat : Int) == 91) = false := by simp; omega
          have c2 : ((y.toNat : Int) == 46) = false := by simp; omega
          have c3 : ((y.toNat : Int) == 42) = false := by simp; omega
          have c4 : ((y.toNat : Int) == 94) = false := by simp; omega
          have c5 : ((y.toNat : Int) == 36) = false := by simp; omega
          have R1 := hide (RP.out hkp hp)
          rw [hmc] at m0
          clear n1 n2 n3 n4 n5 n6 NX RP RS hkp
          generalize ofL (keepP m s k) = NN at *
          generalize ofL ((keepP m s k).flatMap encP) = SS at *
          have s1 : ¬ 9223372036854775807 < SS.size + 1 := by omega
          have s3 : ¬ 9223372036854775807 < SS.size + 1 + 1 := by omega
          have s2 : ¬ 9223372036854775807 < NN.size + 1 := by omega
          go_wp2
          go_roundw
          case rel => exact ⟨k + 1, by omega, congrArg Value.string R1.out.2, congrArg Value.string R1.out.1, by go_num, by first | rfl | trivial⟩
          case measure => simp only [intOf]; omega
    · have hke : k = s.size := by omega
      subst hke
      have j1 : ¬ (s.size : Int) < (s.size : Int) := by omega
      generalize keepP m s s.size = R at HP HT ZS ⊢
      generalize ofL (R.flatMap encP) = SS at HP ⊢
      generalize ofL R = NN at HT ⊢
      generalize mkB (R.map (lfB m)) = X at HP HT ZS
      clear hge
      go_wp2_with first
        | (go_at_call 9; (with_reducible refine (HP.out _ ST.out.bel).mono ?_); rintro e w6 ⟨tx, rfl, h1, h2, h3, h4⟩; have b2 := ((Below.refl w6.heap.size w6).alloc (Nat.le_refl _) (.cells #[.int .i64 tx.f.k, .int .i64 tx.f.n, .int .i64 tx.f.mn, .int .i64 tx.f.mx, .slice tx.f.rq tx.f.rs.length tx.f.rc, .slice tx.f.kq tx.f.kl tx.f.kc] 28)); have bb := chain h4 b2 (Nat.le_refl _); have ST := hide (ST.out.kept bb); have BA := hide (boxL_new h1 h2); obtain ⟨ml, m0, m1⟩ := ST.out.md; clear h1 h2 h3 h4 b2 bb)
        | (go_at_call 18; (with_reducible refine (HT.out _).mono ?_); rintro e w7 ⟨ty, rfl, h1, h2, h4⟩; have b2 := ((Below.refl w7.heap.size w7).alloc (Nat.le_refl _) (.cells #[.int .i64 ty.f.k, .int .i64 ty.f.n, .int .i64 ty.f.mn, .int .i64 ty.f.mx, .slice ty.f.rq ty.f.rs.length ty.f.rc, .slice ty.f.kq ty.f.kl ty.f.kc] 28)); have bb := chain h4 b2 (Nat.le_refl _); have ST := hide (ST.out.kept bb); have BA := hide (BA.out.kept bb); have BB := hide (boxL_new h1 h2); obtain ⟨ql, q0, q1, q2, q3, q4, q5⟩ := BA.out.sx; obtain ⟨rl, r0, r1, r2, r3, r4, r5⟩ := BB.out.sx; clear h1 h2 h4 b2 bb)
        | (go_at_call 14; (with_reducible refine (same_yes8 BA.out.ta BB.out.ta ?_ ?_).mono ?_); (rw [BA.out.er, BB.out.er]); (rw [BA.out.er, te_sz]; exact ZS.out); rintro e w8 ⟨rfl, bb⟩; have ST := hide (ST.out.kept bb); clear bb)
      go_ret
      exact ⟨by simp, ST.out.bel⟩
end Go.Proofs.YtpfdapnfkghgkaaGreatDoor
