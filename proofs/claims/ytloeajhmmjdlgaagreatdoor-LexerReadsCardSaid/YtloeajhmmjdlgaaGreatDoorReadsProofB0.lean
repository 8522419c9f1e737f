/-
  The document's reader in memory; what stands where; what is wrong first. What the document's units need. The document's own answer: Is, text. The document's own answer: Next.
-/
import Derived.Test.YtloeajhmmjdlgaaGreatDoorC2
import Derived.Test.YtloeajhmmjdlgaaGreatDoorC1
import Derived.Laws.IdiomStrings
import Derived.Laws.BytesArg
namespace Go.Proofs.YtloeajhmmjdlgaaGreatDoor
open Go Go.RowKit
attribute [local go_sem] ext_cell

/-- The document's reader in memory. -/
def SX (w : World) (b : Nat) (s : ByteArray) (m : Md) (p : Nat) (tv : Value) (e a : Nat) : Prop :=
  w.heap[b]? = some (.cells #[.string s, .bool m.c, .bool m.f, .int .i64 (p : Int), tv, .int .i64 (e : Int), .int .i64 (a : Int)] 44 (0, 0))
section
variable {w w' : World} {b : Nat} {s : ByteArray} {m : Md} {p : Nat} {tv : Value} {e a : Nat}
theorem SX.lt (h : SX w b s m p tv e a) : b < w.heap.size := lt_of_heap h
theorem SX.kept (h : SX w b s m p tv e a) (hb : Below w.heap.size w w') : SX w' b s m p tv e a := (hb.block b h.lt).trans h
theorem SX.fr {S : Nat → Prop} (h : SX w b s m p tv e a) (hb : Fr S w w') (hn : ¬ S b) : SX w' b s m p tv e a := (hb.block b h.lt hn).trans h
theorem SX.c0 (h : SX w b s m p tv e a) : w.cell? ⟨b, 0, none⟩ = some (.string s) := cell_row h (i := 0) rfl
theorem SX.c1 (h : SX w b s m p tv e a) : w.cell? ⟨b, 1, none⟩ = some (.bool m.c) := cell_row h (i := 1) rfl
theorem SX.c2 (h : SX w b s m p tv e a) : w.cell? ⟨b, 2, none⟩ = some (.bool m.f) := cell_row h (i := 2) rfl
theorem SX.c3 (h : SX w b s m p tv e a) : w.cell? ⟨b, 3, none⟩ = some (.int .i64 (p : Int)) := cell_row h (i := 3) rfl
theorem SX.c4 (h : SX w b s m p tv e a) : w.cell? ⟨b, 4, none⟩ = some tv := cell_row h (i := 4) rfl
theorem SX.c5 (h : SX w b s m p tv e a) : w.cell? ⟨b, 5, none⟩ = some (.int .i64 (e : Int)) := cell_row h (i := 5) rfl
theorem SX.c6 (h : SX w b s m p tv e a) : w.cell? ⟨b, 6, none⟩ = some (.int .i64 (a : Int)) := cell_row h (i := 6) rfl
theorem SX.frz (h : SX w b s m p tv e a) (i : Nat) : w.frozen? ⟨b, i, none⟩ = false := frz_row h i
end

set_option maxRecDepth 100000 in
set_option maxHeartbeats 1000000 in
theorem rno_new {w : World} {b : Nat} {s : ByteArray} {m : Md} {p : Nat} {tv : Value} {a : Nat} (h : SX w b s m p tv 0 a) (x y : Nat) :
    Calls Tryz.prog 19 #[.pointer (some ⟨b, 0, none⟩), .int .i64 (x : Int), .int .i64 (y : Int)] w fun r w' => r = .returned (.tuple #[]) ∧ SX w' b s m p tv x y ∧ Fr (At b) w w' := by
  have c5 : w.cell? ⟨b, 5, none⟩ = some (.int .i64 0) := h.c5
  have lb := h.lt
  have f5 := h.frz 5
  have f6 := (show SX (w.setCell ⟨b, 5, none⟩ (.int .i64 (x : Int))) b s m p tv x a from heap_set_in h 5 _).frz 6
  have c6 := (show SX (w.setCell ⟨b, 5, none⟩ (.int .i64 (x : Int))) b s m p tv x a from heap_set_in h 5 _).c6
  have H : Hid (SX ((w.setCell ⟨b, 5, none⟩ (.int .i64 (x : Int))).setCell ⟨b, 6, none⟩ (.int .i64 (y : Int))) b s m p tv x y) := heap_set_in (heap_set_in h 5 (.int .i64 (x : Int))) 6 (.int .i64 (y : Int))
  clear h
  go_enter Tryz.func19, Tryz.ntmps19
  go_wp2
  go_end0
  exact ⟨rfl, H.out, Fr.setCell (S := At b) (Fr.setCell (S := At b) (Fr.refl _ _) (p := ⟨b, 5, none⟩) rfl _) (p := ⟨b, 6, none⟩) rfl _⟩
set_option maxRecDepth 100000 in
set_option maxHeartbeats 1000000 in
theorem rno_old {w : World} {b : Nat} {s : ByteArray} {m : Md} {p : Nat} {tv : Value} {e a : Nat} (h : SX w b s m p tv e a) (he : e ≠ 0) (x y : Int) :
    Calls Tryz.prog 19 #[.pointer (some ⟨b, 0, none⟩), .int .i64 x, .int .i64 y] w fun r w' => r = .returned (.tuple #[]) ∧ w' = w := by
  have c5 := h.c5
  have lb := h.lt
  have d : ¬ (e : Int) = 0 := by omega
  have d2 : ((e : Int) == 0) = false := by simpa using d
  clear h
  go_enter Tryz.func19, Tryz.ntmps19
  go_wp2
  go_end0
  exact ⟨rfl, rfl⟩
theorem sees_eq {s t : ByteArray} {p : Nat} : ((s.extract p (p + t.size)).toList == t.toList) = sees s p t.data.toList := by
  rw [Lib.toList_data, Lib.toList_data, Bool.eq_iff_iff]
  unfold sees Lib.hasPrefix
  rw [List.isPrefixOf_iff_prefix, beq_iff_eq]
  have e1 : (s.extract p (p + t.size)).data.toList = (s.data.toList.drop p).take t.data.toList.length := by
    rw [ByteArray.data_extract, Array.toList_extract, size_list]
    simp [List.extract]
  rw [e1, List.prefix_iff_eq_take]
  exact eq_comm
theorem sees_off {s : ByteArray} {p : Nat} {t : List UInt8} (ht : t ≠ []) (h : ¬ p + t.length ≤ s.size) : sees s p t = false := by
  cases q : sees s p t with
  | false => rfl
  | true => exact absurd (sees_len q ht) h
set_option maxRecDepth 100000 in
set_option maxHeartbeats 1000000 in
theorem ris_c {w : World} {b : Nat} {s : ByteArray} {m : Md} {p : Nat} {tv : Value} {e a : Nat} (h : SX w b s m p tv e a) (hs : s.size ≤ 2000) (k : Nat) (hk : k ≤ 5000) (t : ByteArray) (ht : 0 < t.size) (ht2 : t.size ≤ 2) :
    Calls Tryz.prog 18 #[.pointer (some ⟨b, 0, none⟩), .int .i64 (k : Int), .string t] w fun r w' => r = .returned (.bool (sees s k t.data.toList)) ∧ Below w.heap.size w w' := by
  have c0 := h.c0
  have lb := h.lt
  have hl : t.data.toList.length = t.size := size_list t
  have hne : t.data.toList ≠ [] := fun q => by rw [q] at hl; simp at hl; omega
  have k0 : (0 : Int) ≤ (k : Int) := by omega
  have w2 : IntKind.wrap .i64 ((k : Int) + (t.size : Int)) = (k : Int) + (t.size : Int) := wrap_small _ (by omega) (by omega)
  clear h
  by_cases h1 : k ≤ s.size
  · have k1 : (k : Int) ≤ (s.size : Int) := by omega
    have w1 : IntKind.wrap .i64 ((s.size : Int) - (k : Int)) = (s.size : Int) - (k : Int) := wrap_small _ (by omega) (by omega)
    by_cases h2 : t.size ≤ s.size - k
    · have k2 : (t.size : Int) ≤ (s.size : Int) - (k : Int) := by omega
      have E : Hid (((s.extract k (k + t.size)).toList == t.toList) = sees s k t.data.toList) := sees_eq
      have k3 : (k : Int) ≤ (k : Int) + (t.size : Int) := by omega
      have k4 : (k : Int) + (t.size : Int) ≤ (s.size : Int) := by omega
      have k5 : ((k : Int) + (t.size : Int)).toNat = k + t.size := by omega
      go_enter Tryz.func18, Tryz.ntmps18
      go_wp2
      go_ret
      exact ⟨by rw [← E.out]; rfl, Below.refl _ _⟩
    · have k2 : ¬ (t.size : Int) ≤ (s.size : Int) - (k : Int) := by omega
      have E := sees_off (s := s) (p := k) hne (by rw [hl]; omega)
      rw [E]
      clear E
      go_enter Tryz.func18, Tryz.ntmps18
      go_wp2
      go_ret
      exact ⟨rfl, Below.refl _ _⟩
  · have k1 : ¬ (k : Int) ≤ (s.size : Int) := by omega
    have E := sees_off (s := s) (p := k) hne (by rw [hl]; omega)
    rw [E]
    clear E
    go_enter Tryz.func18, Tryz.ntmps18
    go_wp2
    go_ret
    exact ⟨rfl, Below.refl _ _⟩
def opn (last : Nat) : Bool := last == 0 || last == 3 || last == 5
set_option maxRecDepth 100000 in
set_option maxHeartbeats 2000000 in
theorem rbegin_c {w : World} {b : Nat} {s : ByteArray} {m : Md} {p : Nat} {tv : Value} {last : Nat} {x a : Nat} (h : SX w b s m p tv x a) (hk : LK w b tv last) :
    Calls Tryz.prog 16 #[.pointer (some ⟨b, 0, none⟩)] w fun e w' => e = .returned (.bool (atBeg last)) ∧ Below w.heap.size w w' := by
  have c4 := h.c4
  have lb := h.lt
  clear h
  rcases hk with ⟨rfl, rfl⟩ | ⟨g, n, c, rfl, h2, h3, h4, h5, h6⟩
  · go_enter Tryz.func16, Tryz.ntmps16
    go_wp2
    go_ret
    exact ⟨rfl, Below.refl _ _⟩
  · have hw1 : IntKind.wrap .i64 (((n + 1 : Nat) : Int) - 1) = (n : Int) := by rw [wrap_small _ (by omega) (by omega)]; omega
    have i0 : (0 : Int) ≤ (n : Int) := by omega
    have i1 : (n : Int) < ((n + 1 : Nat) : Int) := by omega
    have i2 : ¬ (n : Int) < 0 := by omega
    by_cases a3 : last = 3
    · subst a3
      go_enter Tryz.func16, Tryz.ntmps16
      go_wp2
      go_ret
      exact ⟨rfl, Below.refl _ _⟩
    by_cases a5 : last = 5
    · subst a5
      go_enter Tryz.func16, Tryz.ntmps16
      go_wp2
      go_ret
      exact ⟨rfl, Below.refl _ _⟩
    have e3 : ((last : Int) == 3) = false := by simp; omega
    have e5 : ((last : Int) == 5) = false := by simp; omega
    have e7 : Hid (((last : Int) == 7) = atBeg last) := by
      show ((last : Int) == 7) = atBeg last
      unfold atBeg
      rw [Bool.eq_iff_iff]
      simp
      omega
    go_enter Tryz.func16, Tryz.ntmps16
    go_wp2
    go_ret
    exact ⟨by rw [← e7.out]; rfl, Below.refl _ _⟩
set_option maxRecDepth 100000 in
set_option maxHeartbeats 2000000 in
theorem ropens_c {w : World} {b : Nat} {s : ByteArray} {m : Md} {p : Nat} {tv : Value} {last : Nat} {x a : Nat} (h : SX w b s m p tv x a) (hk : LK w b tv last) :
    Calls Tryz.prog 17 #[.pointer (some ⟨b, 0, none⟩)] w fun e w' => e = .returned (.bool (opn last)) ∧ Below w.heap.size w w' := by
  have c4 := h.c4
  have lb := h.lt
  clear h
  rcases hk with ⟨rfl, rfl⟩ | ⟨g, n, c, rfl, h2, h3, h4, h5, h6⟩
  · go_enter Tryz.func17, Tryz.ntmps17
    go_wp2
    go_ret
    exact ⟨rfl, Below.refl _ _⟩
  · have hw1 : IntKind.wrap .i64 (((n + 1 : Nat) : Int) - 1) = (n : Int) := by rw [wrap_small _ (by omega) (by omega)]; omega
    have i0 : (0 : Int) ≤ (n : Int) := by omega
    have i1 : (n : Int) < ((n + 1 : Nat) : Int) := by omega
    have i2 : ¬ (n : Int) < 0 := by omega
    by_cases a3 : last = 3
    · subst a3
      go_enter Tryz.func17, Tryz.ntmps17
      go_wp2
      go_ret
      exact ⟨rfl, Below.refl _ _⟩
    have e3 : ((last : Int) == 3) = false := by simp; omega
    have e7 : Hid (((last : Int) == 5) = opn last) := by
      show ((last : Int) == 5) = opn last
      unfold opn
      rw [Bool.eq_iff_iff]
      simp
      omega
    go_enter Tryz.func17, Tryz.ntmps17
    go_wp2
    go_ret
    exact ⟨by rw [← e7.out]; rfl, Below.refl _ _⟩
end Go.Proofs.YtloeajhmmjdlgaaGreatDoor
namespace Go.Proofs.YtloeajhmmjdlgaaGreatDoor
open Go Go.RowKit

def isC (c : Int) : Bool := decide (0 ≤ c ∧ c ≤ 1114111 ∧ (c < 55296 ∨ 57343 < c))
def txt (l : List UInt8) : ByteArray := ⟨l.toArray⟩

def sl (s : ByteArray) (p n : Nat) : List UInt8 := (s.data.toList.drop p).take n
theorem decL (s : ByteArray) (p : Nat) : Lib.decodeL (s.data.toList.drop p) = Utf8.decode s p := by
  rw [Lib.decodeL_N, Lib.decode_N, List.length_drop]
  simp only [List.getD_eq_getElem?_getD, List.getElem?_drop, Nat.add_zero]
theorem enc_sl (s : ByteArray) (p : Nat) (hp : p < s.size) (hb : bad s p = false) : Lib.encodeRune ((Utf8.decode s p).1 : Int) = sl s p (wd s p) := by
  have hne : s.data.toList.drop p ≠ [] := by
    intro e
    have := congrArg List.length e
    rw [List.length_drop, size_list] at this
    simp at this; omega
  have := Lib.encode_decode (s.data.toList.drop p) hne (by
    rw [decL]
    rintro ⟨h1, h2⟩
    have : bad s p = true := by
      unfold bad
      rw [decide_eq_true_eq]
      exact Prod.ext h1 h2
    rw [hb] at this; cases this)
  rw [decL] at this
  exact this
theorem ext_sl (s : ByteArray) (p n : Nat) : (s.extract p (p + n)).data.toList = sl s p n := by
  rw [ByteArray.data_extract, Array.toList_extract, List.extract_eq_take_drop]
  unfold sl
  congr 1
  omega

theorem bt_get (s : ByteArray) (i : Nat) (h : i < s.size) : (s[i]'h).toNat = bt s i := by
  have e : s.data.toList[i]? = some (s.data.toList[i]'(by rw [size_list]; exact h)) := List.getElem?_eq_getElem _
  unfold bt
  rw [List.getD_eq_getElem?_getD, e]
  rfl
theorem good_shape {s : ByteArray} {p : Nat} (hb : bad s p = false) : (bt s p < 128 ∧ Utf8.decode s p = (bt s p, 1)) ∨
    (1 < s.size - p ∧ bt s p / 32 = 6 ∧ bt s (p + 1) / 64 = 2 ∧ 128 ≤ bt s p % 32 * 64 + bt s (p + 1) % 64 ∧ Utf8.decode s p = (bt s p % 32 * 64 + bt s (p + 1) % 64, 2)) ∨
    (2 < s.size - p ∧ bt s p / 16 = 14 ∧ bt s (p + 1) / 64 = 2 ∧ bt s (p + 2) / 64 = 2 ∧ 2048 ≤ bt s p % 16 * 4096 + bt s (p + 1) % 64 * 64 + bt s (p + 2) % 64 ∧ Utf8.decode s p = (bt s p % 16 * 4096 + bt s (p + 1) % 64 * 64 + bt s (p + 2) % 64, 3)) ∨
    (3 < s.size - p ∧ bt s p / 8 = 30 ∧ bt s (p + 1) / 64 = 2 ∧ bt s (p + 2) / 64 = 2 ∧ bt s (p + 3) / 64 = 2 ∧ 65536 ≤ bt s p % 8 * 262144 + bt s (p + 1) % 64 * 4096 + bt s (p + 2) % 64 * 64 + bt s (p + 3) % 64 ∧ Utf8.decode s p = (bt s p % 8 * 262144 + bt s (p + 1) % 64 * 4096 + bt s (p + 2) % 64 * 64 + bt s (p + 3) % 64, 4)) := by
  have hn : Utf8.decode s p ≠ (65533, 1) := by simpa [bad] using hb
  have e := dec_eq s p
  rcases decN_cases (s.size - p) (bt s p) (bt s (p + 1)) (bt s (p + 2)) (bt s (p + 3)) with k | ⟨a1, k⟩ | ⟨a1, a2, a3, a4, k⟩ | ⟨a1, a2, a3, a4, a5, a6, k⟩ | ⟨a1, a2, a3, a4, a5, a6, a7, k⟩
  · rw [k] at e; exact absurd e hn
  · rw [k] at e; exact .inl ⟨a1, e⟩
  · rw [k] at e; exact .inr (.inl ⟨a1, a2, a3, a4, e⟩)
  · rw [k] at e; exact .inr (.inr (.inl ⟨a1, a2, a3, a4, a5, e⟩))
  · rw [k] at e; exact .inr (.inr (.inr ⟨a1, a2, a3, a4, a5, a6, e⟩))

def Lead (b0 n : Nat) (c0 : Int) : Prop := (n = 2 ∧ 192 ≤ b0 ∧ b0 < 224 ∧ c0 = b0 - 192) ∨ (n = 3 ∧ 224 ≤ b0 ∧ b0 < 240 ∧ c0 = b0 - 224) ∨ (n = 4 ∧ 240 ≤ b0 ∧ b0 < 248 ∧ c0 = b0 - 240)
def cvF (s : ByteArray) (p : Nat) (c0 : Int) : Nat → Int
  | 0 => c0
  | j + 1 => 64 * cvF s p c0 j + bt s (p + (j + 1)) - 128
def Conts (s : ByteArray) (p k : Nat) : Prop := ∀ j, 1 ≤ j → j < k → 128 ≤ bt s (p + j) ∧ bt s (p + j) ≤ 191
theorem cvF_range {s : ByteArray} {p : Nat} {c0 : Int} (h0 : 0 ≤ c0) (h1 : c0 ≤ 31) : ∀ j, j ≤ 3 → Conts s p (j + 1) → 0 ≤ cvF s p c0 j ∧ cvF s p c0 j < 16777216
  | 0, _, _ => by simp [cvF]; omega
  | 1, _, hc => by have c1 := hc 1 (by omega) (by omega); simp only [cvF, Nat.zero_add]; omega
  | 2, _, hc => by have c1 := hc 1 (by omega) (by omega); have c2 := hc 2 (by omega) (by omega); simp only [cvF, Nat.zero_add, Nat.reduceAdd]; omega
  | 3, _, hc => by have c1 := hc 1 (by omega) (by omega); have c2 := hc 2 (by omega) (by omega); have c3 := hc 3 (by omega) (by omega); simp only [cvF, Nat.zero_add, Nat.reduceAdd]; omega

theorem bad_lead {s : ByteArray} {p : Nat} (h : (128 ≤ bt s p ∧ bt s p < 192) ∨ 248 ≤ bt s p) : bad s p = true := by
  rcases hb : bad s p with _ | _
  · exfalso
    have := bt_lt s p
    rcases good_shape hb with ⟨a1, _⟩ | ⟨_, a2, _⟩ | ⟨_, a2, _⟩ | ⟨_, a2, _⟩ <;> omega
  · rfl
theorem bad_short {s : ByteArray} {p n : Nat} {c0 : Int} (h : Lead (bt s p) n c0) (hn : s.size - p < n) : bad s p = true := by
  rcases hb : bad s p with _ | _
  · exfalso
    rcases h with h | h | h <;> rcases good_shape hb with ⟨a1, _⟩ | ⟨_, a2, _⟩ | ⟨_, a2, _⟩ | ⟨_, a2, _⟩ <;> omega
  · rfl
theorem bad_cont {s : ByteArray} {p n j : Nat} {c0 : Int} (h : Lead (bt s p) n c0) (h1 : 1 ≤ j) (hj : j < n) (hb' : bt s (p + j) < 128 ∨ 191 < bt s (p + j)) : bad s p = true := by
  rcases hb : bad s p with _ | _
  · exfalso
    have hj' : j = 1 ∨ j = 2 ∨ j = 3 := by rcases h with h | h | h <;> omega
    rcases hj' with rfl | rfl | rfl <;> rcases h with h | h | h <;> rcases good_shape hb with ⟨a1, _⟩ | ⟨_, a2, a3, _⟩ | ⟨_, a2, a3, a4, _⟩ | ⟨_, a2, a3, a4, a5, _⟩ <;> omega
  · rfl
theorem good_val {s : ByteArray} {p n : Nat} {c0 : Int} (h : Lead (bt s p) n c0) (hc : Conts s p n) (hb : bad s p = false) : (Utf8.decode s p).1 = cvF s p c0 (n - 1) ∧ wd s p = n := by
  unfold wd
  rcases h with ⟨rfl, h⟩ | ⟨rfl, h⟩ | ⟨rfl, h⟩
  · have c1 := hc 1 (by omega) (by omega)
    rcases good_shape hb with ⟨a1, e⟩ | ⟨_, a2, a3, _, e⟩ | ⟨_, a2, a3, a4, _, e⟩ | ⟨_, a2, a3, a4, a5, _, e⟩
    · omega
    · have e2 : cvF s p c0 (2 - 1) = 64 * c0 + bt s (p + 1) - 128 := rfl
      rw [e, e2]
      refine ⟨?_, rfl⟩
      simp only
      omega
    · omega
    · omega
  · have c1 := hc 1 (by omega) (by omega)
    have c2 := hc 2 (by omega) (by omega)
    rcases good_shape hb with ⟨a1, e⟩ | ⟨_, a2, a3, _, e⟩ | ⟨_, a2, a3, a4, _, e⟩ | ⟨_, a2, a3, a4, a5, _, e⟩
    · omega
    · omega
    · have e2 : cvF s p c0 (3 - 1) = 64 * (64 * c0 + bt s (p + 1) - 128) + bt s (p + 2) - 128 := rfl
      rw [e, e2]
      refine ⟨?_, rfl⟩
      simp only
      omega
    · omega
  · have c1 := hc 1 (by omega) (by omega)
    have c2 := hc 2 (by omega) (by omega)
    have c3 := hc 3 (by omega) (by omega)
    rcases good_shape hb with ⟨a1, e⟩ | ⟨_, a2, a3, _, e⟩ | ⟨_, a2, a3, a4, _, e⟩ | ⟨_, a2, a3, a4, a5, _, e⟩
    · omega
    · omega
    · omega
    · have e2 : cvF s p c0 (4 - 1) = 64 * (64 * (64 * c0 + bt s (p + 1) - 128) + bt s (p + 2) - 128) + bt s (p + 3) - 128 := rfl
      rw [e, e2]
      refine ⟨?_, rfl⟩
      simp only
      omega

theorem sl_bt {s : ByteArray} {p n i : Nat} {l : List UInt8} (h : sl s p n = l) (hi : i < l.length) : bt s (p + i) = (l[i]).toNat ∧ i < s.size - p := by
  have hl : i < ((s.data.toList.drop p).take n).length := by rw [show (s.data.toList.drop p).take n = l from h]; exact hi
  have hl' := hl
  rw [List.length_take, List.length_drop, size_list] at hl'
  have e : l[i]? = s.data.toList[p + i]? := by
    rw [← h, sl, List.getElem?_take_of_lt (by omega), List.getElem?_drop]
  rw [List.getElem?_eq_getElem hi] at e
  refine ⟨?_, by omega⟩
  unfold bt
  rw [List.getD_eq_getElem?_getD, ← e]
  rfl
theorem dec_of_enc {s : ByteArray} {p : Nat} {c : Int} (hc : 0 ≤ c ∧ c ≤ 1114111 ∧ (c < 55296 ∨ 57343 < c)) (h : sl s p (Lib.encodeRune c).length = Lib.encodeRune c) : ((Utf8.decode s p).1 : Int) = c ∧ wd s p = (Lib.encodeRune c).length ∧ bad s p = false := by
  obtain ⟨r0, r1, r2⟩ := hc
  have key : ∀ (m : Nat), Utf8.decode s p = (c.toNat, m) → (c.toNat, m) ≠ ((65533, 1) : Nat × Nat) → ((Utf8.decode s p).1 : Int) = c ∧ wd s p = m ∧ bad s p = false := fun m e hne => by
    refine ⟨by rw [e]; simp only; omega, by unfold wd; rw [e], ?_⟩
    unfold bad
    rw [e]
    simpa using hne
  by_cases h1 : c ≤ 127
  · have hE : Lib.encodeRune c = [c].map fun x => x.toNat.toUInt8 := by rw [Lib.encodeRune, Lib.encodeRuneZ_one r0 h1]
    rw [hE] at h ⊢
    obtain ⟨b0, s0⟩ := sl_bt h (i := 0) (by simp)
    simp at b0
    refine key 1 ?_ (by simp; omega)
    rw [dec_eq]
    have : bt s p = c.toNat := by omega
    rw [this]
    unfold Lib.decodeN
    rw [if_pos (by omega)]
  by_cases h2 : c ≤ 2047
  · have hE : Lib.encodeRune c = [192 + c / 64, 128 + c % 64].map fun x => x.toNat.toUInt8 := by rw [Lib.encodeRune, Lib.encodeRuneZ_two (by omega) h2]
    rw [hE] at h ⊢
    obtain ⟨b0, s0⟩ := sl_bt h (i := 0) (by simp)
    obtain ⟨b1, s1⟩ := sl_bt h (i := 1) (by simp)
    simp at b0 b1
    refine key 2 ?_ (by simp)
    rw [dec_eq]
    have e0 : bt s p = 192 + c.toNat / 64 := by omega
    have e1 : bt s (p + 1) = 128 + c.toNat % 64 := by omega
    have hl : c.toNat ≤ 2047 := by omega
    have hg : 128 ≤ c.toNat := by omega
    rw [e0, e1]
    generalize c.toNat = m at *
    unfold Lib.decodeN
    rw [if_neg (by omega), if_pos (by omega), if_pos (by omega)]
    apply Prod.ext <;> simp only <;> omega
  by_cases h3 : c ≤ 65535
  · have hE : Lib.encodeRune c = [224 + c / 4096, 128 + c / 64 % 64, 128 + c % 64].map fun x => x.toNat.toUInt8 := by rw [Lib.encodeRune, Lib.encodeRuneZ_three (by omega)]
    rw [hE] at h ⊢
    obtain ⟨b0, s0⟩ := sl_bt h (i := 0) (by simp)
    obtain ⟨b1, s1⟩ := sl_bt h (i := 1) (by simp)
    obtain ⟨b2, s2⟩ := sl_bt h (i := 2) (by simp)
    simp at b0 b1 b2
    refine key 3 ?_ (by simp)
    rw [dec_eq]
    have e0 : bt s p = 224 + c.toNat / 4096 := by omega
    have e1 : bt s (p + 1) = 128 + c.toNat / 64 % 64 := by omega
    have e2 : bt s (p + 2) = 128 + c.toNat % 64 := by omega
    have hl : c.toNat ≤ 65535 := by omega
    have hg : 2048 ≤ c.toNat := by omega
    have hv : c.toNat < 55296 ∨ 57344 ≤ c.toNat := by omega
    rw [e0, e1, e2]
    generalize c.toNat = m at *
    unfold Lib.decodeN
    rw [if_neg (by omega), if_neg (by omega), if_pos (by omega), if_pos (by omega)]
    apply Prod.ext <;> simp only <;> omega
  · have hE : Lib.encodeRune c = [240 + c / 262144, 128 + c / 4096 % 64, 128 + c / 64 % 64, 128 + c % 64].map fun x => x.toNat.toUInt8 := by rw [Lib.encodeRune, Lib.encodeRuneZ_four (by omega) (by omega)]
    rw [hE] at h ⊢
    obtain ⟨b0, s0⟩ := sl_bt h (i := 0) (by simp)
    obtain ⟨b1, s1⟩ := sl_bt h (i := 1) (by simp)
    obtain ⟨b2, s2⟩ := sl_bt h (i := 2) (by simp)
    obtain ⟨b3, s3⟩ := sl_bt h (i := 3) (by simp)
    simp at b0 b1 b2 b3
    refine key 4 ?_ (by simp)
    rw [dec_eq]
    have e0 : bt s p = 240 + c.toNat / 262144 := by omega
    have e1 : bt s (p + 1) = 128 + c.toNat / 4096 % 64 := by omega
    have e2 : bt s (p + 2) = 128 + c.toNat / 64 % 64 := by omega
    have e3 : bt s (p + 3) = 128 + c.toNat % 64 := by omega
    have hl : c.toNat ≤ 1114111 := by omega
    have hg : 65536 ≤ c.toNat := by omega
    rw [e0, e1, e2, e3]
    generalize c.toNat = m at *
    unfold Lib.decodeN
    rw [if_neg (by omega), if_neg (by omega), if_neg (by omega), if_pos (by omega), if_pos (by omega)]
    apply Prod.ext <;> simp only <;> omega
theorem dec_valid (s : ByteArray) (p : Nat) : Lib.validRune ((Utf8.decode s p).1 : Int) = true := by
  have q0 := bt_lt s p
  rw [dec_eq]
  unfold Lib.validRune
  rw [decide_eq_true_eq]
  rcases decN_cases (s.size - p) (bt s p) (bt s (p + 1)) (bt s (p + 2)) (bt s (p + 3)) with k | ⟨_, k⟩ | ⟨_, _, _, _, k⟩ | ⟨_, _, _, _, _, _, k⟩ | ⟨_, _, _, _, _, _, _, k⟩
  all_goals (rw [k]; simp only; omega)

end Go.Proofs.YtloeajhmmjdlgaaGreatDoor
namespace Go.Proofs.YtloeajhmmjdlgaaGreatDoor
open Go Go.RowKit
attribute [local go_sem] ext_cell

set_option maxHeartbeats 4000000 in
set_option maxRecDepth 1000000 in
theorem rIs_c (c : Int) (w : World) : Calls Tryz.prog 50 #[.int .i64 c] w fun e w' => e = .returned (.bool (isC c)) ∧ w' = w := by
  by_cases h0 : 0 ≤ c
  · by_cases h1 : c ≤ 1114111
    · by_cases h2 : c < 55296
      · have hv : Hid (isC c = true) := by show isC c = true; simp [isC]; omega
        go_enter Tryz.func50, Tryz.ntmps50
        go_wp2
        go_ret
        exact ⟨by rw [hv.out]; rfl, rfl⟩
      · by_cases h3 : 57343 < c
        · have hv : Hid (isC c = true) := by show isC c = true; simp [isC]; omega
          go_enter Tryz.func50, Tryz.ntmps50
          go_wp2
          go_ret
          exact ⟨by rw [hv.out]; rfl, rfl⟩
        · have hv : Hid (isC c = false) := by show isC c = false; simp [isC]; omega
          go_enter Tryz.func50, Tryz.ntmps50
          go_wp2
          go_ret
          exact ⟨by rw [hv.out]; rfl, rfl⟩
    · have hv : Hid (isC c = false) := by show isC c = false; simp [isC]; omega
      go_enter Tryz.func50, Tryz.ntmps50
      go_wp2
      go_ret
      exact ⟨by rw [hv.out]; rfl, rfl⟩
  · have hv : Hid (isC c = false) := by show isC c = false; simp [isC]; omega
    go_enter Tryz.func50, Tryz.ntmps50
    go_wp2
    go_ret
    exact ⟨by rw [hv.out]; rfl, rfl⟩

/-- A text out of bytes that were just laid. -/
theorem conv_new (w : World) (l : List Int) (hl : ∀ x ∈ l, 0 ≤ x ∧ x < 256) :
    (convert 84 9 (.slice (some ⟨w.heap.size, 0, none⟩) l.length l.length)).run Tryz.prog (w.alloc (.cells (l.map (Value.int .u8)).toArray 5)) = .ok (.string (txt (l.map fun x => x.toNat.toUInt8))) (w.alloc (.cells (l.map (Value.int .u8)).toArray 5)) := by
  have := run_convert_bytes_back (P := Tryz.prog) (w.alloc (.cells (l.map (Value.int .u8)).toArray 5)) 84 9 5 ⟨w.heap.size, 0, none⟩ l.length (l.map fun x => x.toNat.toUInt8) Tryz.underlying84 Tryz.underlying5 Tryz.underlying9 (fun j hj => by
    have hj' : j < l.length := by simpa using hj
    have e : (⟨w.heap.size, 0, none⟩ : Addr).add j = ⟨w.heap.size, j, none⟩ := by unfold Addr.add; simp; omega
    rw [e]
    refine (cell_row (alloc_new w _) (i := j) (v := .int .u8 l[j]) (by simp [hj'])).trans ?_
    have := hl l[j] (List.getElem_mem hj')
    simp
    omega)
  rw [List.length_map] at this
  exact this

set_option maxHeartbeats 4000000 in
set_option maxRecDepth 1000000 in
theorem rText_c (c : Int) (w : World) (hc : isC c = true) : Calls Tryz.prog 51 #[.int .i64 c] w fun e w' => e = .returned (.string (txt (Lib.encodeRune c))) ∧ Below w.heap.size w w' := by
  have hr : 0 ≤ c ∧ c ≤ 1114111 ∧ (c < 55296 ∨ 57343 < c) := by simpa [isC] using hc
  obtain ⟨r0, r1, r2⟩ := hr
  clear hc
  by_cases h1 : c < 128
  · have hE : Hid (Lib.encodeRune c = [c].map fun x => x.toNat.toUInt8) := by show Lib.encodeRune c = _; rw [Lib.encodeRune, Lib.encodeRuneZ_one r0 (by omega)]
    have hcv := conv_new w [c] (by simp; omega)
    have w1 : IntKind.wrap .u8 c = c := by rw [IntKind.wrap_u8]; omega
    simp only [List.map_cons, List.map_nil, List.length_cons, List.length_nil] at hcv hE
    clear r2
    go_enter Tryz.func51, Tryz.ntmps51
    go_wp2
    go_ret
    rw [hE.out]
    exact ⟨rfl, (Below.refl _ w).alloc (Nat.le_refl _) _⟩
  by_cases h2 : c < 2048
  · have hE : Hid (Lib.encodeRune c = [192 + c / 64, 128 + c % 64].map fun x => x.toNat.toUInt8) := by show Lib.encodeRune c = _; rw [Lib.encodeRune, Lib.encodeRuneZ_two (by omega) (by omega)]
    have hcv := conv_new w [192 + c / 64, 128 + c % 64] (by simp; omega)
    have q1 : c.tdiv 64 = c / 64 := Int.tdiv_eq_ediv_of_nonneg r0
    have q2 : c.tmod 64 = c % 64 := Int.tmod_eq_emod_of_nonneg r0
    have v1 : IntKind.wrap .i64 (c / 64) = c / 64 := wrap_small _ (by omega) (by omega)
    have v2 : IntKind.wrap .i64 (192 + c / 64) = 192 + c / 64 := wrap_small _ (by omega) (by omega)
    have v3 : IntKind.wrap .u8 (192 + c / 64) = 192 + c / 64 := by rw [IntKind.wrap_u8]; omega
    have v4 : IntKind.wrap .i64 (c % 64) = c % 64 := wrap_small _ (by omega) (by omega)
    have v5 : IntKind.wrap .i64 (128 + c % 64) = 128 + c % 64 := wrap_small _ (by omega) (by omega)
    have v6 : IntKind.wrap .u8 (128 + c % 64) = 128 + c % 64 := by rw [IntKind.wrap_u8]; omega
    simp only [List.map_cons, List.map_nil, List.length_cons, List.length_nil] at hcv hE
    clear r2
    go_enter Tryz.func51, Tryz.ntmps51
    go_wp2
    go_ret
    rw [hE.out]
    exact ⟨rfl, (Below.refl _ w).alloc (Nat.le_refl _) _⟩
  have v4 : IntKind.wrap .i64 (c % 64) = c % 64 := wrap_small _ (by omega) (by omega)
  have v5 : IntKind.wrap .i64 (128 + c % 64) = 128 + c % 64 := wrap_small _ (by omega) (by omega)
  have v6 : IntKind.wrap .u8 (128 + c % 64) = 128 + c % 64 := by rw [IntKind.wrap_u8]; omega
  have q1 : c.tdiv 64 = c / 64 := Int.tdiv_eq_ediv_of_nonneg r0
  have q2 : c.tmod 64 = c % 64 := Int.tmod_eq_emod_of_nonneg r0
  have q3 : c.tdiv 4096 = c / 4096 := Int.tdiv_eq_ediv_of_nonneg r0
  have q4 : (c / 64).tmod 64 = c / 64 % 64 := Int.tmod_eq_emod_of_nonneg (by omega)
  have u1 : IntKind.wrap .i64 (c / 64) = c / 64 := wrap_small _ (by omega) (by omega)
  have u2 : IntKind.wrap .i64 (c / 4096) = c / 4096 := wrap_small _ (by omega) (by omega)
  have u3 : IntKind.wrap .i64 (c / 64 % 64) = c / 64 % 64 := wrap_small _ (by omega) (by omega)
  have u4 : IntKind.wrap .i64 (128 + c / 64 % 64) = 128 + c / 64 % 64 := wrap_small _ (by omega) (by omega)
  have u5 : IntKind.wrap .u8 (128 + c / 64 % 64) = 128 + c / 64 % 64 := by rw [IntKind.wrap_u8]; omega
  by_cases h3 : c < 65536
  · have hE : Hid (Lib.encodeRune c = [224 + c / 4096, 128 + c / 64 % 64, 128 + c % 64].map fun x => x.toNat.toUInt8) := by show Lib.encodeRune c = _; rw [Lib.encodeRune, Lib.encodeRuneZ_three (by omega)]
    have hcv := conv_new w [224 + c / 4096, 128 + c / 64 % 64, 128 + c % 64] (by simp; omega)
    have u6 : IntKind.wrap .i64 (224 + c / 4096) = 224 + c / 4096 := wrap_small _ (by omega) (by omega)
    have u7 : IntKind.wrap .u8 (224 + c / 4096) = 224 + c / 4096 := by rw [IntKind.wrap_u8]; omega
    simp only [List.map_cons, List.map_nil, List.length_cons, List.length_nil] at hcv hE
    clear r2
    go_enter Tryz.func51, Tryz.ntmps51
    go_wp2
    go_ret
    rw [hE.out]
    exact ⟨rfl, (Below.refl _ w).alloc (Nat.le_refl _) _⟩
  · have hE : Hid (Lib.encodeRune c = [240 + c / 262144, 128 + c / 4096 % 64, 128 + c / 64 % 64, 128 + c % 64].map fun x => x.toNat.toUInt8) := by show Lib.encodeRune c = _; rw [Lib.encodeRune, Lib.encodeRuneZ_four (by omega) (by omega)]
    have hcv := conv_new w [240 + c / 262144, 128 + c / 4096 % 64, 128 + c / 64 % 64, 128 + c % 64] (by simp; omega)
    have q5 : c.tdiv 262144 = c / 262144 := Int.tdiv_eq_ediv_of_nonneg r0
    have q6 : (c / 4096).tmod 64 = c / 4096 % 64 := Int.tmod_eq_emod_of_nonneg (by omega)
    have u6 : IntKind.wrap .i64 (c / 262144) = c / 262144 := wrap_small _ (by omega) (by omega)
    have u7 : IntKind.wrap .i64 (240 + c / 262144) = 240 + c / 262144 := wrap_small _ (by omega) (by omega)
    have u8 : IntKind.wrap .u8 (240 + c / 262144) = 240 + c / 262144 := by rw [IntKind.wrap_u8]; omega
    have u9 : IntKind.wrap .i64 (c / 4096 % 64) = c / 4096 % 64 := wrap_small _ (by omega) (by omega)
    have u10 : IntKind.wrap .i64 (128 + c / 4096 % 64) = 128 + c / 4096 % 64 := wrap_small _ (by omega) (by omega)
    have u11 : IntKind.wrap .u8 (128 + c / 4096 % 64) = 128 + c / 4096 % 64 := by rw [IntKind.wrap_u8]; omega
    simp only [List.map_cons, List.map_nil, List.length_cons, List.length_nil] at hcv hE
    clear r2
    go_enter Tryz.func51, Tryz.ntmps51
    go_wp2
    go_ret
    rw [hE.out]
    exact ⟨rfl, (Below.refl _ w).alloc (Nat.le_refl _) _⟩
end Go.Proofs.YtloeajhmmjdlgaaGreatDoor
namespace Go.Proofs.YtloeajhmmjdlgaaGreatDoor
open Go Go.RowKit
attribute [local go_sem] ext_cell

theorem ch_of_bad {s : ByteArray} {p : Nat} (h : bad s p = true) : ch s p = -1 ∧ wd s p = 1 := ⟨(ch_bad h).1, (ch_bad h).2.1⟩
theorem ext_toList (s : ByteArray) (p n : Nat) : (s.extract p (p + n)).toList = sl s p n := by rw [Lib.toList_data, ext_sl]

set_option maxHeartbeats 8000000 in
set_option maxRecDepth 1000000 in
theorem rNext_c (s : ByteArray) (p : Nat) (w : World) (hp : p < s.size) (hs : s.size ≤ 1099511627776) :
    Calls Tryz.prog 35 #[.string s, .int .i64 (p : Int)] w fun e w' => e = .returned (.tuple #[.int .i64 (ch s p), .int .i64 (wd s p : Int)]) ∧ Below w.heap.size w w' := by
  have h0 : ¬ (p : Int) < 0 := by omega
  have h1 : ¬ (s.size : Int) ≤ (p : Int) := by omega
  have h2 : (0 : Int) ≤ (p : Int) := by omega
  have h3 : (p : Int) < (s.size : Int) := by omega
  have g0 := bt_get s p hp
  obtain ⟨b0, hb0⟩ : ∃ b, bt s p = b := ⟨_, rfl⟩
  have hbl := bt_lt s p
  rw [hb0] at g0 hbl
  have wb : IntKind.wrap .i64 (b0 : Int) = (b0 : Int) := wrap_small _ (by omega) (by omega)
  have HB : Hid (bt s p = b0) := hb0
  clear hb0
  by_cases k1 : (b0 : Int) < 128
  · have E : Hid (ch s p = (b0 : Int) ∧ wd s p = 1) := by
      show ch s p = (b0 : Int) ∧ wd s p = 1
      have e : Utf8.decode s p = (b0, 1) := by
        rw [dec_eq, HB.out]
        unfold Lib.decodeN
        rw [if_pos (by omega)]
      have hb : bad s p = false := by unfold bad; rw [e]; simp; omega
      exact ⟨by rw [ch_good hb, e], by unfold wd; rw [e]⟩
    go_enter Tryz.func35, Tryz.ntmps35
    go_wp2
    go_ret2
    rw [E.out.1, E.out.2]
    exact ⟨rfl, Below.refl _ _⟩
  by_cases k2 : ¬ ((192 : Int) ≤ (b0 : Int) ∧ (b0 : Int) < 248)
  · have E : Hid (ch s p = -1 ∧ wd s p = 1) := ch_of_bad (bad_lead (by rw [HB.out]; omega))
    have k5 : ¬ ((192 : Int) ≤ (b0 : Int) ∧ (b0 : Int) < 224) := by omega
    have k6 : ¬ ((224 : Int) ≤ (b0 : Int) ∧ (b0 : Int) < 240) := by omega
    have k7 : ¬ ((240 : Int) ≤ (b0 : Int) ∧ (b0 : Int) < 248) := by omega
    by_cases k3 : (b0 : Int) < 192
    · have k4 : ¬ (192 : Int) ≤ (b0 : Int) := by omega
      have k8 : ¬ (224 : Int) ≤ (b0 : Int) := by omega
      have k9 : ¬ (240 : Int) ≤ (b0 : Int) := by omega
      clear k2 k5 k6 k7
      go_enter Tryz.func35, Tryz.ntmps35
      go_wp2
      go_ret2
      rw [E.out.1, E.out.2]
      exact ⟨rfl, Below.refl _ _⟩
    · have j1 : (192 : Int) ≤ (b0 : Int) := by omega
      have j2 : (224 : Int) ≤ (b0 : Int) := by omega
      have j3 : (240 : Int) ≤ (b0 : Int) := by omega
      have j4 : ¬ (b0 : Int) < 224 := by omega
      have j5 : ¬ (b0 : Int) < 240 := by omega
      have j6 : ¬ (b0 : Int) < 248 := by omega
      clear k2 k5 k6 k7
      go_enter Tryz.func35, Tryz.ntmps35
      go_wp2
      go_ret2
      rw [E.out.1, E.out.2]
      exact ⟨rfl, Below.refl _ _⟩
  -- a leading byte
  obtain ⟨n, c0, hLd⟩ : ∃ n c0, Lead b0 n c0 := by
    by_cases q1 : b0 < 224
    · exact ⟨2, _, .inl ⟨rfl, by omega, q1, rfl⟩⟩
    by_cases q2 : b0 < 240
    · exact ⟨3, _, .inr (.inl ⟨rfl, by omega, q2, rfl⟩)⟩
    · exact ⟨4, _, .inr (.inr ⟨rfl, by omega, by omega, rfl⟩)⟩
  have LD : Hid (Lead (bt s p) n c0) := by show Lead (bt s p) n c0; rw [HB.out]; exact hLd
  have hc0 : 0 ≤ c0 ∧ c0 ≤ 31 := by rcases hLd with h | h | h <;> omega
  have hwsp : IntKind.wrap .i64 ((s.size : Int) - (p : Int)) = (s.size : Int) - (p : Int) := wrap_small _ (by omega) (by omega)
  go_enter Tryz.func35, Tryz.ntmps35
  rcases hLd with ⟨rfl, l1, l2, l3⟩ | ⟨rfl, l1, l2, l3⟩ | ⟨rfl, l1, l2, l3⟩
  · have j1 : (192 : Int) ≤ (b0 : Int) := by omega
    have j4 : (b0 : Int) < 224 := by omega
    have v1 : IntKind.wrap .i64 ((b0 : Int) - 192) = c0 := by rw [wrap_small _ (by omega) (by omega)]; omega
    clear k2 l1 l2 l3
    go_upto_region 16 with fail
    by_cases hsh : s.size - p < 2
    · have E : Hid (ch s p = -1 ∧ wd s p = 1) := ch_of_bad (bad_short LD.out hsh)
      have q1 : (s.size : Int) - (p : Int) < 2 := by omega
      go_wp2
      go_ret2
      rw [E.out.1, E.out.2]
      exact ⟨rfl, Below.refl _ _⟩
    have q1 : ¬ (s.size : Int) - (p : Int) < 2 := by omega
    have hpn : p + 2 ≤ s.size := by omega
    clear hsh
    go_wp2
    go_loopw [7, 8] (fun t i wr => ∃ k : Nat, 1 ≤ k ∧ k ≤ 2 ∧ i = .int .i64 (k : Int) ∧ t = .int .i64 (cvF s p c0 (k - 1)) ∧ Conts s p k ∧ wr = w) (fun _ i _ => 2 - (intOf i).toNat)
    case atStart => exact ⟨1, by omega, by omega, rfl, rfl, fun j h1 h2 => by omega, rfl⟩
    case round =>
      obtain ⟨k, hk1, hk, rfl, rfl, hct, hw⟩ := hrel
      subst hw
      obtain ⟨j, rfl⟩ : ∃ j, k = j + 1 := ⟨k - 1, by omega⟩
      rw [Nat.add_sub_cancel]
      have C : Hid (Conts s p (j + 1)) := hct
      have hcr := cvF_range (s := s) (p := p) hc0.1 hc0.2 j (by omega) hct
      obtain ⟨cv, hcv⟩ : ∃ cv, cvF s p c0 j = cv := ⟨_, rfl⟩
      have HCV : Hid (cvF s p c0 j = cv) := hcv
      rw [hcv] at hcr ⊢
      clear hcv hct
      by_cases hlt : j + 1 < 2
      · have gk := bt_get s (p + (j + 1)) (by omega)
        obtain ⟨bk, hbk⟩ : ∃ b, bt s (p + (j + 1)) = b := ⟨_, rfl⟩
        have hbkl := bt_lt s (p + (j + 1))
        rw [hbk] at gk hbkl
        have HBK : Hid (bt s (p + (j + 1)) = bk) := hbk
        clear hbk
        have i1 : ((j + 1 : Nat) : Int) < 2 := by omega
        have wbk : IntKind.wrap .i64 (bk : Int) = (bk : Int) := wrap_small _ (by omega) (by omega)
        have wix : IntKind.wrap .i64 ((p : Int) + ((j + 1 : Nat) : Int)) = ((p + (j + 1) : Nat) : Int) := by rw [wrap_small _ (by omega) (by omega)]; omega
        have x0 : (0 : Int) ≤ ((p + (j + 1) : Nat) : Int) := by omega
        have x1 : ((p + (j + 1) : Nat) : Int) < (s.size : Int) := by omega
        have x2 : ((p + (j + 1) : Nat) : Int).toNat = p + (j + 1) := by omega
        obtain ⟨ix, hix⟩ : ∃ ix, p + (j + 1) = ix := ⟨_, rfl⟩
        obtain ⟨jj, hjj⟩ : ∃ jj, j + 1 = jj := ⟨_, rfl⟩
        have ixl : ix < s.size := by omega
        have gx : (s[ix]'ixl).toNat = bk := by subst hix; exact gk
        clear gk
        rw [hix] at wix x0 x1 x2
        rw [hjj] at wix i1 ⊢
        have HJ : Hid (j + 1 = jj) := hjj
        have HIX : Hid (p + (j + 1) = ix) := hix
        clear hjj hix
        by_cases b1 : (bk : Int) < 128
        · have E : Hid (ch s p = -1 ∧ wd s p = 1) := ch_of_bad (bad_cont LD.out (j := j + 1) (by omega) hlt (.inl (by rw [HBK.out]; omega)))
          go_wp2
          go_ret2
          rw [E.out.1, E.out.2]
          exact ⟨rfl, Below.refl _ _⟩
        by_cases b2 : (191 : Int) < (bk : Int)
        · have E : Hid (ch s p = -1 ∧ wd s p = 1) := ch_of_bad (bad_cont LD.out (j := j + 1) (by omega) hlt (.inr (by rw [HBK.out]; omega)))
          go_wp2
          go_ret2
          rw [E.out.1, E.out.2]
          exact ⟨rfl, Below.refl _ _⟩
        have y1 : IntKind.wrap .i64 (64 * cv) = 64 * cv := wrap_small _ (by omega) (by omega)
        have y2 : IntKind.wrap .i64 (64 * cv + (bk : Int)) = 64 * cv + (bk : Int) := wrap_small _ (by omega) (by omega)
        have y3 : IntKind.wrap .i64 (64 * cv + (bk : Int) - 128) = 64 * cv + (bk : Int) - 128 := wrap_small _ (by omega) (by omega)
        have y4 : IntKind.wrap .i64 ((jj : Int) + 1) = (jj : Int) + 1 := wrap_small _ (by omega) (by omega)
        go_wp2
        go_roundw
        case rel =>
          refine ⟨jj + 1, by omega, by have := HJ.out; omega, by go_num, ?_, fun i q1 q2 => ?_, by first | rfl | trivial⟩
          · rw [Nat.add_sub_cancel, ← HJ.out, cvF, HCV.out, HBK.out]
          · by_cases e : i < j + 1
            · exact C.out i q1 e
            · obtain rfl : i = j + 1 := by have := HJ.out; omega
              rw [HBK.out]; omega
        case measure => simp only [intOf]; have := HJ.out; omega
      · obtain rfl : j = 2 - 1 := by omega
        have i1 : ¬ (((2 : Nat) - 1 + 1 : Nat) : Int) < 2 := by omega
        have his := rIs_c cv
        have wpn : IntKind.wrap .i64 ((p : Int) + 2) = (p : Int) + 2 := wrap_small _ (by omega) (by omega)
        have z1 : (p : Int) ≤ (p : Int) + 2 := by omega
        have z2 : (p : Int) + 2 ≤ (s.size : Int) := by omega
        have z3 : ((p : Int) + 2).toNat = p + 2 := by omega
        rcases hcx : isC cv with _ | _
        · rw [hcx] at his
          have E : Hid (ch s p = -1 ∧ wd s p = 1) := by
            refine ch_of_bad ?_
            rcases hb : bad s p with _ | _
            · exfalso
              have gv := good_val LD.out C.out hb
              have hv := dec_valid s p
              rw [gv.1, HCV.out] at hv
              simp [isC] at hcx
              simp [Lib.validRune] at hv
              omega
            · rfl
          go_wp2_with (go_at_call 50; (with_reducible refine (his _).mono ?_); rintro e w5 ⟨rfl, h5⟩; subst w5)
          refine wp_region_ext (by kernel_rfl) (by kernel_rfl) ?_
          repeat (go_big_quiet_step (first | exact rfl))
          refine wpQuiet_nil ?_
          intro w5 hw5
          have B5 : Hid (Below wr.heap.size wr w5) := ext_of hw5
          clear hw5
          go_wp2
          go_ret2
          rw [E.out.1, E.out.2]
          exact ⟨rfl, B5.out⟩
        · rw [hcx] at his
          have hEx : Hid (∀ W, Calls Tryz.prog 51 #[.int .i64 cv] W fun e w' => e = .returned (.string (txt (Lib.encodeRune cv))) ∧ Below W.heap.size W w') := fun W => rText_c cv W hcx
          have hir : 0 ≤ cv ∧ cv ≤ 1114111 ∧ (cv < 55296 ∨ 57343 < cv) := by simpa [isC] using hcx
          have HIR : Hid _ := hir
          obtain ⟨T, hT⟩ : ∃ T, txt (Lib.encodeRune cv) = T := ⟨_, rfl⟩
          rw [hT] at hEx
          have hTl : T.toList = Lib.encodeRune cv := by rw [← hT, Lib.toList_data]; rfl
          have hsl := ext_toList s p 2
          by_cases heq : Lib.encodeRune cv = sl s p 2
          · have hcmp : (T.toList == (s.extract p (p + 2)).toList) = true := by rw [hTl, hsl, heq]; simp
            have E : Hid (ch s p = cv ∧ wd s p = 2) := by
              show ch s p = cv ∧ wd s p = 2
              have hl : (Lib.encodeRune cv).length = 2 := by rw [heq]; unfold sl; rw [List.length_take, List.length_drop, size_list]; omega
              have d := dec_of_enc HIR.out (by rw [hl]; exact heq.symm)
              exact ⟨by rw [ch_good d.2.2, d.1], by rw [d.2.1, hl]⟩
            clear hT hTl hsl heq hir
            go_wp2_with (go_at_call 50; (with_reducible refine (his _).mono ?_); rintro e w5 ⟨rfl, h5⟩; subst w5)
            refine wp_region_ext (by kernel_rfl) (by kernel_rfl) ?_
            repeat (go_big_quiet_step (first | exact rfl | (go_at_call 51; exact ext_call (hEx.out _))))
            refine wpQuiet_nil ?_
            intro w5 hw5
            have B5 : Hid (Below wr.heap.size wr w5) := ext_of hw5
            clear hw5
            go_wp2
            go_ret2
            rw [E.out.1, E.out.2]
            exact ⟨rfl, B5.out⟩
          · have hcmp : (T.toList == (s.extract p (p + 2)).toList) = false := by rw [hTl, hsl]; simpa using heq
            have E : Hid (ch s p = -1 ∧ wd s p = 1) := by
              refine ch_of_bad ?_
              rcases hb : bad s p with _ | _
              · exfalso
                have gv := good_val LD.out C.out hb
                have es := enc_sl s p hp hb
                rw [gv.2, gv.1, HCV.out] at es
                exact heq es
              · rfl
            clear hT hTl hsl heq hir
            go_wp2_with (go_at_call 50; (with_reducible refine (his _).mono ?_); rintro e w5 ⟨rfl, h5⟩; subst w5)
            refine wp_region_ext (by kernel_rfl) (by kernel_rfl) ?_
            repeat (go_big_quiet_step (first | exact rfl | (go_at_call 51; exact ext_call (hEx.out _))))
            refine wpQuiet_nil ?_
            intro w5 hw5
            have B5 : Hid (Below wr.heap.size wr w5) := ext_of hw5
            clear hw5
            go_wp2
            go_ret2
            rw [E.out.1, E.out.2]
            exact ⟨rfl, B5.out⟩
  · have j1 : (224 : Int) ≤ (b0 : Int) := by omega
    have j4 : (b0 : Int) < 240 := by omega
    have j6 : (192 : Int) ≤ (b0 : Int) := by omega
    have j7 : ¬ (b0 : Int) < 224 := by omega
    have v1 : IntKind.wrap .i64 ((b0 : Int) - 224) = c0 := by rw [wrap_small _ (by omega) (by omega)]; omega
    clear k2 l1 l2 l3
    go_upto_region 16 with fail
    by_cases hsh : s.size - p < 3
    · have E : Hid (ch s p = -1 ∧ wd s p = 1) := ch_of_bad (bad_short LD.out hsh)
      have q1 : (s.size : Int) - (p : Int) < 3 := by omega
      go_wp2
      go_ret2
      rw [E.out.1, E.out.2]
      exact ⟨rfl, Below.refl _ _⟩
    have q1 : ¬ (s.size : Int) - (p : Int) < 3 := by omega
    have hpn : p + 3 ≤ s.size := by omega
    clear hsh
    go_wp2
    go_loopw [7, 8] (fun t i wr => ∃ k : Nat, 1 ≤ k ∧ k ≤ 3 ∧ i = .int .i64 (k : Int) ∧ t = .int .i64 (cvF s p c0 (k - 1)) ∧ Conts s p k ∧ wr = w) (fun _ i _ => 3 - (intOf i).toNat)
    case atStart => exact ⟨1, by omega, by omega, rfl, rfl, fun j h1 h2 => by omega, rfl⟩
    case round =>
      obtain ⟨k, hk1, hk, rfl, rfl, hct, hw⟩ := hrel
      subst hw
      obtain ⟨j, rfl⟩ : ∃ j, k = j + 1 := ⟨k - 1, by omega⟩
      rw [Nat.add_sub_cancel]
      have C : Hid (Conts s p (j + 1)) := hct
      have hcr := cvF_range (s := s) (p := p) hc0.1 hc0.2 j (by omega) hct
      obtain ⟨cv, hcv⟩ : ∃ cv, cvF s p c0 j = cv := ⟨_, rfl⟩
      have HCV : Hid (cvF s p c0 j = cv) := hcv
      rw [hcv] at hcr ⊢
      clear hcv hct
      by_cases hlt : j + 1 < 3
      · have gk := bt_get s (p + (j + 1)) (by omega)
        obtain ⟨bk, hbk⟩ : ∃ b, bt s (p + (j + 1)) = b := ⟨_, rfl⟩
        have hbkl := bt_lt s (p + (j + 1))
        rw [hbk] at gk hbkl
        have HBK : Hid (bt s (p + (j + 1)) = bk) := hbk
        clear hbk
        have i1 : ((j + 1 : Nat) : Int) < 3 := by omega
        have wbk : IntKind.wrap .i64 (bk : Int) = (bk : Int) := wrap_small _ (by omega) (by omega)
        have wix : IntKind.wrap .i64 ((p : Int) + ((j + 1 : Nat) : Int)) = ((p + (j + 1) : Nat) : Int) := by rw [wrap_small _ (by omega) (by omega)]; omega
        have x0 : (0 : Int) ≤ ((p + (j + 1) : Nat) : Int) := by omega
        have x1 : ((p + (j + 1) : Nat) : Int) < (s.size : Int) := by omega
        have x2 : ((p + (j + 1) : Nat) : Int).toNat = p + (j + 1) := by omega
        obtain ⟨ix, hix⟩ : ∃ ix, p + (j + 1) = ix := ⟨_, rfl⟩
        obtain ⟨jj, hjj⟩ : ∃ jj, j + 1 = jj := ⟨_, rfl⟩
        have ixl : ix < s.size := by omega
        have gx : (s[ix]'ixl).toNat = bk := by subst hix; exact gk
        clear gk
        rw [hix] at wix x0 x1 x2
        rw [hjj] at wix i1 ⊢
        have HJ : Hid (j + 1 = jj) := hjj
        have HIX : Hid (p + (j + 1) = ix) := hix
        clear hjj hix
        by_cases b1 : (bk : Int) < 128
        · have E : Hid (ch s p = -1 ∧ wd s p = 1) := ch_of_bad (bad_cont LD.out (j := j + 1) (by omega) hlt (.inl (by rw [HBK.out]; omega)))
          go_wp2
          go_ret2
          rw [E.out.1, E.out.2]
          exact ⟨rfl, Below.refl _ _⟩
        by_cases b2 : (191 : Int) < (bk : Int)
        · have E : Hid (ch s p = -1 ∧ wd s p = 1) := ch_of_bad (bad_cont LD.out (j := j + 1) (by omega) hlt (.inr (by rw [HBK.out]; omega)))
          go_wp2
          go_ret2
          rw [E.out.1, E.out.2]
          exact ⟨rfl, Below.refl _ _⟩
        have y1 : IntKind.wrap .i64 (64 * cv) = 64 * cv := wrap_small _ (by omega) (by omega)
        have y2 : IntKind.wrap .i64 (64 * cv + (bk : Int)) = 64 * cv + (bk : Int) := wrap_small _ (by omega) (by omega)
        have y3 : IntKind.wrap .i64 (64 * cv + (bk : Int) - 128) = 64 * cv + (bk : Int) - 128 := wrap_small _ (by omega) (by omega)
        have y4 : IntKind.wrap .i64 ((jj : Int) + 1) = (jj : Int) + 1 := wrap_small _ (by omega) (by omega)
        go_wp2
        go_roundw
        case rel =>
          refine ⟨jj + 1, by omega, by have := HJ.out; omega, by go_num, ?_, fun i q1 q2 => ?_, by first | rfl | trivial⟩
          · rw [Nat.add_sub_cancel, ← HJ.out, cvF, HCV.out, HBK.out]
          · by_cases e : i < j + 1
            · exact C.out i q1 e
            · obtain rfl : i = j + 1 := by have := HJ.out; omega
              rw [HBK.out]; omega
        case measure => simp only [intOf]; have := HJ.out; omega
      · obtain rfl : j = 3 - 1 := by omega
        have i1 : ¬ (((3 : Nat) - 1 + 1 : Nat) : Int) < 3 := by omega
        have his := rIs_c cv
        have wpn : IntKind.wrap .i64 ((p : Int) + 3) = (p : Int) + 3 := wrap_small _ (by omega) (by omega)
        have z1 : (p : Int) ≤ (p : Int) + 3 := by omega
        have z2 : (p : Int) + 3 ≤ (s.size : Int) := by omega
        have z3 : ((p : Int) + 3).toNat = p + 3 := by omega
        rcases hcx : isC cv with _ | _
        · rw [hcx] at his
          have E : Hid (ch s p = -1 ∧ wd s p = 1) := by
            refine ch_of_bad ?_
            rcases hb : bad s p with _ | _
            · exfalso
              have gv := good_val LD.out C.out hb
              have hv := dec_valid s p
              rw [gv.1, HCV.out] at hv
              simp [isC] at hcx
              simp [Lib.validRune] at hv
              omega
            · rfl
          go_wp2_with (go_at_call 50; (with_reducible refine (his _).mono ?_); rintro e w5 ⟨rfl, h5⟩; subst w5)
          refine wp_region_ext (by kernel_rfl) (by kernel_rfl) ?_
          repeat (go_big_quiet_step (first | exact rfl))
          refine wpQuiet_nil ?_
          intro w5 hw5
          have B5 : Hid (Below wr.heap.size wr w5) := ext_of hw5
          clear hw5
          go_wp2
          go_ret2
          rw [E.out.1, E.out.2]
          exact ⟨rfl, B5.out⟩
        · rw [hcx] at his
          have hEx : Hid (∀ W, Calls Tryz.prog 51 #[.int .i64 cv] W fun e w' => e = .returned (.string (txt (Lib.encodeRune cv))) ∧ Below W.heap.size W w') := fun W => rText_c cv W hcx
          have hir : 0 ≤ cv ∧ cv ≤ 1114111 ∧ (cv < 55296 ∨ 57343 < cv) := by simpa [isC] using hcx
          have HIR : Hid _ := hir
          obtain ⟨T, hT⟩ : ∃ T, txt (Lib.encodeRune cv) = T := ⟨_, rfl⟩
          rw [hT] at hEx
          have hTl : T.toList = Lib.encodeRune cv := by rw [← hT, Lib.toList_data]; rfl
          have hsl := ext_toList s p 3
          by_cases heq : Lib.encodeRune cv = sl s p 3
          · have hcmp : (T.toList == (s.extract p (p + 3)).toList) = true := by rw [hTl, hsl, heq]; simp
            have E : Hid (ch s p = cv ∧ wd s p = 3) := by
              show ch s p = cv ∧ wd s p = 3
              have hl : (Lib.encodeRune cv).length = 3 := by rw [heq]; unfold sl; rw [List.length_take, List.length_drop, size_list]; omega
              have d := dec_of_enc HIR.out (by rw [hl]; exact heq.symm)
              exact ⟨by rw [ch_good d.2.2, d.1], by rw [d.2.1, hl]⟩
            clear hT hTl hsl heq hir
            go_wp2_with (go_at_call 50; (with_reducible refine (his _).mono ?_); rintro e w5 ⟨rfl, h5⟩; subst w5)
            refine wp_region_ext (by kernel_rfl) (by kernel_rfl) ?_
            repeat (go_big_quiet_step (first | exact rfl | (go_at_call 51; exact ext_call (hEx.out _))))
            refine wpQuiet_nil ?_
            intro w5 hw5
            have B5 : Hid (Below wr.heap.size wr w5) := ext_of hw5
            clear hw5
            go_wp2
            go_ret2
            rw [E.out.1, E.out.2]
            exact ⟨rfl, B5.out⟩
          · have hcmp : (T.toList == (s.extract p (p + 3)).toList) = false := by rw [hTl, hsl]; simpa using heq
            have E : Hid (ch s p = -1 ∧ wd s p = 1) := by
              refine ch_of_bad ?_
              rcases hb : bad s p with _ | _
              · exfalso
                have gv := good_val LD.out C.out hb
                have es := enc_sl s p hp hb
                rw [gv.2, gv.1, HCV.out] at es
                exact heq es
              · rfl
            clear hT hTl hsl heq hir
            go_wp2_with (go_at_call 50; (with_reducible refine (his _).mono ?_); rintro e w5 ⟨rfl, h5⟩; subst w5)
            refine wp_region_ext (by kernel_rfl) (by kernel_rfl) ?_
            repeat (go_big_quiet_step (first | exact rfl | (go_at_call 51; exact ext_call (hEx.out _))))
            refine wpQuiet_nil ?_
            intro w5 hw5
            have B5 : Hid (Below wr.heap.size wr w5) := ext_of hw5
            clear hw5
            go_wp2
            go_ret2
            rw [E.out.1, E.out.2]
            exact ⟨rfl, B5.out⟩
  · have j1 : (240 : Int) ≤ (b0 : Int) := by omega
    have j4 : (b0 : Int) < 248 := by omega
    have j6 : (192 : Int) ≤ (b0 : Int) := by omega
    have j7 : ¬ (b0 : Int) < 224 := by omega
    have j8 : (224 : Int) ≤ (b0 : Int) := by omega
    have j9 : ¬ (b0 : Int) < 240 := by omega
    have v1 : IntKind.wrap .i64 ((b0 : Int) - 240) = c0 := by rw [wrap_small _ (by omega) (by omega)]; omega
    clear k2 l1 l2 l3
    go_upto_region 16 with fail
    by_cases hsh : s.size - p < 4
    · have E : Hid (ch s p = -1 ∧ wd s p = 1) := ch_of_bad (bad_short LD.out hsh)
      have q1 : (s.size : Int) - (p : Int) < 4 := by omega
      go_wp2
      go_ret2
      rw [E.out.1, E.out.2]
      exact ⟨rfl, Below.refl _ _⟩
    have q1 : ¬ (s.size : Int) - (p : Int) < 4 := by omega
    have hpn : p + 4 ≤ s.size := by omega
    clear hsh
    go_wp2
    go_loopw [7, 8] (fun t i wr => ∃ k : Nat, 1 ≤ k ∧ k ≤ 4 ∧ i = .int .i64 (k : Int) ∧ t = .int .i64 (cvF s p c0 (k - 1)) ∧ Conts s p k ∧ wr = w) (fun _ i _ => 4 - (intOf i).toNat)
    case atStart => exact ⟨1, by omega, by omega, rfl, rfl, fun j h1 h2 => by omega, rfl⟩
    case round =>
      obtain ⟨k, hk1, hk, rfl, rfl, hct, hw⟩ := hrel
      subst hw
      obtain ⟨j, rfl⟩ : ∃ j, k = j + 1 := ⟨k - 1, by omega⟩
      rw [Nat.add_sub_cancel]
      have C : Hid (Conts s p (j + 1)) := hct
      have hcr := cvF_range (s := s) (p := p) hc0.1 hc0.2 j (by omega) hct
      obtain ⟨cv, hcv⟩ : ∃ cv, cvF s p c0 j = cv := ⟨_, rfl⟩
      have HCV : Hid (cvF s p c0 j = cv) := hcv
      rw [hcv] at hcr ⊢
      clear hcv hct
      by_cases hlt : j + 1 < 4
      · have gk := bt_get s (p + (j + 1)) (by omega)
        obtain ⟨bk, hbk⟩ : ∃ b, bt s (p + (j + 1)) = b := ⟨_, rfl⟩
        have hbkl := bt_lt s (p + (j + 1))
        rw [hbk] at gk hbkl
        have HBK : Hid (bt s (p + (j + 1)) = bk) := hbk
        clear hbk
        have i1 : ((j + 1 : Nat) : Int) < 4 := by omega
        have wbk : IntKind.wrap .i64 (bk : Int) = (bk : Int) := wrap_small _ (by omega) (by omega)
        have wix : IntKind.wrap .i64 ((p : Int) + ((j + 1 : Nat) : Int)) = ((p + (j + 1) : Nat) : Int) := by rw [wrap_small _ (by omega) (by omega)]; omega
        have x0 : (0 : Int) ≤ ((p + (j + 1) : Nat) : Int) := by omega
        have x1 : ((p + (j + 1) : Nat) : Int) < (s.size : Int) := by omega
        have x2 : ((p + (j + 1) : Nat) : Int).toNat = p + (j + 1) := by omega
        obtain ⟨ix, hix⟩ : ∃ ix, p + (j + 1) = ix := ⟨_, rfl⟩
        obtain ⟨jj, hjj⟩ : ∃ jj, j + 1 = jj := ⟨_, rfl⟩
        have ixl : ix < s.size := by omega
        have gx : (s[ix]'ixl).toNat = bk := by subst hix; exact gk
        clear gk
        rw [hix] at wix x0 x1 x2
        rw [hjj] at wix i1 ⊢
        have HJ : Hid (j + 1 = jj) := hjj
        have HIX : Hid (p + (j + 1) = ix) := hix
        clear hjj hix
        by_cases b1 : (bk : Int) < 128
        · have E : Hid (ch s p = -1 ∧ wd s p = 1) := ch_of_bad (bad_cont LD.out (j := j + 1) (by omega) hlt (.inl (by rw [HBK.out]; omega)))
          go_wp2
          go_ret2
          rw [E.out.1, E.out.2]
          exact ⟨rfl, Below.refl _ _⟩
        by_cases b2 : (191 : Int) < (bk : Int)
        · have E : Hid (ch s p = -1 ∧ wd s p = 1) := ch_of_bad (bad_cont LD.out (j := j + 1) (by omega) hlt (.inr (by rw [HBK.out]; omega)))
          go_wp2
          go_ret2
          rw [E.out.1, E.out.2]
          exact ⟨rfl, Below.refl _ _⟩
        have y1 : IntKind.wrap .i64 (64 * cv) = 64 * cv := wrap_small _ (by omega) (by omega)
        have y2 : IntKind.wrap .i64 (64 * cv + (bk : Int)) = 64 * cv + (bk : Int) := wrap_small _ (by omega) (by omega)
        have y3 : IntKind.wrap .i64 (64 * cv + (bk : Int) - 128) = 64 * cv + (bk : Int) - 128 := wrap_small _ (by omega) (by omega)
        have y4 : IntKind.wrap .i64 ((jj : Int) + 1) = (jj : Int) + 1 := wrap_small _ (by omega) (by omega)
        go_wp2
        go_roundw
        case rel =>
          refine ⟨jj + 1, by omega, by have := HJ.out; omega, by go_num, ?_, fun i q1 q2 => ?_, by first | rfl | trivial⟩
          · rw [Nat.add_sub_cancel, ← HJ.out, cvF, HCV.out, HBK.out]
          · by_cases e : i < j + 1
            · exact C.out i q1 e
            · obtain rfl : i = j + 1 := by have := HJ.out; omega
              rw [HBK.out]; omega
        case measure => simp only [intOf]; have := HJ.out; omega
      · obtain rfl : j = 4 - 1 := by omega
        have i1 : ¬ (((4 : Nat) - 1 + 1 : Nat) : Int) < 4 := by omega
        have his := rIs_c cv
        have wpn : IntKind.wrap .i64 ((p : Int) + 4) = (p : Int) + 4 := wrap_small _ (by omega) (by omega)
        have z1 : (p : Int) ≤ (p : Int) + 4 := by omega
        have z2 : (p : Int) + 4 ≤ (s.size : Int) := by omega
        have z3 : ((p : Int) + 4).toNat = p + 4 := by omega
        rcases hcx : isC cv with _ | _
        · rw [hcx] at his
          have E : Hid (ch s p = -1 ∧ wd s p = 1) := by
            refine ch_of_bad ?_
            rcases hb : bad s p with _ | _
            · exfalso
              have gv := good_val LD.out C.out hb
              have hv := dec_valid s p
              rw [gv.1, HCV.out] at hv
              simp [isC] at hcx
              simp [Lib.validRune] at hv
              omega
            · rfl
          go_wp2_with (go_at_call 50; (with_reducible refine (his _).mono ?_); rintro e w5 ⟨rfl, h5⟩; subst w5)
          refine wp_region_ext (by kernel_rfl) (by kernel_rfl) ?_
          repeat (go_big_quiet_step (first | exact rfl))
          refine wpQuiet_nil ?_
          intro w5 hw5
          have B5 : Hid (Below wr.heap.size wr w5) := ext_of hw5
          clear hw5
          go_wp2
          go_ret2
          rw [E.out.1, E.out.2]
          exact ⟨rfl, B5.out⟩
        · rw [hcx] at his
          have hEx : Hid (∀ W, Calls Tryz.prog 51 #[.int .i64 cv] W fun e w' => e = .returned (.string (txt (Lib.encodeRune cv))) ∧ Below W.heap.size W w') := fun W => rText_c cv W hcx
          have hir : 0 ≤ cv ∧ cv ≤ 1114111 ∧ (cv < 55296 ∨ 57343 < cv) := by simpa [isC] using hcx
          have HIR : Hid _ := hir
          obtain ⟨T, hT⟩ : ∃ T, txt (Lib.encodeRune cv) = T := ⟨_, rfl⟩
          rw [hT] at hEx
          have hTl : T.toList = Lib.encodeRune cv := by rw [← hT, Lib.toList_data]; rfl
          have hsl := ext_toList s p 4
          by_cases heq : Lib.encodeRune cv = sl s p 4
          · have hcmp : (T.toList == (s.extract p (p + 4)).toList) = true := by rw [hTl, hsl, heq]; simp
            have E : Hid (ch s p = cv ∧ wd s p = 4) := by
              show ch s p = cv ∧ wd s p = 4
              have hl : (Lib.encodeRune cv).length = 4 := by rw [heq]; unfold sl; rw [List.length_take, List.length_drop, size_list]; omega
              have d := dec_of_enc HIR.out (by rw [hl]; exact heq.symm)
              exact ⟨by rw [ch_good d.2.2, d.1], by rw [d.2.1, hl]⟩
            clear hT hTl hsl heq hir
            go_wp2_with (go_at_call 50; (with_reducible refine (his _).mono ?_); rintro e w5 ⟨rfl, h5⟩; subst w5)
            refine wp_region_ext (by kernel_rfl) (by kernel_rfl) ?_
            repeat (go_big_quiet_step (first | exact rfl | (go_at_call 51; exact ext_call (hEx.out _))))
            refine wpQuiet_nil ?_
            intro w5 hw5
            have B5 : Hid (Below wr.heap.size wr w5) := ext_of hw5
            clear hw5
            go_wp2
            go_ret2
            rw [E.out.1, E.out.2]
            exact ⟨rfl, B5.out⟩
          · have hcmp : (T.toList == (s.extract p (p + 4)).toList) = false := by rw [hTl, hsl]; simpa using heq
            have E : Hid (ch s p = -1 ∧ wd s p = 1) := by
              refine ch_of_bad ?_
              rcases hb : bad s p with _ | _
              · exfalso
                have gv := good_val LD.out C.out hb
                have es := enc_sl s p hp hb
                rw [gv.2, gv.1, HCV.out] at es
                exact heq es
              · rfl
            clear hT hTl hsl heq hir
            go_wp2_with (go_at_call 50; (with_reducible refine (his _).mono ?_); rintro e w5 ⟨rfl, h5⟩; subst w5)
            refine wp_region_ext (by kernel_rfl) (by kernel_rfl) ?_
            repeat (go_big_quiet_step (first | exact rfl | (go_at_call 51; exact ext_call (hEx.out _))))
            refine wpQuiet_nil ?_
            intro w5 hw5
            have B5 : Hid (Below wr.heap.size wr w5) := ext_of hw5
            clear hw5
            go_wp2
            go_ret2
            rw [E.out.1, E.out.2]
            exact ⟨rfl, B5.out⟩
end Go.Proofs.YtloeajhmmjdlgaaGreatDoor
