/-
  Shown: contract.
-/
import Derived.Test.YtihmnibopeljaaaDoorEsc
namespace Go.Proofs.YtihmnibopeljaaaDoor
open Go Go.RowKit

/-- Is a character told as it is? -/
def plainI (c : Int) : Bool := decide ((32 ≤ c ∧ c ≤ 126) ∨ 159 < c)
/-- A part of a text. -/
def sl (s : ByteArray) (p n : Nat) : List UInt8 := (s.data.toList.drop p).take n
def shU (s : ByteArray) (p : Nat) : List UInt8 :=
  if ch s p = 92 then [92, 92] else if ch s p = 10 then [92, 110] else if plainI (ch s p) then sl s p (wd s p) else escs (sl s p (wd s p))
def shUs (s : ByteArray) (l : List (Nat × Int)) : List UInt8 := l.flatMap fun u => shU s u.1
def shown (s : ByteArray) : List UInt8 := shUs s (us s)
theorem shUs_app (s : ByteArray) (l : List (Nat × Int)) (p : Nat) (c : Int) : shUs s (l ++ [(p, c)]) = shUs s l ++ shU s p := by simp [shUs]
theorem sl_len (s : ByteArray) (p n : Nat) : (sl s p n).length ≤ n := by simp [sl]; omega
theorem shU_len (s : ByteArray) (p : Nat) : (shU s p).length ≤ 4 * wd s p := by
  have := wd_pos s p
  have := sl_len s p (wd s p)
  unfold shU
  split
  · simp; omega
  split
  · simp; omega
  split
  · omega
  · rw [escs_len]; omega
theorem decL (s : ByteArray) (p : Nat) : Lib.decodeL (s.data.toList.drop p) = Utf8.decode s p := by
  rw [Lib.decodeL_N, Lib.decode_N, List.length_drop]
  simp only [List.getD_eq_getElem?_getD, List.getElem?_drop, Nat.add_zero]
theorem enc_sl (s : ByteArray) (p : Nat) (hp : p < s.size) (hb : bad s p = false) : Lib.encodeRune ((Utf8.decode s p).1 : Int) = sl s p (wd s p) := by
  have hne : s.data.toList.drop p ≠ [] := by
    intro e
    have := congrArg List.length e
    rw [List.length_drop, size_list] at this
    simp at this; omega
  have := Lib.encode_decode (s.data.toList.drop p) hne (by
    rw [decL]
    rintro ⟨h1, h2⟩
    have : bad s p = true := by
      unfold bad
      rw [decide_eq_true_eq]
      exact Prod.ext h1 h2
    rw [hb] at this; cases this)
  rw [decL] at this
  exact this
theorem ext_sl (s : ByteArray) (p n : Nat) : (s.extract p (p + n)).data.toList = sl s p n := by
  rw [ByteArray.data_extract, Array.toList_extract, List.extract_eq_take_drop]
  unfold sl
  congr 1
  omega

set_option maxHeartbeats 4000000 in
set_option maxRecDepth 1000000 in
theorem isPlain_c (c : Int) (w : World) : Calls Tryd.prog 37 #[.int .i32 c] w fun e w' => e = .returned (.bool (plainI c)) ∧ w' = w := by
  by_cases h0 : 32 ≤ c
  · by_cases h1 : c ≤ 126
    · have hc : Hid (plainI c = true) := by show plainI c = true; simp [plainI]; omega
      go_enter Tryd.func37, Tryd.ntmps37
      go_wp2
      go_ret
      exact ⟨by rw [hc.out]; rfl, rfl⟩
    · by_cases h2 : 159 < c
      · have hc : Hid (plainI c = true) := by show plainI c = true; simp [plainI]; omega
        go_enter Tryd.func37, Tryd.ntmps37
        go_wp2
        go_ret
        exact ⟨by rw [hc.out]; rfl, rfl⟩
      · have hc : Hid (plainI c = false) := by show plainI c = false; simp [plainI]; omega
        go_enter Tryd.func37, Tryd.ntmps37
        go_wp2
        go_ret
        exact ⟨by rw [hc.out]; rfl, rfl⟩
  · have h2 : ¬ 159 < c := by omega
    have hc : Hid (plainI c = false) := by show plainI c = false; simp [plainI]; omega
    go_enter Tryd.func37, Tryd.ntmps37
    go_wp2
    go_ret
    exact ⟨by rw [hc.out]; rfl, rfl⟩

theorem RI.fr {s : ByteArray} {w wr w6 : World} {k pos n m : Nat} {e : TypeId} {v v' : Value} {L M : List Value} (h : RI s w k pos e v n L wr) (hown : w6.ownsRow w.heap.size e 1 v' m M) (hf : Fr (ow v) wr w6) : RI s w k pos e v' m M w6 := by
  refine ⟨h.lo, ?_, hown, chainF h.bel hf (Nat.le_refl _) (fun z hz => (ownsRow_at h.own hz).1)⟩
  rw [hf.block k (lt_of_heap h.it) (fun q => ?_)]
  · exact h.it
  · obtain ⟨_, _, cur, hc⟩ := ownsRow_at h.own q
    rw [h.it] at hc; cases hc
theorem RI.then {s : ByteArray} {w wr w6 : World} {k pos n : Nat} {e : TypeId} {v : Value} {L : List Value} (h : RI s w k pos e v n L wr) (hb : Below wr.heap.size wr w6) : RI s w k pos e v n L w6 :=
  ⟨h.lo, (hb.block k (lt_of_heap h.it)).trans h.it, ownsRow_fr h.own (Fr.of_below (S := fun _ => False) hb) (fun _ _ q => q), chain h.bel hb (Nat.le_refl _)⟩

set_option maxHeartbeats 8000000 in
set_option maxRecDepth 1000000 in
theorem shown_c (s : ByteArray) (w : World) (hT : Tabs w) (hs : s.size ≤ 1099511627776) :
    Calls Tryd.prog 20 #[.string s] w fun e w' => e = .returned (.string (txt (shown s))) ∧ Below w.heap.size w w' := by
  obtain ⟨t0, hi, hz0, hz1, hz2⟩ := info_parts size_u8
  have HT : Hid (Tabs w) := hT
  have hT2 := hT.blocks.2
  clear hT
  go_enter Tryd.func20, Tryd.ntmps20
  go_wp2
  go_loopw [3] (fun t wr => ∃ (pos f : Nat) (acc : List (Nat × Int)), RI s w w.heap.size pos 5 t (shUs s acc).length (Lib.byteCells (shUs s acc)) wr ∧ acc ++ uFrom s f pos = us s ∧ s.size ≤ pos + f ∧ (shUs s acc).length ≤ 4 * pos) (fun _ wr => s.size - wr.iterPos w.heap.size)
  case atStart => exact ⟨0, s.size, [], ⟨Nat.le_refl _, World.iter_heap w s 0, World.ownsRow_nil _ _ _ _, (Below.refl _ w).alloc (Nat.le_refl _) _⟩, rfl, by omega, by simp [shUs]⟩
  case round =>
    obtain ⟨pos, f, acc, hR, hacc, hfu, hap⟩ := hrel
    obtain ⟨L, hL⟩ : ∃ L, shUs s acc = L := ⟨_, rfl⟩
    rw [hL] at hR hap
    have HL : Hid (shUs s acc = L) := hL
    clear hL
    obtain ⟨q, c, rfl⟩ := ownsRow_shape hR.own
    have R : Hid (RI s w w.heap.size pos 5 (.slice q L.length c) L.length (Lib.byteCells L) wr) := hR
    have A : Hid (acc ++ uFrom s f pos = us s) := hacc
    have hit := hR.it
    have hsz := hR.len
    clear hR hacc
    by_cases hp : pos < s.size
    · obtain ⟨W2, hW2⟩ : ∃ W2, wr.iterAt w.heap.size s (pos + wd s pos) = W2 := ⟨_, rfl⟩
      have hnx : ∀ ty, (Instr.next (.pointer (some ⟨w.heap.size, 0, none⟩)) true ty).run Tryd.prog wr = .ok (.tuple #[.bool true, .int .i64 (pos : Int), .int .i32 ((Utf8.decode s pos).1 : Int)]) W2 := fun ty => by rw [← hW2]; exact Lib.run_next_any_at wr w.heap.size s pos ty hit hp
      have R2 : Hid (RI s w w.heap.size (pos + wd s pos) 5 (.slice q L.length c) L.length (Lib.byteCells L) W2) := by rw [← hW2]; exact R.out.next (pos + wd s pos)
      clear hW2
      obtain ⟨f, rfl⟩ : ∃ g, f = g + 1 := ⟨f - 1, by omega⟩
      have A2 := A.out
      rw [uFrom_more s f pos hp] at A2
      have A3 : Hid (acc ++ ((pos, ch s pos) :: uFrom s f (pos + wd s pos)) = us s) := A2
      have hw := wd_pos s pos
      have hwd := (wd_le s pos hp).2
      have hw4 := (wd_le s pos hp).1
      have I : Hid (wr.heap[w.heap.size]? = some (.stringIter s pos)) := hit
      have hc := broken_c s pos
      have hdl := dec_le s pos
      have hT2' : Hid (Tabs W2) := HT.out.below R2.out.bel hT2
      have hnx2 := next_in s pos W2 hT2'.out hp (by unfold maxLen; omega)
      have HES : Hid (bad s pos = false → Lib.encodeRune ((Utf8.decode s pos).1 : Int) = sl s pos (wd s pos)) := enc_sl s pos hp
      have HCG : Hid (bad s pos = false → ch s pos = (Utf8.decode s pos).1) := ch_good
      have HCB : Hid (bad s pos = true → ch s pos = -1 ∧ (Utf8.decode s pos).1 = 65533) := fun h => ⟨(ch_bad h).1, (ch_bad h).2.2⟩
      have hlen5 := shU_len s pos
      clear A2 hit
      have hsz2 := R2.out.len
      obtain ⟨r, hr⟩ : ∃ r, (Utf8.decode s pos).1 = r := ⟨_, rfl⟩
      rw [hr] at hnx hc hdl HES HCG HCB
      clear hr
      obtain ⟨wp, hwp⟩ : ∃ x, wd s pos = x := ⟨_, rfl⟩
      rw [hwp] at hnx2 A3 R2 hw hwd hw4 hlen5 HES
      have N3 : Hid (Calls Tryd.prog 22 #[.string s, .int .i64 (pos : Int)] W2 fun e w' => e = .returned (.tuple #[.int .i64 (ch s pos), .int .i64 (wp : Int)]) ∧ Below W2.heap.size W2 w') := hnx2
      have HW : Hid (wd s pos = wp) := hwp
      clear hnx2 hwp
      -- what each way must leave
      have fin : Hid (∀ (w6 : World) (v6 : Value), RI s w w.heap.size (pos + wp) 5 v6 (L.length + (shU s pos).length) (Lib.byteCells (L ++ shU s pos)) w6 →
          ∃ (pos' f' : Nat) (acc' : List (Nat × Int)), RI s w w.heap.size pos' 5 v6 (shUs s acc').length (Lib.byteCells (shUs s acc')) w6 ∧ acc' ++ uFrom s f' pos' = us s ∧ s.size ≤ pos' + f' ∧ (shUs s acc').length ≤ 4 * pos') := fun w6 v6 h => by
        refine ⟨pos + wp, f, acc ++ [(pos, ch s pos)], ?_, by rw [← A3.out]; simp, by omega, ?_⟩
        · rw [shUs_app, HL.out, List.length_append]; exact h
        · rw [shUs_app, HL.out, List.length_append]; omega
      by_cases h92 : r = 92
      · subst h92
        have hch : Hid (shU s pos = [92, 92]) := by
          show shU s pos = [92, 92]
          have hb : bad s pos = false := by
            rcases hb : bad s pos with _ | _
            · rfl
            · have := (HCB.out hb).2; omega
          have : ch s pos = 92 := HCG.out hb
          unfold shU
          rw [if_pos this]
        go_wp2_with (at_builtin; refine wpList_append_own_at _ rfl _ _ 60 rfl w.heap.size 5 t0 (.int .u8 0) 1 1 und_u8s hi hz0 hz1 hz2 rfl (by decide) (.slice q L.length c) L.length (Lib.byteCells L) rfl (World.ownsRow.alloc R2.out.own (.cells #[.int .u8 92, .int .u8 92] 5)) ⟨W2.heap.size, 0, none⟩ 2 2 [.int .u8 92, .int .u8 92] rfl rfl (news2 _ _ _ _) (by simp [Value.oneCell']) (by unfold maxLen; omega) (by omega) (by simp; omega) ?_; intro v' w6 hown' hgrow _ hblk; obtain ⟨g6, cap6, rfl⟩ := ownsRow_some hown' (Nat.succ_pos _); have R6 : Hid (RI s w w.heap.size (pos + wp) 5 (.slice (some ⟨g6, 0, none⟩) (L.length + 2) cap6) (L.length + 2) (Lib.byteCells L ++ [.int .u8 92, .int .u8 92]) w6) := R2.out.app hown' hgrow; clear hown' hgrow hblk)
        go_roundw
        case rel =>
          refine fin.out _ _ ?_
          rw [hch.out, Lib.byteCells_append]
          exact R6.out
        case measure =>
          simp only [World.iterPos, R6.out.it, I.out]
          omega
      have b92 : ((r : Int) == 92) = false := by simp; omega
      by_cases h10 : r = 10
      · subst h10
        have hch : Hid (shU s pos = [92, 110]) := by
          show shU s pos = [92, 110]
          have hb : bad s pos = false := by
            rcases hb : bad s pos with _ | _
            · rfl
            · have := (HCB.out hb).2; omega
          have : ch s pos = 10 := HCG.out hb
          unfold shU
          rw [if_neg (by rw [this]; decide), if_pos this]
        go_wp2_with (at_builtin; refine wpList_append_own_at _ rfl _ _ 60 rfl w.heap.size 5 t0 (.int .u8 0) 1 1 und_u8s hi hz0 hz1 hz2 rfl (by decide) (.slice q L.length c) L.length (Lib.byteCells L) rfl (World.ownsRow.alloc R2.out.own (.cells #[.int .u8 92, .int .u8 110] 5)) ⟨W2.heap.size, 0, none⟩ 2 2 [.int .u8 92, .int .u8 110] rfl rfl (news2 _ _ _ _) (by simp [Value.oneCell']) (by unfold maxLen; omega) (by omega) (by simp; omega) ?_; intro v' w6 hown' hgrow _ hblk; obtain ⟨g6, cap6, rfl⟩ := ownsRow_some hown' (Nat.succ_pos _); have R6 : Hid (RI s w w.heap.size (pos + wp) 5 (.slice (some ⟨g6, 0, none⟩) (L.length + 2) cap6) (L.length + 2) (Lib.byteCells L ++ [.int .u8 92, .int .u8 110]) w6) := R2.out.app hown' hgrow; clear hown' hgrow hblk)
        go_roundw
        case rel =>
          refine fin.out _ _ ?_
          rw [hch.out, Lib.byteCells_append]
          exact R6.out
        case measure =>
          simp only [World.iterPos, R6.out.it, I.out]
          omega
      have b10 : ((r : Int) == 10) = false := by simp; omega
      have hpl := isPlain_c (r : Int)
      have h0 : (0 : Int) ≤ (pos : Int) := by omega
      have h1 : ((pos + wp : Nat) : Int) = (pos : Int) + (wp : Int) := by omega
      have hwr : IntKind.wrap .i64 ((pos : Int) + (wp : Int)) = (pos : Int) + (wp : Int) := wrap_small _ (by omega) (by omega)
      have hle1 : (pos : Int) ≤ (pos : Int) + (wp : Int) := by omega
      have hle2 : (pos : Int) + (wp : Int) ≤ (s.size : Int) := by omega
      have htn : ((pos : Int) + (wp : Int)).toNat = pos + wp := by omega
      rcases hpb : plainI (r : Int) with _ | _
      · -- no character that is told as it is
        rw [hpb] at hpl
        have hch : Hid (shU s pos = escs (sl s pos wp)) := by
          show shU s pos = escs (sl s pos wp)
          have hne : ch s pos ≠ 92 ∧ ch s pos ≠ 10 ∧ plainI (ch s pos) = false := by
            rcases hb : bad s pos with _ | _
            · rw [HCG.out hb]; exact ⟨by omega, by omega, hpb⟩
            · have := (HCB.out hb).2
              subst this
              simp [plainI] at hpb
          unfold shU
          rw [if_neg hne.1, if_neg hne.2.1, hne.2.2, HW.out]; rfl
        go_wp2_with first
          | (go_at_call 37; (with_reducible refine (hpl _).mono ?_); rintro e w5 ⟨rfl, h5⟩; subst w5)
          | (go_at_call 22; (with_reducible refine (Calls.mono N3.out ?_)); rintro e w5 ⟨rfl, h5⟩; have R5 : Hid (RI s w w.heap.size (pos + wp) 5 (.slice q L.length c) L.length (Lib.byteCells L) w5) := R2.out.then h5; have z5 := R5.out.len; clear h5)
          | (go_at_call 38; (refine (addEscapes_c (a := L) (s.extract pos (pos + wp)) R5.out.own (by rw [ByteArray.size_extract]; omega) (by omega) z5).mono ?_); rw [ext_sl]; rintro e w6 ⟨v6, rfl, o6, f6, m6⟩; have R6 : Hid (RI s w w.heap.size (pos + wp) 5 v6 (L ++ escs (sl s pos wp)).length (Lib.byteCells (L ++ escs (sl s pos wp))) w6) := R5.out.fr o6 f6; clear o6 f6 m6)
        go_roundw
        case rel =>
          refine fin.out _ _ ?_
          rw [hch.out, ← List.length_append]
          exact R6.out
        case measure =>
          simp only [World.iterPos, R6.out.it, I.out]
          omega
      · rw [hpb] at hpl
        rcases hb : bad s pos with _ | _
        · rw [hb] at hc
          have hch : Hid (shU s pos = Lib.encodeRune (r : Int)) := by
            show shU s pos = Lib.encodeRune (r : Int)
            rw [HES.out hb]
            have e := HCG.out hb
            unfold shU
            rw [if_neg (by rw [e]; omega), if_neg (by rw [e]; omega), e, hpb, HW.out]; rfl
          go_wp2_with first
            | (go_at_call 37; (with_reducible refine (hpl _).mono ?_); rintro e w5 ⟨rfl, h5⟩; subst w5)
            | (go_at_call 34; (with_reducible refine (hc _ hp).mono ?_); rintro e w5 ⟨rfl, h5⟩; subst w5)
            | (go_at_call 33; (refine (Tryd.utf8_AppendRune_plain w.heap.size _ L.length _ (r : Int) (by omega) (by omega) _ R2.out.own (by omega) hsz2).mono ?_); rintro e w6 ⟨v6, rfl, hown6, ob, hg6⟩; have R6 : Hid (RI s w w.heap.size (pos + wp) 5 v6 (L.length + (Lib.runeCells (r : Int)).length) (Lib.byteCells L ++ Lib.runeCells (r : Int)) w6) := R2.out.app hown6 hg6; clear hown6 hg6)
          go_roundw
          case rel =>
            refine fin.out _ _ ?_
            rw [hch.out, Lib.byteCells_append, Lib.byteCells_encodeRune, ← Lib.runeCells_length]
            exact R6.out
          case measure =>
            simp only [World.iterPos, R6.out.it, I.out]
            omega
        · rw [hb] at hc
          have hch : Hid (shU s pos = escs (sl s pos wp)) := by
            show shU s pos = escs (sl s pos wp)
            have e := (HCB.out hb).1
            unfold shU
            rw [if_neg (by rw [e]; decide), if_neg (by rw [e]; decide), e, HW.out]; rfl
          go_wp2_with first
            | (go_at_call 37; (with_reducible refine (hpl _).mono ?_); rintro e w5 ⟨rfl, h5⟩; subst w5)
            | (go_at_call 34; (with_reducible refine (hc _ hp).mono ?_); rintro e w5 ⟨rfl, h5⟩; subst w5)
            | (go_at_call 22; (with_reducible refine (Calls.mono N3.out ?_)); rintro e w5 ⟨rfl, h5⟩; have R5 : Hid (RI s w w.heap.size (pos + wp) 5 (.slice q L.length c) L.length (Lib.byteCells L) w5) := R2.out.then h5; have z5 := R5.out.len; clear h5)
            | (go_at_call 38; (refine (addEscapes_c (a := L) (s.extract pos (pos + wp)) R5.out.own (by rw [ByteArray.size_extract]; omega) (by omega) z5).mono ?_); rw [ext_sl]; rintro e w6 ⟨v6, rfl, o6, f6, m6⟩; have R6 : Hid (RI s w w.heap.size (pos + wp) 5 v6 (L ++ escs (sl s pos wp)).length (Lib.byteCells (L ++ escs (sl s pos wp))) w6) := R5.out.fr o6 f6; clear o6 f6 m6)
          go_roundw
          case rel =>
            refine fin.out _ _ ?_
            rw [hch.out, ← List.length_append]
            exact R6.out
          case measure =>
            simp only [World.iterPos, R6.out.it, I.out]
            omega
    · have hnx : ∀ ty, (Instr.next (.pointer (some ⟨w.heap.size, 0, none⟩)) true ty).run Tryd.prog wr = _ := fun ty => Lib.run_next_end_at wr w.heap.size s pos ty hit hp
      have A2 := A.out
      rw [uFrom_end s f pos hp, List.append_nil] at A2
      have A3 : Hid (shown s = L) := by show shown s = L; rw [shown, ← A2, HL.out]
      have hcv := conv_own R.out.own
      clear hit A2
      go_wp2
      go_ret
      rw [A3.out]
      exact ⟨rfl, R.out.bel⟩
end Go.Proofs.YtihmnibopeljaaaDoor
