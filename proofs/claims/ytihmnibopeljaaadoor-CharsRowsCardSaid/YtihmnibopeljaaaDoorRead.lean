/-
  Read: contract.
-/
import Derived.Test.YtihmnibopeljaaaDoorFdif
namespace Go.Proofs.YtihmnibopeljaaaDoor
open Go Go.RowKit

/-- The units are taken, one by one. -/
def foldS (s : ByteArray) : List (Nat × Int) → Rs → Rs ⊕ (Int × Int)
  | [], x => .inl x
  | (p, _) :: t, x => match takeS (bad s p) p ((Utf8.decode s p).1 : Int) x with | .inl y => foldS s t y | .inr e => .inr e
def readO (s : ByteArray) : Rs ⊕ (Int × Int) := foldS s (us s) ⟨[], 0, 0, 0⟩
/-- What Read tells. -/
def rdTxt (s : ByteArray) : Rs ⊕ (Int × Int) → List UInt8
  | .inr _ => []
  | .inl x => if x.st = 0 ∧ shown (txt x.L) = s.data.toList then x.L else []
def rdErr (s : ByteArray) : Rs ⊕ (Int × Int) → Int
  | .inr e => e.1
  | .inl x => if x.st ≠ 0 then 31 else if shown (txt x.L) = s.data.toList then 0 else 32
def rdPl (s : ByteArray) : Rs ⊕ (Int × Int) → Int
  | .inr e => e.2
  | .inl x => if x.st ≠ 0 then (s.size : Int) else if shown (txt x.L) = s.data.toList then 0 else (cpl (shown (txt x.L)) s.data.toList : Int)

theorem kindS_ok {x y : Rs} {r : Int} (h : kindS x r = some y) : y.ok ∧ y.L.length ≤ x.L.length + 1 := by
  unfold kindS at h
  split at h
  · cases h; exact ⟨⟨.inl rfl, fun q => by cases q⟩, by simp⟩
  split at h
  · cases h; exact ⟨⟨.inl rfl, fun q => by cases q⟩, by simp⟩
  split at h
  · cases h; exact ⟨⟨.inr (.inr (.inl rfl)), fun q => by cases q⟩, by simp⟩
  · cases h
theorem escS_ok {x y : Rs} {r : Int} (h : escS x r = some y) : y.ok ∧ y.L.length ≤ x.L.length + 1 := by
  have hr := hexv_range r
  unfold escS at h
  split at h
  · exact kindS_ok h
  split at h
  · cases h
  rename_i hn
  split at h
  · cases h; exact ⟨⟨.inr (.inr (.inr rfl)), fun _ => ⟨by simp only; omega, hr.2⟩⟩, by simp⟩
  · cases h; exact ⟨⟨.inl rfl, fun q => by cases q⟩, by simp⟩
theorem takeS_ok {s : ByteArray} {p : Nat} {x y : Rs} (hp : p < s.size) (h : takeS (bad s p) p ((Utf8.decode s p).1 : Int) x = .inl y) : y.ok ∧ y.L.length ≤ x.L.length + wd s p := by
  have hw := wd_pos s p
  unfold takeS at h
  split at h
  · split at h
    · rename_i hy
      cases h
      have := escS_ok hy
      exact ⟨this.1, by omega⟩
    · cases h
  split at h
  · cases h
  rename_i hb
  split at h
  · cases h; exact ⟨⟨.inr (.inl rfl), fun q => by cases q⟩, by simp⟩
  · cases h
    refine ⟨⟨.inl rfl, fun q => by cases q⟩, ?_⟩
    have hbb : bad s p = false := by
      rcases h : bad s p with _ | _
      · rfl
      · exact absurd (.inr h) hb
    have e := enc_sl s p hp hbb
    have := sl_len s p (wd s p)
    simp only [List.length_append, e]
    omega

/-- While the text is read. -/
structure RL (s : ByteArray) (w : World) (pos : Nat) (v : Value) (x : Rs) (wr : World) : Prop where
  it : wr.heap[w.heap.size + 1]? = some (.stringIter s pos)
  rd : RD w.heap.size wr w.heap.size v x.L x.st x.bg x.hi
  bel : Below w.heap.size w wr
theorem RL.next {s : ByteArray} {w wr : World} {pos : Nat} {v : Value} {x : Rs} (h : RL s w pos v x wr) (p : Nat) : RL s w p v x (wr.iterAt (w.heap.size + 1) s p) :=
  ⟨Lib.iterAt_heap wr _ s pos p h.it, ⟨(Lib.iterAt_other wr _ _ s p (by omega)).trans h.rd.hb, h.rd.lo, own_iterAt h.rd.own h.it⟩, iter_below h.bel (by omega) p⟩
theorem RL.aft {s : ByteArray} {w wr w' : World} {pos : Nat} {v : Value} {x : Rs} {y : Option Rs} (h : RL s w pos v x wr) (ha : Aft w.heap.size wr w.heap.size v y w') : Below w.heap.size w w' ∧ ∀ z, y = some z → ∃ v', RL s w pos v' z w' := by
  have hb : Below w.heap.size w w' := chainF h.bel ha.1 (Nat.le_refl _) (fun k hk => by
    rcases hk with rfl | q
    · exact Nat.le_refl _
    · exact (ownsRow_at h.rd.own q).1)
  refine ⟨hb, fun z hz => ?_⟩
  obtain ⟨v', hv⟩ := ha.2.2 z hz
  refine ⟨v', ?_, hv, hb⟩
  rw [ha.1.block _ (lt_of_heap h.it) (fun q => ?_)]
  · exact h.it
  · rcases q with q | q
    · omega
    · obtain ⟨_, _, cur, hc⟩ := ownsRow_at h.rd.own q
      rw [h.it] at hc; cases hc

theorem takeS_err {bd : Bool} {p : Nat} {r : Int} {x : Rs} {e : Int × Int} (h : takeS bd p r x = .inr e) : e.1 ≠ 0 := by
  unfold takeS at h
  split at h
  · split at h
    · cases h
    · cases h; simp
  split at h
  · cases h; simp
  split at h <;> cases h
theorem txt_list (s : ByteArray) : txt s.data.toList = s := by cases s; rfl
theorem txt_data (l : List UInt8) : (txt l).data.toList = l := rfl
theorem txt_size (l : List UInt8) : (txt l).size = l.length := rfl
theorem txt_inj {a : List UInt8} {s : ByteArray} (h : txt a = s) : a = s.data.toList := by rw [← h]; rfl

set_option maxHeartbeats 8000000 in
set_option maxRecDepth 1000000 in
theorem read_c (s : ByteArray) (w : World) (hT : Tabs w) (hs : s.size ≤ 274877906944) :
    Calls Tryd.prog 19 #[.string s] w fun e w' => e = .returned (.tuple #[.string (txt (rdTxt s (readO s))), .int .i64 (rdErr s (readO s)), .int .i64 (rdPl s (readO s))]) ∧ Below w.heap.size w w' := by
  have HT : Hid (Tabs w) := hT
  have hT2 := hT.blocks.2
  clear hT
  go_enter Tryd.func19, Tryd.ntmps19
  go_wp2
  go_loopw [] (fun wr => ∃ (pos f : Nat) (x : Rs) (v : Value), RL s w pos v x wr ∧ foldS s (uFrom s f pos) x = readO s ∧ x.ok ∧ x.L.length ≤ pos ∧ pos ≤ s.size ∧ s.size ≤ pos + f) (fun wr => s.size - wr.iterPos (w.heap.size + 1))
  case atStart =>
    refine ⟨0, s.size, ⟨[], 0, 0, 0⟩, .slice none 0 0, ⟨?_, ⟨?_, Nat.le_refl _, World.ownsRow_nil _ _ _ _⟩, ((Below.refl _ w).alloc (Nat.le_refl _) _).alloc (by simp) _⟩, rfl, ⟨.inl rfl, fun q => by cases q⟩, by simp, Nat.zero_le _, by omega⟩
    · have := World.iter_heap (w.alloc (.cells #[.slice none 0 0, .int .i64 0, .int .i64 0, .int .i64 0] 64)) s 0
      simpa using this
    · refine (Below.heap_alloc (w.alloc _) _ _ ?_).trans (alloc_new w _)
      simp
  case round =>
    obtain ⟨pos, f, x, v, hR, hacc, hok, hxl, hps, hfu⟩ := hrel
    have R : Hid (RL s w pos v x wr) := hR
    have A : Hid (foldS s (uFrom s f pos) x = readO s) := hacc
    have K : Hid x.ok := hok
    have hit := hR.it
    have hsz := hR.bel.size
    clear hR hacc hok
    by_cases hp : pos < s.size
    · obtain ⟨W2, hW2⟩ : ∃ W2, wr.iterAt (w.heap.size + 1) s (pos + wd s pos) = W2 := ⟨_, rfl⟩
      have hnx : ∀ ty, (Instr.next (.pointer (some ⟨w.heap.size + 1, 0, none⟩)) true ty).run Tryd.prog wr = .ok (.tuple #[.bool true, .int .i64 (pos : Int), .int .i32 ((Utf8.decode s pos).1 : Int)]) W2 := fun ty => by rw [← hW2]; exact Lib.run_next_any_at wr (w.heap.size + 1) s pos ty hit hp
      have R2 : Hid (RL s w (pos + wd s pos) v x W2) := by show RL s w (pos + wd s pos) v x W2; rw [← hW2]; exact R.out.next (pos + wd s pos)
      clear hW2
      obtain ⟨f, rfl⟩ : ∃ g, f = g + 1 := ⟨f - 1, by omega⟩
      have A2 := A.out
      rw [uFrom_more s f pos hp, foldS] at A2
      have hw := wd_pos s pos
      have hwd := (wd_le s pos hp).2
      have I : Hid (wr.heap[w.heap.size + 1]? = some (.stringIter s pos)) := hit
      have hsz2 := R2.out.bel.size
      have htk := take_c s pos R2.out.rd K.out hsz2 (by omega) hp
      have hte : Hid (∀ e, takeS (bad s pos) pos ((Utf8.decode s pos).1 : Int) x = .inr e → e.1 ≠ 0) := fun e => takeS_err
      clear hit
      obtain ⟨o, ho⟩ : ∃ o, takeS (bad s pos) pos ((Utf8.decode s pos).1 : Int) x = o := ⟨_, rfl⟩
      rw [ho] at htk A2
      have HO : Hid (takeS (bad s pos) pos ((Utf8.decode s pos).1 : Int) x = o) := ho
      have HTO : Hid (∀ y, takeS (bad s pos) pos ((Utf8.decode s pos).1 : Int) x = .inl y → y.ok ∧ y.L.length ≤ x.L.length + wd s pos) := fun y => takeS_ok hp
      clear ho
      cases o with
      | inl y =>
        have A3 : Hid (foldS s (uFrom s f (pos + wd s pos)) y = readO s) := A2
        clear A2
        go_wp2_with (go_at_call 35; refine Calls.mono htk ?_; rintro e w6 ⟨rfl, a6⟩; have X6 : Hid (Below w.heap.size w w6 ∧ ∃ v', RL s w (pos + wd s pos) v' y w6) := (by have q := R2.out.aft a6; exact ⟨q.1, q.2 y rfl⟩); clear a6)
        go_roundw
        case rel =>
          obtain ⟨v', hv'⟩ := X6.out.2
          have hy := HTO.out y HO.out
          exact ⟨pos + wd s pos, f, y, v', hv', A3.out, hy.1, by omega, hwd, by omega⟩
        case measure =>
          obtain ⟨v', hv'⟩ := X6.out.2
          simp only [World.iterPos, hv'.it, I.out]
          omega
      | inr er =>
        have A3 : Hid (.inr er = readO s) := A2
        have her : (er.1 != 0) = true := by have := hte.out er HO.out; simpa using this
        clear A2
        obtain ⟨e1, e2⟩ := er
        simp only at her
        go_wp2_with (go_at_call 35; refine Calls.mono htk ?_; rintro e w6 ⟨rfl, a6⟩; have X6 : Hid (Below w.heap.size w w6) := (R2.out.aft a6).1; clear a6; simp only [errOf, plOf])
        go_ret3
        rw [← A3.out]
        exact ⟨rfl, X6.out⟩
    · have hnx : ∀ ty, (Instr.next (.pointer (some ⟨w.heap.size + 1, 0, none⟩)) true ty).run Tryd.prog wr = _ := fun ty => Lib.run_next_end_at wr (w.heap.size + 1) s pos ty hit hp
      have A2 := A.out
      rw [uFrom_end s f pos hp, foldS] at A2
      have A3 : Hid (.inl x = readO s) := A2
      have c0 := R.out.rd.cells.1
      have c1 := R.out.rd.cells.2.1
      have hlt : w.heap.size < wr.heap.size := lt_of_heap R.out.rd.hb
      clear hit A2
      by_cases hst : x.st = 0
      · rw [hst] at c1
        have HST : Hid (x.st = 0) := hst
        have hcv := conv_own R.out.rd.own
        obtain ⟨q, c, rfl⟩ := ownsRow_shape R.out.rd.own
        have hsh := shown_c (txt x.L) wr (HT.out.below R.out.bel hT2) (by rw [txt_size]; omega)
        have hsl : Hid ((shown (txt x.L)).length ≤ 1099511627776000) := by
          show (shown (txt x.L)).length ≤ 1099511627776000
          have h1 : ∀ l : List (Nat × Int), (shUs (txt x.L) l).length ≤ 16 * l.length := fun l => by
            induction l with
            | nil => simp [shUs]
            | cons a t ih =>
              obtain ⟨p, c⟩ := a
              have h1 := shU_len (txt x.L) p
              have h2 : wd (txt x.L) p ≤ 4 := by
                unfold wd
                rw [dec_eq]
                rcases decN_cases ((txt x.L).size - p) (bt (txt x.L) p) (bt (txt x.L) (p + 1)) (bt (txt x.L) (p + 2)) (bt (txt x.L) (p + 3)) with k | ⟨_, k⟩ | ⟨_, _, _, _, k⟩ | ⟨_, _, _, _, _, _, k⟩ | ⟨_, _, _, _, _, _, _, k⟩
                all_goals (rw [k]; simp only; omega)
              simp only [shUs, List.flatMap_cons, List.length_append, List.length_cons] at ih ⊢
              omega
          have h2 := us_length (txt x.L)
          rw [txt_size] at h2
          have h3 := h1 (us (txt x.L))
          unfold shown
          omega
        by_cases heq : txt (shown (txt x.L)) = s
        · rw [heq] at hsh
          have HE : Hid (shown (txt x.L) = s.data.toList) := txt_inj heq
          clear hst heq
          go_wp2_with (go_at_call 20; refine Calls.mono hsh ?_; rintro e w6 ⟨rfl, h6⟩; have B6 : Hid (Below w.heap.size w w6) := chain R.out.bel h6 (Nat.le_refl _); clear h6)
          go_ret3
          rw [← A3.out]
          have r1 : rdTxt s (.inl x) = x.L := by rw [rdTxt, if_pos ⟨HST.out, HE.out⟩]
          have r2 : rdErr s (.inl x) = 0 := by rw [rdErr, if_neg (by simpa using HST.out), if_pos HE.out]
          have r3 : rdPl s (.inl x) = 0 := by rw [rdPl, if_neg (by simpa using HST.out), if_pos HE.out]
          rw [r1, r2, r3]
          exact ⟨rfl, B6.out⟩
        · have HE : Hid (¬ shown (txt x.L) = s.data.toList) := fun q => heq (by rw [q]; exact txt_list s)
          obtain ⟨S, hS⟩ : ∃ S, txt (shown (txt x.L)) = S := ⟨_, rfl⟩
          rw [hS] at hsh heq
          have HS : Hid (shown (txt x.L) = S.data.toList) := txt_inj hS
          have hs2 : (S.toList == s.toList) = false := by
            rw [Lib.toList_data, Lib.toList_data, ← HS.out]
            simpa using HE.out
          have hfd := firstDiff_c S s
          have hSz : S.size ≤ 1099511627776000 := by rw [← size_list, ← HS.out]; exact hsl.out
          clear hst heq hS
          go_wp2_with first
            | (go_at_call 20; refine Calls.mono hsh ?_; rintro e w6 ⟨rfl, h6⟩; have B6 : Hid (Below w.heap.size w w6) := chain R.out.bel h6 (Nat.le_refl _); clear h6)
            | (go_at_call 36; refine Calls.mono (hfd _ hSz) ?_; rintro e w7 ⟨rfl, h7⟩; have B7 : Hid (Below w.heap.size w w7) := chain B6.out h7 (Nat.le_refl _); clear h7)
          go_ret3
          rw [← A3.out]
          have r1 : rdTxt s (.inl x) = [] := by rw [rdTxt, if_neg (fun q => HE.out q.2)]
          have r2 : rdErr s (.inl x) = 32 := by rw [rdErr, if_neg (by simpa using HST.out), if_neg HE.out]
          have r3 : rdPl s (.inl x) = (cpl S.data.toList s.data.toList : Int) := by rw [rdPl, if_neg (by simpa using HST.out), if_neg HE.out, HS.out]
          rw [r1, r2, r3]
          exact ⟨rfl, B7.out⟩
      · have bst : (x.st != 0) = true := by simpa using hst
        have HST : Hid (x.st ≠ 0) := hst
        clear hst
        go_wp2
        go_ret3
        rw [← A3.out]
        have r1 : rdTxt s (.inl x) = [] := by rw [rdTxt, if_neg (fun q => HST.out q.1)]
        have r2 : rdErr s (.inl x) = 31 := by rw [rdErr, if_pos HST.out]
        have r3 : rdPl s (.inl x) = (s.size : Int) := by rw [rdPl, if_pos HST.out]
        rw [r1, r2, r3]
        exact ⟨rfl, R.out.bel⟩
end Go.Proofs.YtihmnibopeljaaaDoor
