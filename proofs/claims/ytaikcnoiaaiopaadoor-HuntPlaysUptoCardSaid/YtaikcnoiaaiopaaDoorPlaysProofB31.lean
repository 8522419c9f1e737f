/-
  Parts of the proof.
-/
import Derived.Test.YtaikcnoiaaiopaaDoorPlaysProofB30
set_option linter.unusedSimpArgs false
namespace Go.Proofs.YtaikcnoiaaiopaaDoor
open Go Go.RowKit Go.Shelf
theorem all_c (hb : Nat) (line : ByteArray) (w : World) :
    Calls Tryd.prog 16 #[.pointer (some ⟨hb, 0, none⟩), .string line] w fun e w' => e = .returned (.func (.func 30) #[] #[.pointer (some ⟨w.heap.size, 0, none⟩), .pointer (some ⟨w.heap.size + 1, 0, none⟩)]) ∧ w' = (w.alloc (.cells #[.pointer (some ⟨hb, 0, none⟩)] 25)).alloc (.cells #[.string line] 9) := by
  go_enter Tryd.func16, Tryd.ntmps16
  go_wp2
  go_ret
  exact ⟨rfl, rfl⟩
section
variable {f : Bool} {ws : List ByteArray} {line : ByteArray}
theorem allM_mem {n p k : Nat} : (p, k) ∈ allM f ws line n ↔ p < n ∧ Sd f ws line p k := by
  simp only [allM, List.mem_flatMap, List.mem_range, List.mem_map, Prod.mk.injEq]
  constructor
  · rintro ⟨q, hq, j, hj, rfl, rfl⟩; exact ⟨hq, allAt_mem.1 hj⟩
  · rintro ⟨h1, h2⟩; exact ⟨p, h1, k, allAt_mem.2 h2, rfl, rfl⟩
def Bef (x y : Nat × Nat) : Prop := x.1 < y.1 ∨ (x.1 = y.1 ∧ x.2 < y.2)
theorem allAt_rises (p : Nat) : (allAt f ws line p).Pairwise (· < ·) := List.Pairwise.filter _ List.pairwise_lt_range
theorem allM_rises (n : Nat) : (allM f ws line n).Pairwise Bef := by
  induction n with
  | zero => simp [allM]
  | succ n ih =>
    rw [allM_next, List.pairwise_append]
    refine ⟨ih, ?_, ?_⟩
    · rw [List.pairwise_map]
      exact (allAt_rises n).imp (fun h => .inr ⟨rfl, h⟩)
    · rintro ⟨p, k⟩ h1 y h2
      obtain ⟨j, _, rfl⟩ := List.mem_map.1 h2
      exact .inl (allM_mem.1 h1).1
theorem sd_lt (hok : mayB ws = true) {p k : Nat} (h : Sd f ws line p k) : p < line.size := by
  obtain ⟨s, h1, h2⟩ := h
  have h3 := ((mayB_of hok).1 s (List.mem_of_getElem? h1)).1
  have := sd_len h2 h3
  omega
theorem nxA_first (hok : mayB ws = true) {m : Nat} {p k : Int} {b : Bool} (hm : m ≤ line.size) (h : NxA f ws line (m : Int) p k b) :
    match (allM f ws line line.size).find? (fun x => decide (m ≤ x.1)) with
    | none => b = false ∧ p = 0 ∧ k = 0
    | some x => b = true ∧ p = (x.1 : Int) ∧ k = (x.2 : Int) := by
  rcases h with ⟨h, _⟩ | ⟨m', hm', _, h⟩
  · omega
  have hmm : m = m' := by omega
  subst hmm
  split
  · rename_i hf
    rw [List.find?_eq_none] at hf
    rcases h with ⟨rfl, rfl, rfl, _⟩ | ⟨p', k', rfl, rfl, rfl, h1, h2, _⟩
    · exact ⟨rfl, rfl, rfl⟩
    · exact absurd (hf (p', k') (allM_mem.2 ⟨sd_lt hok h2, h2⟩)) (by simpa using h1)
  · rename_i x hf
    obtain ⟨hx, ls, rs, hl, has⟩ := List.find?_eq_some_iff_append.1 hf
    have hxm : (x.1, x.2) ∈ allM f ws line line.size := by rw [hl]; simp
    have hx1 := (allM_mem.1 hxm).2
    have hx2 : m ≤ x.1 := by simpa using hx
    rcases h with ⟨_, _, _, h⟩ | ⟨p', k', rfl, rfl, rfl, h1, h2, h3⟩
    · exact absurd hx1 (h _ _ hx2)
    · have h4 := h3 _ _ hx2 hx1
      have h5 : (p', k') ∈ allM f ws line line.size := allM_mem.2 ⟨sd_lt hok h2, h2⟩
      have hr := allM_rises (f := f) (ws := ws) (line := line) line.size
      rw [hl] at h5 hr
      rcases List.mem_append.1 h5 with h5 | h5
      · have := has _ h5
        simp at this
        omega
      · rcases List.mem_cons.1 h5 with h5 | h5
        · rw [← h5]; exact ⟨rfl, rfl, rfl⟩
        · have h6 := (List.pairwise_cons.1 (List.pairwise_append.1 hr).2.1).1 _ h5
          unfold Bef at h6
          simp only at h6
          omega
def sdB (f : Bool) (ws : List ByteArray) (line : ByteArray) (p k : Nat) : Bool := match ws[k]? with
  | some s => (cL f s).isPrefixOf ((cL f line).drop p)
  | none => false
theorem sd_b {p k : Nat} : Sd f ws line p k ↔ sdB f ws line p k = true := by
  unfold Sd sdB
  rcases h : ws[k]? with _ | s
  · simp
  · simp
def allB (f : Bool) (ws : List ByteArray) (line : ByteArray) : List (Nat × Nat) := (List.range line.size).flatMap fun p => ((List.range ws.length).filter fun k => sdB f ws line p k).map fun k => (p, k)
open Classical in
theorem all_b : allM f ws line line.size = allB f ws line := by
  unfold allM allB allAt
  refine congrArg (fun g => (List.range line.size).flatMap g) (funext fun p => congrArg (List.map fun k => (p, k)) (List.filter_congr fun k _ => ?_))
  cases h : sdB f ws line p k with
  | true => exact decide_eq_true (sd_b.2 h)
  | false => exact decide_eq_false (fun q => by rw [sd_b.1 q] at h; cases h)
end
abbrev exWs : List ByteArray := [⟨#[104, 101]⟩, ⟨#[115, 104, 101]⟩, ⟨#[104, 101, 114, 115]⟩]
abbrev exLn : ByteArray := ⟨#[117, 115, 104, 101, 114, 115]⟩
theorem ex_all : allM false exWs exLn 6 = [(1, 1), (2, 0), (2, 2)] := by
  have h : allM false exWs exLn exLn.size = allB false exWs exLn := all_b
  exact h.trans (by kernel_rfl)
theorem ex_ok : mayB exWs = true := by kernel_rfl
end Go.Proofs.YtaikcnoiaaiopaaDoor
namespace Go.Proofs.YtaikcnoiaaiopaaDoor
open Go Go.RowKit Go.Shelf
structure Kp (base b0 : Nat) (w0 : World) (f : Bool) (T : Pt) (D : List Nat → Prop) (R : List Nat → Nat → Prop) (K : List Nat → Kn) (hb : Nat) (lg : Int) (V : World) : Prop where
  hi : HInv base f T D R K hb lg V
  tab : z1_Tab V
  bl : Below b0 w0 V
  pos : 0 < b0
  lb : b0 ≤ hb
  lw : b0 ≤ w0.heap.size
  sw : ∀ st, HM V hb T f lg st → wrap64 st = st
theorem HM.inj {V : World} {hb : Nat} {T : Pt} {f : Bool} {lg a b : Int} (h : HM V hb T f lg a) (k : HM V hb T f lg b) : a = b := by
  have e := h.symm.trans k
  simp at e
  exact e
section
variable {base b0 : Nat} {w0 : World} {f : Bool} {T : Pt} {D : List Nat → Prop} {R : List Nat → Nat → Prop} {K : List Nat → Kn} {hb : Nat} {lg : Int} {V V' : World}
theorem tab_fr {S : Nat → Prop} (h : z1_Tab V) (hf : Fr S V V') (h0 : ¬ S 0) : z1_Tab V' := ⟨Nat.lt_of_lt_of_le h.1 hf.size, fun j hj => by
  have h1 := h.2 j hj
  unfold World.cell? at h1 ⊢
  rw [hf.block 0 h.1 h0]
  exact h1⟩
theorem Kp.fr {S : Nat → Prop} (h : Kp base b0 w0 f T D R K hb lg V) (hf : Fr S V V') (hs : ∀ k, S k → b0 ≤ k) (ht : ∀ k cur t, S k → V.heap[k]? = some (.cells cur t (0, 0)) → t ≠ 65 ∧ t ≠ 112 ∧ t ≠ 67) : Kp base b0 w0 f T D R K hb lg V' := by
  obtain ⟨h1, st, h2⟩ := h.hi
  refine ⟨⟨h1.keep (TrK.fr hf (fun k cur t hk hc q => ?_)), st, (hf.block _ (lt_of_heap h2) (fun q => (ht _ _ _ q h2).2.2 rfl)).trans h2⟩, tab_fr h.tab hf (fun q => by have := hs _ q; have := h.pos; omega), ⟨hf.os.trans h.bl.os, hf.tape.trans h.bl.tape, hf.output.trans h.bl.output, Nat.le_trans h.bl.size hf.size, fun k hk => (hf.block k (by have := h.lw; have := h.bl.size; omega) (fun q => by have := hs k q; omega)).trans (h.bl.block k hk)⟩, h.pos, h.lb, h.lw, fun st' h' => h.sw st' (by
    have h9 := (hf.block _ (lt_of_heap h2) (fun q => (ht _ _ _ q h2).2.2 rfl)).trans h2
    have := HM.inj h' h9
    subst this; exact h2)⟩
  rcases q with q | q
  · exact (ht k cur t hk hc).1 q
  · exact (ht k cur t hk hc).2.1 q
theorem Kp.below (h : Kp base b0 w0 f T D R K hb lg V) (hb' : Below V.heap.size V V') : Kp base b0 w0 f T D R K hb lg V' :=
  h.fr (S := fun _ => False) ((Fr.refl _ _).then hb') (fun _ q => q.elim) (fun _ _ _ q => q.elim)
theorem Kp.grown {B : Nat} {row : Option Nat} (h : Kp base b0 w0 f T D R K hb lg V) (hB : b0 ≤ B) (hg : V.grownBy V' row) (hr : ∀ r, row = some r → B ≤ r ∧ ∃ o : Obj, V.heap[r]? = some o ∧ o.isCells = false) : Kp base b0 w0 f T D R K hb lg V' :=
  h.fr (S := fun k => row = some k) ⟨hg.os, hg.tape, hg.output, hg.size, fun k hk hs => hg.block k hk (fun e => hs e.symm)⟩ (fun k q => Nat.le_trans hB (hr k q).1) (fun k cur t q hc => by
    obtain ⟨_, o, h1, h2⟩ := hr k q
    rw [hc] at h1
    injection h1 with h1
    subst h1
    cases h2)
theorem Kp.ft {N : Nat} (h : Kp base b0 w0 f T D R K hb lg V) (hN : b0 ≤ N) (hf : FT N tyP V V') : Kp base b0 w0 f T D R K hb lg V' :=
  h.fr hf.fr (fun k q => Nat.le_trans hN q.1) (fun k cur t q hc => by
    obtain ⟨_, c2, t2, h2, h3⟩ := q
    rw [hc] at h2
    injection h2 with h2
    injection h2 with _ h2 _
    subst h2
    rcases h3 with e | e | e <;> refine ⟨?_, ?_, ?_⟩ <;> rw [e] <;> decide)
theorem Kp.bump {d : Int} (h : Kp base b0 w0 f T D R K hb lg V) (hu : Bump hb d V V') : Kp base b0 w0 f T D R K hb lg V' := by
  refine ⟨h.hi.bump hu, tab_fr h.tab hu.fr (fun q => by have := h.lb; have := h.pos; omega), ⟨hu.fr.os.trans h.bl.os, hu.fr.tape.trans h.bl.tape, hu.fr.output.trans h.bl.output, Nat.le_trans h.bl.size hu.fr.size, fun k hk => (hu.fr.block k (by have := h.lw; have := h.bl.size; omega) (fun q => by have := h.lb; omega)).trans (h.bl.block k hk)⟩, h.pos, h.lb, h.lw, fun st' h' => by
    obtain ⟨_, st, h2⟩ := h.hi
    rw [HM.inj h' (hu.st _ _ _ _ h2)]
    unfold wrap64; omega⟩
theorem Kp.set (h : Kp base b0 w0 f T D R K hb lg V) {k j : Nat} {cur : Array Value} {t : TypeId} (hk : V.heap[k]? = some (.cells cur t (0, 0))) (hb' : b0 ≤ k) (ht : t ≠ 65 ∧ t ≠ 112 ∧ t ≠ 67) (v : Value) : Kp base b0 w0 f T D R K hb lg (V.setCell ⟨k, j, none⟩ v) :=
  h.fr (S := fun i => i = k) ((Fr.refl (fun i => i = k) V).setCell (p := ⟨k, j, none⟩) rfl v) (fun i q => by subst q; exact hb') (fun i cur' t' q hc => by
    subst q
    rw [hk] at hc
    injection hc with hc
    injection hc with _ hc _
    subst hc
    exact ht)
theorem Kp.next (h : Kp base b0 w0 f T D R K hb lg V) {st : Int} (hm : HM V' hb T f lg st) (hs : wrap64 st = st) (hf : Fr (fun k => k = hb) V V') : Kp base b0 w0 f T D R K hb lg V' := by
  obtain ⟨h1, st0, h2⟩ := h.hi
  refine ⟨⟨h1.keep (TrK.fr hf (fun k cur t hk hc q => ?_)), st, hm⟩, tab_fr h.tab hf (fun q => by have := h.lb; have := h.pos; omega), ⟨hf.os.trans h.bl.os, hf.tape.trans h.bl.tape, hf.output.trans h.bl.output, Nat.le_trans h.bl.size hf.size, fun k hk => (hf.block k (by have := h.lw; have := h.bl.size; omega) (fun q => by have := h.lb; omega)).trans (h.bl.block k hk)⟩, h.pos, h.lb, h.lw, fun st' h' => by rw [HM.inj h' hm]; exact hs⟩
  subst hk
  rw [h2] at hc
  injection hc with hc
  injection hc with _ hc _
  rcases q with q | q <;> exact absurd (hc.trans q) (by decide)
theorem kp_new {w : World} {ws : List ByteArray} {st : Int} (hH : Hu w.heap.size V f ws T D R K lg) (hm : HM V hb T f lg st) (hs : wrap64 st = st) (ht : z1_Tab w) (hb' : Below w.heap.size w V) (h1 : w.heap.size ≤ hb) : Kp w.heap.size w.heap.size w f T D R K hb lg V :=
  ⟨⟨hH.tr, st, hm⟩, ht.below hb', hb', ht.1, h1, Nat.le_refl _, fun st' h' => by rw [HM.inj h' hm]; exact hs⟩
theorem Hu.at {base : Nat} {w : World} {f : Bool} {ws : List ByteArray} (hH : Hu base w f ws T D R K lg) (h : TrM base V T D R K) : Hu base V f ws T D R K lg := ⟨h, hH.d, hH.kw, hH.bk, hH.wh, hH.lg, hH.ok⟩
end
end Go.Proofs.YtaikcnoiaaiopaaDoor
