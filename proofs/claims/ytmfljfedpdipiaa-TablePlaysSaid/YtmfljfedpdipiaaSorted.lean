/-
  What sorted answers: the entries in the order of their keys, in a list of its own.
-/
import Derived.Test.YtmfljfedpdipiaaSrt
import Derived.Maps.AppendAt
namespace Go.Proofs.Ytmfljfedpdipiaa
open Go Go.RowKit Go.Shelf

/-- The blocks that the sort does not write. -/
theorem sortWorld_block {α : Type} [Inhabited α] (enc : α → List Value) (k : Nat) (w : World) (blk off m : Nat) (dk : Array α) (os : Array Obj) {j : Nat} (h1 : j ≠ blk) (h2 : j < w.heap.size) : (sortWorldK enc k w blk off m dk os).heap[j]? = w.heap[j]? := by
  unfold sortWorldK Go.Sort.grow Go.Sort.putRowK Go.Sort.putRow Go.Sort.mapBlock Go.Sort.ahead
  simp only
  rw [Array.getElem?_append_left (by simpa using h2), Array.getElem?_modify, if_neg (Ne.symm h1)]
theorem sortWorld_rest {α : Type} [Inhabited α] (enc : α → List Value) (k : Nat) (w : World) (blk off m : Nat) (dk : Array α) (os : Array Obj) : (sortWorldK enc k w blk off m dk os).os = w.os ∧ (sortWorldK enc k w blk off m dk os).tape = w.tape ∧ (sortWorldK enc k w blk off m dk os).output = w.output := ⟨rfl, rfl, rfl⟩
theorem sortWorld_self {α : Type} [Inhabited α] (enc : α → List Value) (k : Nat) (w : World) (blk off m : Nat) (dk : Array α) (os : Array Obj) {cur : Array Value} {t : TypeId} {fr : Nat × Nat} (h : w.heap[blk]? = some (.cells cur t fr)) : ∃ cur', (sortWorldK enc k w blk off m dk os).heap[blk]? = some (.cells cur' t fr) := by
  have hlt := lt_of_heap h
  unfold sortWorldK Go.Sort.grow Go.Sort.putRowK Go.Sort.putRow Go.Sort.mapBlock Go.Sort.ahead
  simp only
  rw [Array.getElem?_append_left (by simpa using hlt), Array.getElem?_modify, if_pos rfl, h]
  exact ⟨_, rfl⟩

/-- Entries in a row of places, from its beginning. -/
structure RowP (w : World) (g cap : Nat) (S : List Ent) : Prop where
  blk : ∃ cur, w.heap[g]? = some (.cells cur 62 (0, 0)) ∧ ∀ (i : Nat) (e : Ent), S[i]? = some e → cur[i * 3]? = some e.kv ∧ cur[i * 3 + 1]? = some (.int .i64 e.val) ∧ cur[i * 3 + 2]? = some (.bool true)
  hcap : S.length ≤ cap
  hmax : cap ≤ maxLen
theorem RowP.cells {w : World} {g cap : Nat} {S : List Ent} (h : RowP w g cap S) {i : Nat} {e : Ent} (hi : S[i]? = some e) : w.cell? ⟨g, i * 3, none⟩ = some e.kv ∧ w.cell? ⟨g, i * 3 + 1, none⟩ = some (.int .i64 e.val) ∧ w.cell? ⟨g, i * 3 + 2, none⟩ = some (.bool true) := by
  obtain ⟨cur, hc, hx⟩ := h.blk
  obtain ⟨h1, h2, h3⟩ := hx i e hi
  exact ⟨cell_row hc h1, cell_row hc h2, cell_row hc h3⟩

/-- The taken places, in their order. -/
def ents (P : Pl) : List Ent := P.filterMap id
theorem ents_len (P : Pl) : (ents P).length = cnt P := by
  unfold ents cnt
  induction P with
  | nil => rfl
  | cons x P ih =>
    cases x with
    | none => simpa using ih
    | some e => simpa using ih
theorem ents_take {P : Pl} {k : Nat} {x : Option Ent} (h : P[k]? = some x) : ents (P.take (k + 1)) = ents (P.take k) ++ (match x with | none => [] | some e => [e]) := by
  have hl := get_lt h
  have e : P[k] = x := by rw [List.getElem?_eq_getElem hl] at h; exact Option.some.inj h
  unfold ents
  rw [take_next P k hl, List.filterMap_append, e]
  cases x <;> simp
theorem mem_ents {P : Pl} {e : Ent} : e ∈ ents P ↔ ∃ i : Nat, P[i]? = some (some e) := by
  unfold ents
  rw [List.mem_filterMap]
  constructor
  · rintro ⟨x, hx, rfl⟩
    obtain ⟨i, hi⟩ := List.getElem?_of_mem hx
    exact ⟨i, hi⟩
  · rintro ⟨i, hi⟩
    exact ⟨some e, List.mem_of_getElem? hi, rfl⟩
theorem ents_one {P : Pl} (h : ∀ (i j : Nat) (a c : Ent), P[i]? = some (some a) → P[j]? = some (some c) → a.key = c.key → i = j) : ∀ (i j : Nat) (a c : Ent), (ents P)[i]? = some a → (ents P)[j]? = some c → a.key = c.key → i = j := by
  have hp : (ents P).Pairwise (fun a c => a.key ≠ c.key) := by
    unfold ents
    rw [List.pairwise_filterMap, List.pairwise_iff_getElem]
    intro i j hi hj hij a ha c hc e
    have := h i j a c (by rw [List.getElem?_eq_getElem hi]; exact congrArg some ha) (by rw [List.getElem?_eq_getElem hj]; exact congrArg some hc) e
    omega
  rw [List.pairwise_iff_getElem] at hp
  intro i j a c ha hc e
  obtain ⟨hi, rfl⟩ := List.getElem?_eq_some_iff.1 ha
  obtain ⟨hj, rfl⟩ := List.getElem?_eq_some_iff.1 hc
  rcases Nat.lt_trichotomy i j with q | q | q
  · exact absurd e (hp i j hi hj q)
  · exact q
  · exact absurd e.symm (hp j i hj hi q)
def cellsE (S : List Ent) : List Value := cellsP (S.map some)
theorem cellsE_length (S : List Ent) : (cellsE S).length = S.length * 3 := by unfold cellsE; rw [cellsP_length, List.length_map]; omega
theorem cellsE_append (S R : List Ent) : cellsE (S ++ R) = cellsE S ++ cellsE R := by unfold cellsE; rw [List.map_append, cellsP_append]
theorem cellsE_get {S : List Ent} {i : Nat} {e : Ent} (h : S[i]? = some e) : (cellsE S)[i * 3]? = some e.kv ∧ (cellsE S)[i * 3 + 1]? = some (.int .i64 e.val) ∧ (cellsE S)[i * 3 + 2]? = some (.bool true) := by
  have hi : (S.map some)[i]? = some (some e) := by simp [h]
  exact ⟨cellsP_get hi 0 (by decide), cellsP_get hi 1 (by decide), cellsP_get hi 2 (by decide)⟩

/-- Keys rising. -/
def Rising (S : List Ent) : Prop := ∀ (i j : Nat) (a c : Ent), i < j → S[i]? = some a → S[j]? = some c → lexC a.key c.key = -1

theorem rising_of {S : List Ent} {W : Nat} (hW : ∀ e ∈ S, e.key.length = W) (hn : ∀ (i j : Nat) (a c : Ent), S[i]? = some a → S[j]? = some c → a.key = c.key → i = j) (hs : ∀ (i j : Nat) (a c : Ent), i < j → S[i]? = some a → S[j]? = some c → ¬ lexC c.key a.key < 0) : Rising S := fun i j a c hij ha hc => by
  have hl : a.key.length = c.key.length := (hW a (List.mem_of_getElem? ha)).trans (hW c (List.mem_of_getElem? hc)).symm
  have h1 := hs i j a c hij ha hc
  have h2 := lexC_anti a.key c.key hl
  rcases lexC_range a.key c.key with q | q | q
  · exact q
  · have := hn i j a c ha hc (lexC_zero _ _ hl q); omega
  · omega

theorem lift_list {w : World} {W : Nat} : ∀ S : List Ent, (∀ e ∈ S, KeyAt w e.kv e.key ∧ e.key.length = W) → ∃ D : List (PE w W), D.map (fun e => e.1) = S
  | [], _ => ⟨[], rfl⟩
  | e :: S, h => by
    obtain ⟨D, hD⟩ := lift_list S (fun e' he => h e' (List.mem_cons_of_mem _ he))
    exact ⟨⟨e, h e List.mem_cons_self⟩ :: D, by rw [List.map_cons, hD]⟩
theorem nodup_of {l : List (List Int)} (h : ∀ (i j : Nat) (x : List Int), l[i]? = some x → l[j]? = some x → i = j) : l.Nodup := by
  rw [List.nodup_iff_pairwise_ne, List.pairwise_iff_getElem]
  intro i j hi hj hij e
  have := h i j l[j] (by rw [List.getElem?_eq_getElem hi, e]) (List.getElem?_eq_getElem hj)
  omega
theorem nodup_at {l : List (List Int)} (h : l.Nodup) (i j : Nat) (x : List Int) (hi : l[i]? = some x) (hj : l[j]? = some x) : i = j := by
  rw [List.nodup_iff_pairwise_ne, List.pairwise_iff_getElem] at h
  obtain ⟨hil, rfl⟩ := List.getElem?_eq_some_iff.1 hi
  obtain ⟨hjl, e⟩ := List.getElem?_eq_some_iff.1 hj
  rcases Nat.lt_trichotomy i j with q | q | q
  · exact absurd e.symm (h i j hil hjl q)
  · exact q
  · exact absurd e (h j i hjl hil q)
theorem cell_of {w : World} {g : Nat} {cur : Array Value} {t : TypeId} (h : w.heap[g]? = some (.cells cur t (0, 0))) {i : Nat} {v : Value} (hc : w.cell? ⟨g, i, none⟩ = some v) : cur[i]? = some v := by
  simpa [World.cell?, h] using hc

set_option maxRecDepth 100000 in
set_option maxHeartbeats 4000000 in
/-- A row of places, sorted. -/
theorem sortfunc_c {w : World} {g cap W : Nat} {S : List Ent} (hr : RowP w g cap S) (hk : ∀ e ∈ S, KeyAt w e.kv e.key ∧ e.key.length = W) (hW : W ≤ 128) (hn : ∀ (i j : Nat) (a c : Ent), S[i]? = some a → S[j]? = some c → a.key = c.key → i = j) (hl : S.length ≤ 1000000) :
    Calls Try.prog 23 #[.slice (some ⟨g, 0, none⟩) S.length cap, .func (.func 24) #[] #[]] w fun e w' => e = .returned (.tuple #[]) ∧ ∃ R, RowP w' g cap R ∧ R.length = S.length ∧ (∀ e, e ∈ R ↔ e ∈ S) ∧ Rising R ∧ Fr (fun k => k = g) w w' := by
  cases hS : S with
  | nil =>
    subst hS
    refine (AnyF.slices_SortFunc_none Try.sortPl (some ⟨g, 0, none⟩) cap _ w).mono ?_
    rintro e w' ⟨rfl, rfl⟩
    exact ⟨rfl, [], hr, rfl, fun _ => Iff.rfl, fun i j a c _ h => by simp at h, Fr.refl _ _⟩
  | cons e0 S0 =>
    rw [← hS]
    have hm0 : e0 ∈ S := by rw [hS]; exact List.mem_cons_self
    letI : Inhabited (PE w W) := ⟨⟨e0, hk e0 hm0⟩⟩
    obtain ⟨D, hD⟩ := lift_list S hk
    have hDl : D.length = S.length := by rw [← hD, List.length_map]
    have hdg : ∀ i (hi : i < D.length), S[i]? = some (D[i].1) := fun i hi => by rw [← hD, List.getElem?_map, List.getElem?_eq_getElem hi]; rfl
    have hbang : ∀ (X : List (PE w W)) i (hi : i < X.length), X.toArray[i]! = X[i] := fun X i hi => by
      rw [getElem!_pos X.toArray i (by simpa using hi)]
      simp
    obtain ⟨cur, hcur, hx⟩ := hr.blk
    have hgl := lt_of_heap hcur
    have hH : Go.Sort.HoldsK encP 3 w g 0 D.toArray := fun j hj => by
      have hj' : j < D.length * 3 := by have := hj; rw [Go.Sort.size_flatK, List.size_toArray] at this; exact this
      have hi3 : j / 3 < D.length := by omega
      obtain ⟨h1, h2, h3⟩ := hx _ _ (hdg (j / 3) hi3)
      refine ⟨?_, frz_row hcur _⟩
      rw [Nat.zero_add]
      refine cell_row hcur ?_
      show cur[j]? = some ((Go.Sort.flatK encP 3 D.toArray)[j]!)
      rw [Go.Sort.get_flatK encP 3 D.toArray j (by rw [List.size_toArray]; exact hj'), hbang D _ hi3]
      unfold encP
      have h3' : j % 3 = 0 ∨ j % 3 = 1 ∨ j % 3 = 2 := by omega
      rcases h3' with q | q | q
      · rw [show j / 3 * 3 = j by omega] at h1; rw [q]; exact h1
      · rw [show j / 3 * 3 + 1 = j by omega] at h2; rw [q]; exact h2
      · rw [show j / 3 * 3 + 2 = j by omega] at h3; rw [q]; exact h3
    have hcmp : CmpLays Try.prog 24 #[] encP 3 (cfP (w := w) (W := W)) g 0 D.toArray.size w := fun m os dk _ x y => by
      have hkx : ∀ z : PE w W, KeyAt (sortWorldK encP 3 w g 0 m dk os) z.1.kv z.1.key := fun z => by
        obtain ⟨gk, e1, hgk⟩ := z.2.1
        exact ⟨gk, e1, (sortWorld_block encP 3 w g 0 m dk os (ne_type hgk hcur (by decide)) (lt_of_heap hgk)).trans hgk⟩
      exact cmp1_c (x := x.1.val) (y := y.1.val) (hkx x) (hkx y) (x.2.2.trans y.2.2.symm) (by have := x.2.2; omega)
    have eg : ∀ args w, (callFunc 24 args).run Try.prog w = .ok (.enter 24 args) w := enters_of Try.func24 (by kernel_rfl) rfl
    have h1c : ∀ x : PE w W, ∀ v ∈ encP x, v.oneCell' = true := fun x v hv => by
      obtain ⟨gk, e1, _⟩ := x.2.1
      unfold encP at hv
      rw [e1] at hv
      simp at hv
      rcases hv with rfl | rfl | rfl <;> rfl
    have hcon := AnyQ.slices_SortFunc Try.sortPl 3 Try.isAgg62 Try.sizeOf62 encP (fun _ => rfl) h1c cfP swoP 24 #[] g 0 cap D.toArray w eg hcmp hH hgl (by rw [List.size_toArray]; omega)
    rw [List.size_toArray, hDl] at hcon
    refine Calls.mono (show Calls Try.prog 23 _ _ _ from hcon) ?_
    rintro e w' ⟨rfl, d', n, os, hp, hs, rfl⟩
    obtain ⟨X, rfl⟩ : ∃ X : List (PE w W), d' = X.toArray := ⟨d'.toList, by simp⟩
    have hXl : X.length = S.length := by have := hp.1; simpa [hDl] using this
    have hperm : X.Perm D := by
      have := hp.2.2
      simpa [List.take_of_length_le (show X.length ≤ S.length by omega), List.take_of_length_le (show D.length ≤ S.length by omega)] using this
    have hpm : (X.map (fun e => e.1)).Perm S := by rw [← hD]; exact hperm.map _
    have hXg : ∀ i e, (X.map (fun e => e.1))[i]? = some e → ∃ hi : i < X.length, X[i].1 = e := fun i e h => by
      rw [List.getElem?_map] at h
      cases hx : X[i]? with
      | none => rw [hx] at h; cases h
      | some y =>
        rw [hx] at h
        obtain ⟨hi, e2⟩ := List.getElem?_eq_some_iff.1 hx
        exact ⟨hi, by rw [e2]; exact Option.some.inj h⟩
    have hH' := holdsK_sortWorldK_c encP 3 w g 0 D.toArray X.toArray n os hH hgl (by simp [hXl, hDl])
    obtain ⟨cur', hcur'⟩ := sortWorld_self encP 3 w g 0 n X.toArray os hcur
    refine ⟨rfl, X.map (fun e => e.1), ⟨⟨cur', hcur', fun i e he => ?_⟩, by rw [List.length_map, hXl]; exact hr.hcap, hr.hmax⟩, by rw [List.length_map, hXl], fun e => hpm.mem_iff, ?_, ?_⟩
    · obtain ⟨hi, rfl⟩ := hXg i e he
      have hc : ∀ r, r < 3 → cur'[i * 3 + r]? = some ((encP X[i])[r]!) := fun r hr => by
        have hlt : i * 3 + r < X.length * 3 := by omega
        have := (hH' (i * 3 + r) (by rw [Go.Sort.size_flatK, List.size_toArray]; exact hlt)).1
        rw [Nat.zero_add] at this
        have h2 := cell_of hcur' this
        rw [h2]
        show some ((Go.Sort.flatK encP 3 X.toArray)[i * 3 + r]!) = _
        rw [Go.Sort.get_flatK encP 3 X.toArray _ (by rw [List.size_toArray]; exact hlt), show (i * 3 + r) / 3 = i by omega, show (i * 3 + r) % 3 = r by omega, hbang X i hi]
      exact ⟨hc 0 (by decide), hc 1 (by decide), hc 2 (by decide)⟩
    · have hnd : (S.map (fun e => e.key)).Nodup := nodup_of fun i j x h1 h2 => by
        rw [List.getElem?_map] at h1 h2
        cases q1 : S[i]? with
        | none => rw [q1] at h1; cases h1
        | some a =>
          cases q2 : S[j]? with
          | none => rw [q2] at h2; cases h2
          | some c =>
            rw [q1] at h1
            rw [q2] at h2
            exact hn i j a c q1 q2 ((Option.some.inj h1).trans (Option.some.inj h2).symm)
      have hnd' : ((X.map (fun e => e.1)).map (fun e => e.key)).Nodup := (hpm.map _).nodup_iff.2 hnd
      refine rising_of (W := W) (fun e he => (hk e (hpm.mem_iff.1 he)).2) (fun i j a c ha hc hac => nodup_at hnd' i j a.key (by rw [List.getElem?_map, ha]; rfl) (by rw [List.getElem?_map, hc, hac]; rfl)) (fun i j a c hij ha hc => ?_)
      obtain ⟨hi, rfl⟩ := hXg i a ha
      obtain ⟨hj, rfl⟩ := hXg j c hc
      have := hs i j (Nat.zero_le _) hij (by omega)
      rw [hbang X i hi, hbang X j hj] at this
      unfold ltOf cfP at this
      exact of_decide_eq_false this
    · obtain ⟨r1, r2, r3⟩ := sortWorld_rest encP 3 w g 0 n X.toArray os
      exact ⟨r1, r2, r3, size_sortWorldK_c encP 3 w g 0 n X.toArray os, fun k hk hs => sortWorld_block encP 3 w g 0 n X.toArray os hs hk⟩

theorem make_room (c : Nat) (h : c ≤ 10000000) (w : World) :
    (Instr.makeSlice 56 (.int .i64 0) (.int .i64 (c : Int))).run Try.prog w = .ok (.slice (some ⟨w.heap.size, 0, none⟩) 0 c) (w.alloc (.cells (cellsP (List.replicate c none)).toArray 62)) := by
  obtain ⟨i0, hi, hz0, hz1, hz2⟩ := info_parts size_place
  have := run_make (P := Try.prog) w 56 62 i0 (.agg #[.slice none 0 0, .int .i64 0, .bool false]) und_places hi hz0 .i64 .i64 (0 : Int) (c : Int) (by omega) (by omega) (by rw [hz2]; omega) (by omega)
  rw [hz1, show ((c : Int).toNat * 3) = c * 3 by simp] at this
  rw [← made_places]
  simpa [Value.cells] using this
theorem cell_three_new (w : World) (x y z : Value) (t : TypeId) : ∀ j u, [x, y, z][j]? = some u → (w.alloc (.cells #[x, y, z] t)).cell? ((⟨w.heap.size, 0, none⟩ : Addr).add j) = some u := by
  intro j u h
  rw [Addr.add_lit, Nat.zero_add]
  refine cell_row (World.alloc_heap_new w _) ?_
  simpa using h
theorem ownsRow_some {w : World} {base : Nat} {e : TypeId} {size n : Nat} {v : Value} {xs : List Value} (h : w.ownsRow base e size v n xs) (hv : v ≠ .slice none 0 0) : ∃ g cap, v = .slice (some ⟨g, 0, none⟩) n cap := by
  rcases h.2 with ⟨rfl, _⟩ | ⟨g, cap, cur, rfl, _⟩
  · exact absurd rfl hv
  · exact ⟨g, cap, rfl⟩

set_option maxRecDepth 100000 in
set_option maxHeartbeats 4000000 in
theorem sorted_c {w : World} {b pb W M : Nat} {P : Pl} {m : List Int → Option Int} (h : TM w b pb W M P m) :
    Calls Try.prog 16 #[.pointer (some ⟨b, 0, none⟩)] w fun e w' => ∃ g cap R, e = .returned (.slice (some ⟨g, 0, none⟩) R.length cap) ∧ RowP w' g cap R ∧ (∀ e, e ∈ R ↔ e ∈ ents P) ∧ R.length = cnt P ∧ Rising R ∧ w.heap.size ≤ g ∧ Below w.heap.size w w' := by
  have H : Hid (TM w b pb W M P m) := h
  have c2 := h.t.c2
  have hfew := h.few
  have hM := h.t.hM
  obtain ⟨q, cap, c3⟩ : ∃ q cap, w.cell? ⟨b, 3, none⟩ = some (.slice q P.length cap) := by
    by_cases hP : P = []
    · exact ⟨none, 0, by rw [h.t.c3, hP]; rfl⟩
    · exact ⟨_, _, h.t.c3p hP⟩
  have HQ : Hid (P ≠ [] → q = some ⟨pb, 0, none⟩) := fun hP => by
    have := h.t.c3p hP
    rw [c3] at this
    cases this
    rfl
  have hPl : P.length ≤ 1099511627776 := by
    by_cases hP : P = []
    · rw [hP]; simp
    · exact (h.t.pow hP).2
  have lb := h.t.ltb
  have hcl := cnt_le P
  have m0 := make_room (cnt P) (by omega)
  obtain ⟨i0, hi, hz0, hz1, hz2⟩ := info_parts size_place
  have INF : Hid (Try.prog.info? 62 = some i0 ∧ i0.zero = some (.agg #[.slice none 0 0, .int .i64 0, .bool false]) ∧ i0.size = 3 ∧ i0.bytes = 40) := ⟨hi, hz0, hz1, hz2⟩
  clear hi hz0 hz1 hz2 h
  have RW : Hid ((w.alloc (.cells (cellsP (List.replicate (cnt P) none)).toArray 62)).ownsRow w.heap.size 62 3 (.slice (some ⟨w.heap.size, 0, none⟩) 0 (cnt P)) 0 []) := World.ownsRow_made w _ (cnt P) (Nat.le_refl _) (by unfold maxLen; omega) (by simp [cellsP_length]; omega)
  have BW : Hid (Below w.heap.size w (w.alloc (.cells (cellsP (List.replicate (cnt P) none)).toArray 62))) := (Below.refl _ _).alloc (Nat.le_refl _) _
  have c3' := (BW.out.cell (p := ⟨b, 3, none⟩) lb).trans c3
  generalize (cellsP (List.replicate (cnt P) none)).toArray = Z at m0 RW BW c3'
  go_enter Try.func16, Try.ntmps16
  go_wp2
  go_loopw [3, 16] (fun lv i wr => ∃ k : Nat, k ≤ P.length ∧ i = .int .i64 k ∧ wr.ownsRow w.heap.size 62 3 lv (ents (P.take k)).length (cellsE (ents (P.take k))) ∧ lv ≠ .slice none 0 0 ∧ Below w.heap.size w wr) (fun _ i _ => P.length - (intOf i).toNat)
  case atStart => exact ⟨0, Nat.zero_le _, rfl, by simpa [ents, cellsE, cellsP] using RW.out, by simp, BW.out⟩
  case round =>
    obtain ⟨k, hk, rfl, hO, hne, hB⟩ := hrel
    have OW : Hid (wr.ownsRow w.heap.size 62 3 u3 (ents (P.take k)).length (cellsE (ents (P.take k)))) := hO
    have NN : Hid (u3 ≠ .slice none 0 0) := hne
    have B : Hid (Below w.heap.size w wr) := hB
    clear hO hne hB RW BW m0 c3'
    have hel : (ents (P.take k)).length ≤ 1000000 := by rw [ents_len]; have := cnt_take_le P k; omega
    by_cases hlt : k < P.length
    · have i0' : (0 : Int) ≤ (k : Int) := by omega
      have i1 : (k : Int) < (P.length : Int) := by omega
      have NE : P ≠ [] := fun e => by rw [e] at hlt; simp at hlt
      obtain rfl := HQ.out NE
      have T : Hid (TB wr b pb W M (cnt P) P) := ⟨(B.out.block b lb).trans H.out.t.hb, fun hP => (B.out.block pb (H.out.t.ltp hP)).trans (H.out.t.hp hP), fun i e hi => ⟨by obtain ⟨gk, e1, hgk⟩ := (H.out.t.hk i e hi).1; exact ⟨gk, e1, (B.out.block gk (lt_of_heap hgk)).trans hgk⟩, (H.out.t.hk i e hi).2⟩, H.out.t.hn, H.out.t.hW, H.out.t.hM⟩
      rcases get_cases hlt with hg | ⟨e, hg⟩
      · have d0 := T.out.pf0 hg
        have d1 := T.out.pf1 hg
        have d2 := T.out.pf2 hg
        have HX : Hid (ents (P.take (k + 1)) = ents (P.take k)) := (by rw [ents_take hg]; simp : ents (P.take (k + 1)) = ents (P.take k))
        clear hg
        go_wp2
        exact ⟨⟨k + 1, by omega, by go_num, by rw [HX.out]; exact World.ownsRow.alloc OW.out _, NN.out, B.out.alloc B.out.size _⟩, by simp [intOf]; omega⟩
      · obtain ⟨kv, key, val⟩ := e
        obtain ⟨⟨gk, hkv, hgk⟩, hkl⟩ := T.out.hk k _ hg
        simp only at hkv hgk hkl
        subst hkv
        have d0 := T.out.pc0 hg
        have d1 := T.out.pc1 hg
        have d2 := T.out.pc2 hg
        have HX : Hid (ents (P.take (k + 1)) = ents (P.take k) ++ [⟨.slice (some ⟨gk, 0, none⟩) key.length key.length, key, val⟩]) := ents_take hg
        have hel2 : (ents (P.take k)).length + 1 ≤ 1000000 := by have e1 := ents_len (P.take (k + 1)); rw [HX.out, List.length_append, List.length_singleton] at e1; have := cnt_take_le P (k + 1); omega
        clear hg hgk hkl
        have hsz := B.out.size
        go_wp2_with (at_builtin; refine wpList_append_own _ rfl _ _ 56 rfl w.heap.size 62 i0 (.agg #[.slice none 0 0, .int .i64 0, .bool false]) 3 40 und_places INF.out.1 INF.out.2.1 INF.out.2.2.1 INF.out.2.2.2 rfl (by decide) _ _ _ rfl (World.ownsRow.alloc (World.ownsRow.alloc OW.out (.cells #[.slice (some ⟨gk, 0, none⟩) key.length key.length, .int .i64 val, .bool true] 62)) (.cells #[.slice (some ⟨gk, 0, none⟩) key.length key.length, .int .i64 val, .bool true] 62)) ⟨wr.heap.size + 1, 0, none⟩ 1 1 [.slice (some ⟨gk, 0, none⟩) key.length key.length, .int .i64 val, .bool true] rfl rfl (by have := cell_three_new (wr.alloc (.cells #[.slice (some ⟨gk, 0, none⟩) key.length key.length, .int .i64 val, .bool true] 62)) (.slice (some ⟨gk, 0, none⟩) key.length key.length) (.int .i64 val) (.bool true) 62; simpa using this) (by simp [Value.oneCell']) (by unfold maxLen; omega) (by omega) (by simp; omega) ?_; intro v' w6 hown' hgrow hnil; have O6 : Hid (w6.ownsRow w.heap.size 62 3 v' (ents (P.take (k + 1))).length (cellsE (ents (P.take (k + 1))))) := (by rw [HX.out, List.length_append, cellsE_append]; exact hown' : _); have N6 : Hid (v' ≠ .slice none 0 0) := (fun q => absurd (hnil.1 q).2 (by decide)); have B6 : Hid (Below w.heap.size w w6) := ((B.out.alloc B.out.size _).alloc (by simp; omega) _).grown hgrow (by simp; omega) (fun j hj => (World.ownsRow.lt OW.out j hj).1); clear hown' hgrow hnil)
        exact ⟨⟨k + 1, by omega, by go_num, O6.out, N6.out, B6.out⟩, by simp [intOf]; omega⟩
    · have i1 : ¬ ((k : Int) < (P.length : Int)) := by omega
      have HE : Hid (ents (P.take k) = ents P) := (by rw [List.take_of_length_le (by omega)] : ents (P.take k) = ents P)
      rw [HE.out] at OW hel
      obtain ⟨g, capx, rfl⟩ := ownsRow_some OW.out NN.out
      have hg0 : w.heap.size ≤ g := (World.ownsRow.lt OW.out g rfl).1
      have RP : Hid (RowP wr g capx (ents P)) := (by
        obtain ⟨_, ⟨q1, _⟩ | ⟨g', cap', cur, q1, q2, q3, q4, q5, q6, q7⟩⟩ := OW.out
        · cases q1
        · cases q1
          refine ⟨⟨cur, q3, fun i e he => ?_⟩, q4, q5⟩
          have hil : i < (ents P).length := (List.getElem?_eq_some_iff.1 he).1
          obtain ⟨r1, r2, r3⟩ := cellsE_get he
          rw [← q7, List.getElem?_take_of_lt (by omega)] at r1 r2 r3
          exact ⟨by simpa using r1, by simpa using r2, by simpa using r3⟩ : RowP wr g capx (ents P))
      have KS : Hid (∀ e ∈ ents P, KeyAt wr e.kv e.key ∧ e.key.length = W) := fun e he => by
        obtain ⟨i, hi⟩ := mem_ents.1 he
        obtain ⟨gk, e1, hgk⟩ := (H.out.t.hk i e hi).1
        exact ⟨⟨gk, e1, (B.out.block gk (lt_of_heap hgk)).trans hgk⟩, (H.out.t.hk i e hi).2⟩
      have ND : Hid (∀ (i j : Nat) (a c : Ent), (ents P)[i]? = some a → (ents P)[j]? = some c → a.key = c.key → i = j) := ents_one (fun i j a c ha hc hac => (H.out.p (ne_nil_get ha)).one i j a c ha hc hac)
      go_wp2_with (go_at_call 23; refine (sortfunc_c RP.out KS.out H.out.t.hW ND.out hel).mono ?_; rintro e w6 ⟨rfl, R, hR, hRl, hRm, hRr, hRf⟩; have RR : Hid (RowP w6 g capx R) := hR; have RL : Hid (R.length = (ents P).length) := hRl; have RM : Hid (∀ e, e ∈ R ↔ e ∈ ents P) := hRm; have RS : Hid (Rising R) := hRr; have B6 : Hid (Below w.heap.size w w6) := chainF B.out hRf (Nat.le_refl _) (fun k hk => by omega); clear hR hRl hRm hRr hRf)
      go_ret
      refine ⟨g, capx, R, by rw [RL.out]; rfl, RR.out, RM.out, by rw [RL.out, ents_len], RS.out, hg0, B6.out⟩
end Go.Proofs.Ytmfljfedpdipiaa
