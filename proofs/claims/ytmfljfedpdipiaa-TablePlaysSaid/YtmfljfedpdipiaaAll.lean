/-
  All: the entries in the order of their keys, each key in new memory.
-/
import Derived.Test.YtmfljfedpdipiaaTold
namespace Go.Proofs.Ytmfljfedpdipiaa
open Go Go.RowKit Go.Shelf
attribute [local go_sem] Oper.semAt_some

/-- What a range over All is handed: a key's block, its numbers, the value. -/
abbrev Hd := Nat × List Int × Int
def encH (x : Hd) : Array Value := #[.slice (some ⟨x.1, 0, none⟩) x.2.1.length x.2.1.length, .int .i64 x.2.2]
def kvs (R : List Ent) : List (List Int × Int) := R.map fun e => (e.key, e.val)

/-- Keys rising. -/
def RisingK (L : List (List Int × Int)) : Prop := L.Pairwise fun a c => lexC a.1 c.1 = -1
/-- A beginning of a table's entries in their order; all of them. -/
structure IsPre (m : List Int → Option Int) (L : List (List Int × Int)) : Prop where
  rise : RisingK L
  there : ∀ x ∈ L, m x.1 = some x.2
  rest : ∀ k v, m k = some v → (k, v) ∈ L ∨ ∀ x ∈ L, lexC x.1 k = -1
structure IsAll (m : List Int → Option Int) (c : Nat) (L : List (List Int × Int)) : Prop where
  rise : RisingK L
  iff : ∀ k v, (k, v) ∈ L ↔ m k = some v
  len : L.length = c

theorem kvs_rising {R : List Ent} (h : Rising R) : RisingK (kvs R) := by
  unfold RisingK kvs
  rw [List.pairwise_map, List.pairwise_iff_getElem]
  intro i j hi hj hij
  exact h i j R[i] R[j] hij (List.getElem?_eq_getElem hi) (List.getElem?_eq_getElem hj)
theorem isAll_of {P : Pl} {m : List Int → Option Int} {R : List Ent} (hm : Maps P m) (hr : Rising R) (hR : ∀ e, e ∈ R ↔ e ∈ ents P) (hl : R.length = cnt P) : IsAll m (cnt P) (kvs R) := by
  refine ⟨kvs_rising hr, fun k v => ?_, by rw [kvs, List.length_map, hl]⟩
  rw [hm k v]
  unfold kvs
  rw [List.mem_map]
  constructor
  · rintro ⟨e, he, q⟩
    obtain ⟨i, hi⟩ := mem_ents.1 ((hR e).1 he)
    cases q
    exact ⟨i, e, hi, rfl, rfl⟩
  · rintro ⟨i, e, hi, rfl, rfl⟩
    exact ⟨e, (hR e).2 (mem_ents.2 ⟨i, hi⟩), rfl⟩
theorem IsAll.pre {m : List Int → Option Int} {c : Nat} {L : List (List Int × Int)} (h : IsAll m c L) (k : Nat) : IsPre m (L.take k) := by
  refine ⟨h.rise.sublist (List.take_sublist k L), fun x hx => (h.iff x.1 x.2).1 (List.mem_of_mem_take hx), fun k' v hm => ?_⟩
  have hmem := (h.iff k' v).2 hm
  obtain ⟨j, hj⟩ := List.getElem?_of_mem hmem
  obtain ⟨hjl, hje⟩ := List.getElem?_eq_some_iff.1 hj
  by_cases hjk : j < k
  · exact .inl (List.mem_of_getElem? (i := j) (by rw [List.getElem?_take_of_lt hjk]; exact hj))
  · refine .inr fun x hx => ?_
    obtain ⟨i, hi⟩ := List.getElem?_of_mem hx
    have hik : i < k := by have := (List.getElem?_eq_some_iff.1 hi).1; simp at this; omega
    rw [List.getElem?_take_of_lt hik] at hi
    obtain ⟨hil, hie⟩ := List.getElem?_eq_some_iff.1 hi
    have := (List.pairwise_iff_getElem.1 h.rise) i j hil hjl (by omega)
    rw [hie, hje] at this
    exact this

theorem RowP.same {w w' : World} {g cap : Nat} {S : List Ent} (h : RowP w g cap S) (e : ∀ cur, w.heap[g]? = some (.cells cur 62 (0, 0)) → w'.heap[g]? = some (.cells cur 62 (0, 0))) : RowP w' g cap S := by
  obtain ⟨cur, hc, hx⟩ := h.blk
  exact ⟨⟨cur, e cur hc, hx⟩, h.hcap, h.hmax⟩
/-- What is known of what is handed over. -/
def ToldA (n0 : Nat) (m : List Int → Option Int) (W c : Nat) (pre : List Hd) (x : Hd) (V : World) : Prop :=
  V.heap[x.1]? = some (.cells (ints x.2.1).toArray 3 (0, 0)) ∧ n0 ≤ x.1 ∧ x.2.1.length = W ∧ pre.length < c ∧ IsPre m ((pre ++ [x]).map (·.2))

set_option maxHeartbeats 1000000 in
theorem all_c (b : Nat) (w : World) :
    Calls Try.prog 8 #[.pointer (some ⟨b, 0, none⟩)] w fun e w' => e = .returned (.func (.func 15) #[] #[.pointer (some ⟨w.heap.size, 0, none⟩)]) ∧ w' = w.alloc (.cells #[.pointer (some ⟨b, 0, none⟩)] 25) := by
  go_enter Try.func8, Try.ntmps8
  go_wp2
  go_ret
  exact ⟨rfl, rfl⟩

set_option maxRecDepth 100000 in
set_option maxHeartbeats 2000000 in
theorem all_tells (n : Nat) (hn : 1 ≤ n) {w : World} {B b pb W M : Nat} {P : Pl} {m : List Int → Option Int} (hB : w.cell? ⟨B, 0, none⟩ = some (.pointer (some ⟨b, 0, none⟩))) (hBl : B < w.heap.size) (hT : TM w b pb W M P m) :
    Tells n Try.prog 15 #[.pointer (some ⟨B, 0, none⟩)] encH (fun k => w.heap.size ≤ k ∨ kblk P k) (ToldA w.heap.size m W (cnt P)) (fun xs => IsAll m (cnt P) (xs.map (·.2))) (fun pre => IsPre m (pre.map (·.2))) w := by
  intro l J Jx V hV hJ hY h0
  have hfn : ∀ f, Fence.wide.fn f := fun _ => trivial
  have c0 := (hV.cell (p := ⟨B, 0, none⟩) hBl).trans hB
  have T : Hid (TM V b pb W M P m) := hT.kept hV
  have VS : Hid (w.heap.size ≤ V.heap.size) := hV.size
  have HJ : Hid (∀ pre A B, J pre A → Below A.heap.size A B → J pre B) := hJ
  have J0 : Hid (J [] V) := h0
  have HW : Hid (W ≤ 128) := hT.t.hW
  have KA : Hid (∀ e ∈ ents P, KeyAt V e.kv e.key ∧ e.key.length = W) := fun e he => by
    obtain ⟨i, hi⟩ := mem_ents.1 he
    exact T.out.t.hk i e hi
  clear hB hBl hT hV hJ h0
  refine callsIn_of_wp Try.func15 rfl trivial ?_ rfl
  simp only [Try.ntmps15, List.size_toArray, List.length_cons, List.length_nil, Nat.reduceAdd, Nat.reduceSub, Array.replicate_succ, Array.replicate_zero, List.push_toArray, List.append_toArray, List.nil_append, List.cons_append]
  gi_wp2_with (gi_at_call 16; refine (callsIn_wide.2 (sorted_c T.out)).mono ?_; rintro e w1 ⟨g, cap, R, rfl, hR, hRm, hRl, hRr, hg0, hb⟩; have RP : Hid (RowP w1 g cap R) := hR; have RM : Hid (∀ e, e ∈ R ↔ e ∈ ents P) := hRm; have RL : Hid (R.length = cnt P) := hRl; have RR : Hid (Rising R) := hRr; have G0 : Hid (w.heap.size ≤ g) := Nat.le_trans VS.out hg0; have B1 : Hid (Below V.heap.size V w1) := hb; clear hR hRm hRl hRr hg0 hb)
  have AL : Hid (IsAll m (cnt P) (kvs R)) := isAll_of T.out.m RR.out RM.out RL.out
  have J1 : Hid (J [] w1) := HJ.out _ _ _ J0.out B1.out
  have K1 : Hid (∀ e ∈ R, KeyAt w1 e.kv e.key ∧ e.key.length = W ∧ ∃ gk, e.kv = .slice (some ⟨gk, 0, none⟩) e.key.length e.key.length ∧ kblk P gk) := fun e he => by
    have he' := (RM.out e).1 he
    obtain ⟨h1, h2⟩ := KA.out e he'
    obtain ⟨i, hi⟩ := mem_ents.1 he'
    refine ⟨h1.kept B1.out, h2, ?_⟩
    obtain ⟨gk, e1, _⟩ := h1
    exact ⟨gk, e1, i, e, 0, _, _, hi, e1⟩
  have hcapm := RP.out.hmax
  have hcap := RP.out.hcap
  have hRlen : R.length ≤ 1000000 := by have := RL.out; have := T.out.few; have := T.out.t.hM; omega
  clear J0 KA c0
  unfold maxLen at hcapm
  gi_loopw [8] (fun i wr => ∃ (k : Nat) (pre : List Hd), k ≤ R.length ∧ i = .int .i64 k ∧ pre.map (·.2) = (kvs R).take k ∧ J pre wr ∧ RowP wr g cap R ∧ (∀ e ∈ R, KeyAt wr e.kv e.key)) (fun i _ => R.length - (intOf i).toNat)
  case atStart => exact ⟨0, [], Nat.zero_le _, rfl, by simp, J1.out, RP.out, fun e he => (K1.out e he).1⟩
  case round =>
    obtain ⟨k, pre, hk, rfl, hpre, hj, hrow, hkeys⟩ := hrel
    have PRE : Hid (pre.map (·.2) = (kvs R).take k) := hpre
    have JW : Hid (J pre wr) := hj
    have RW : Hid (RowP wr g cap R) := hrow
    have KW : Hid (∀ e ∈ R, KeyAt wr e.kv e.key) := hkeys
    clear hpre hj hrow hkeys J1
    by_cases hlt : k < R.length
    · have i0 : (0 : Int) ≤ (k : Int) := by omega
      have i1 : (k : Int) < (R.length : Int) := by omega
      obtain ⟨⟨kv, key, val⟩, he⟩ : ∃ e, R[k]? = some e := ⟨_, List.getElem?_eq_getElem hlt⟩
      have hmem := List.mem_of_getElem? he
      obtain ⟨gk, hkv, hgk⟩ := KW.out _ hmem
      simp only at hkv hgk
      subst hkv
      obtain ⟨d0, d1, d2⟩ := RW.out.cells he
      have HKL : Hid (key.length = W) := (K1.out _ hmem).2.1
      have HE : Hid (R[k]? = some ⟨.slice (some ⟨gk, 0, none⟩) key.length key.length, key, val⟩) := he
      have hkl : key.length ≤ 128 := by have := (K1.out _ hmem).2.1; have := HW.out; simp at *; omega
      clear he hmem hgk
      have WS : Hid (w.heap.size ≤ wr.heap.size) := (by obtain ⟨cur, hc, _⟩ := RW.out.blk; have := lt_of_heap hc; have := G0.out; omega : w.heap.size ≤ wr.heap.size)
      have PLN : Hid (pre.length < cnt P) := (by
        have h1 := congrArg List.length PRE.out
        rw [List.length_map, List.length_take, kvs, List.length_map] at h1
        have := RL.out
        omega : pre.length < cnt P)
      have NX : Hid (∀ g7, (pre ++ [((g7, key, val) : Hd)]).map (·.2) = (kvs R).take (k + 1)) := fun g7 => by
        have hkl : k < (kvs R).length := by rw [kvs, List.length_map]; exact hlt
        rw [List.map_append, PRE.out, take_next (kvs R) k hkl]
        have : (kvs R)[k] = (key, val) := by
          have h1 : (kvs R)[k]? = some (key, val) := by rw [kvs, List.getElem?_map, HE.out]; rfl
          rw [List.getElem?_eq_getElem hkl] at h1
          exact Option.some.inj h1
        rw [this]
        rfl
      have BX : Hid (Below wr.heap.size wr (wr.alloc (.cells #[.slice (some ⟨gk, 0, none⟩) key.length key.length, .int .i64 val, .bool true] 62)).drew) := ((Below.refl _ _).alloc (Nat.le_refl _) _).drew
      have AK : Hid (ArgI (wr.alloc (.cells #[.slice (some ⟨gk, 0, none⟩) key.length key.length, .int .i64 val, .bool true] 62)).drew (.slice (some ⟨gk, 0, none⟩) key.length key.length) key) := ((KW.out _ (List.mem_of_getElem? HE.out)).kept BX.out).argI (by simp only; unfold maxLen; omega)
      have PX : Hid ((wr.alloc (.cells #[.slice (some ⟨gk, 0, none⟩) key.length key.length, .int .i64 val, .bool true] 62)).drew.heap[wr.heap.size]? = some (.cells #[.slice (some ⟨gk, 0, none⟩) key.length key.length, .int .i64 val, .bool true] 62 (0, 0))) := World.alloc_heap_new wr _
      have hmx : Try.prog.follows .mixedOrders = true := by kernel_rfl
      gi_wp2
      gi_region_with_o (first | (gi_at_call 17; refine (callsIn_wide.2 (copied_g AK.out (by omega))).mono ?_; rintro e7 w7 ⟨g7, rfl, hg7, hgn, hb⟩; have B7 : Hid (Below wr.heap.size wr w7) := BX.out.trans (hb.mono BX.out.size); have TD : ToldA w.heap.size m W (cnt P) pre (g7, key, val) w7 := ⟨hg7, Nat.le_trans WS.out (Nat.le_trans BX.out.size hgn), HKL.out, PLN.out, by rw [NX.out]; exact AL.out.pre (k + 1)⟩; have x1 := cell_row ((hb.block _ (lt_of_heap PX.out)).trans PX.out) (i := 1) rfl; clear hg7 hgn hb; obtain ⟨fn, tmps, assign, body, hy, hR⟩ := hY pre (g7, key, val) w7 (HJ.out _ _ _ JW.out B7.out) TD; simp only [encH] at hy; have HR : Hid (RoundIn Fence.wide (n - 1) Try.prog l fn tmps assign body w7 fun e V' => (e = .returned (.bool true) ∧ J (pre ++ [((g7, key, val) : Hd)]) V' ∧ CKeep (fun k => w.heap.size ≤ k ∨ kblk P k) w7 V') ∨ (e = .returned (.bool false) ∧ Jx (pre ++ [((g7, key, val) : Hd)]) V')) := hR; clear TD hR) | (refine HR.out.mono ?_; clear HR; rintro e9 W9 hres; obtain ⟨bv, rfl, hbv⟩ : ∃ bv, e9 = .returned (.bool bv) ∧ ((bv = true ∧ J (pre ++ [((g7, key, val) : Hd)]) W9 ∧ CKeep (fun k => w.heap.size ≤ k ∨ kblk P k) w7 W9) ∨ (bv = false ∧ Jx (pre ++ [((g7, key, val) : Hd)]) W9)) := (hres.elim (fun q => ⟨true, q.1, .inl ⟨rfl, q.2⟩⟩) (fun q => ⟨false, q.1, .inr ⟨rfl, q.2⟩⟩)); have BV : Hid ((bv = true ∧ J (pre ++ [((g7, key, val) : Hd)]) W9 ∧ CKeep (fun k => w.heap.size ≤ k ∨ kblk P k) w7 W9) ∨ (bv = false ∧ Jx (pre ++ [((g7, key, val) : Hd)]) W9)) := hbv; clear hbv hres))
      all_goals cases bv
      all_goals rcases BV.out with ⟨q1, q2, q3⟩ | ⟨q1, q2⟩
      all_goals first | (cases q1; done) | skip
      all_goals first
        | (have HX : Hid (Jx (pre ++ [((g7, key, val) : Hd)]) W9) := q2
           clear q1 q2 BV hY hy
           gi_wp2
           refine bodyPost_ret (results_none rfl _ _ _) rfl ?_
           exact ⟨⟨_, rfl⟩, .inr ⟨pre ++ [((g7, key, val) : Hd)], by rw [NX.out]; exact AL.out.pre _, HX.out⟩⟩)
        | (have HX : Hid (J (pre ++ [((g7, key, val) : Hd)]) W9 ∧ CKeep (fun k => w.heap.size ≤ k ∨ kblk P k) w7 W9) := ⟨q2, q3⟩
           clear q1 q2 q3 BV hY hy
           gi_wp2
           go_roundw
           case rel =>
             refine ⟨k + 1, pre ++ [((g7, key, val) : Hd)], by omega, by go_num, NX.out g7, HX.out.1, ?_, fun e he => ?_⟩
             · exact RW.out.same fun cur hc => HX.out.2.same g cur _ _ (.inl G0.out) ((B7.out.block g (lt_of_heap hc)).trans hc)
             · obtain ⟨gk', e1, hgk'⟩ := (KW.out e he).kept B7.out
               obtain ⟨_, _, gk2, e2, hkb⟩ := K1.out e he
               rw [e2] at e1
               cases e1
               exact ⟨_, e2, HX.out.2.same _ _ _ _ (.inr hkb) hgk'⟩
           case measure => simp [intOf]; omega)
    · have i1 : ¬ ((k : Int) < (R.length : Int)) := by omega
      have HX : Hid (IsAll m (cnt P) (pre.map (·.2))) := (by
        rw [PRE.out, List.take_of_length_le (by rw [kvs, List.length_map]; omega)]
        exact AL.out)
      clear hY
      gi_wp2
      go_end0
      exact ⟨⟨_, rfl⟩, .inl ⟨pre, HX.out, JW.out⟩⟩
end Go.Proofs.Ytmfljfedpdipiaa
