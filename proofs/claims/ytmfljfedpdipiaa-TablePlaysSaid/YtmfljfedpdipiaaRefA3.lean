/-
  The document's Put and Drop, whatever the key.
-/
import Derived.Test.YtmfljfedpdipiaaSide
namespace Go.Proofs.Ytmfljfedpdipiaa
open Go Go.RowKit

theorem rkblk_ins {E : List Ent} {j : Nat} {kv : Value} {k : List Int} {x : Int} {n : Nat} (hk : kNew n kv) (z : Nat) (h : rkblk (E.take j ++ ⟨kv, k, x⟩ :: E.drop j) z) : rkblk E z ∨ n ≤ z := by
  obtain ⟨e, he, a, l, c, e1, rfl⟩ := h
  rcases List.mem_append.1 he with q | q
  · exact .inl ⟨e, List.mem_of_mem_take q, a, l, c, e1, rfl⟩
  · rcases List.mem_cons.1 q with rfl | q
    · exact .inr (hk a l c e1)
    · exact .inl ⟨e, List.mem_of_mem_drop q, a, l, c, e1, rfl⟩
theorem rkblk_set {E : List Ent} {j : Nat} {e0 : Ent} (he : E[j]? = some e0) (x : Int) (z : Nat) (h : rkblk (E.set j ⟨e0.kv, e0.key, x⟩) z) : rkblk E z := by
  obtain ⟨e, hm, a, l, c, e1, rfl⟩ := h
  rcases List.mem_or_eq_of_mem_set hm with q | rfl
  · exact ⟨e, q, a, l, c, e1, rfl⟩
  · exact ⟨e0, List.mem_of_getElem? he, a, l, c, e1, rfl⟩
theorem rkblk_cut {E : List Ent} {j : Nat} (z : Nat) (h : rkblk (E.take j ++ E.drop (j + 1)) z) : rkblk E z := by
  obtain ⟨e, he, a, l, c, e1, rfl⟩ := h
  rcases List.mem_append.1 he with q | q
  · exact ⟨e, List.mem_of_mem_take q, a, l, c, e1, rfl⟩
  · exact ⟨e, List.mem_of_mem_drop q, a, l, c, e1, rfl⟩

/-- What Put leaves of the document's table. -/
structure RPut (w w' : World) (rb W M : Nat) (q : Option Addr) (E : List Ent) (top : Nat) (m : List Int → Option Int) (k : List Int) (x : Int) (q' : Option Addr) (cap' : Nat) (E' : List Ent) (top' : Nat) : Prop where
  r : RT 0 w' rb W M q' cap' E' top'
  lex : Lex W E'
  same : Same (putM W M E.length m k x) E'
  len : E'.length = putC W M E.length m k
  top1 : top ≤ top'
  top2 : top' ≤ 1000000
  top3 : putE W M E.length m k = 0 → m k = none → E.length + 1 ≤ top'
  qs : qNew w.heap.size q' ∨ q' = q
  qe : E' = [] → q' = none ∧ cap' = 0
  ks : ∀ j, rkblk E' j → rkblk E j ∨ w.heap.size ≤ j
  fr : Fr (rfoot rb q) w w'
theorem rput5 {w : World} {rb W M : Nat} {q : Option Addr} {cap : Nat} {E : List Ent} {top : Nat} {m : List Int → Option Int} (h : RT 0 w rb W M q cap E top) (hqe : E = [] → q = none ∧ cap = 0) (hl : Lex W E) (hs : Same m E) (hW : W ≤ 128) (hM : M ≤ 1000000) (hE : E.length ≤ M) (ht : top ≤ 1000000) {v : Value} {k : List Int} (hz : ArgK w v k) (x : Int) :
    Calls Try.prog 29 #[.pointer (some ⟨rb, 0, none⟩), v, .int .i64 x] w fun e w' => e = .returned (.int .i64 (putE W M E.length m k)) ∧ ∃ q' cap' E' top', RPut w w' rb W M q E top m k x q' cap' E' top' := by
  obtain ⟨hz, hk2, hv⟩ := hz
  by_cases hk : k.length = W
  · cases hb : (atI k E).2 with
    | true =>
      obtain ⟨e1, he1, hek⟩ := (atI_split hk hl).2.2 hb
      have hm : m k = some e1.val := (hs _ _).2 ⟨e1, List.mem_of_getElem? he1, hek, rfl⟩
      have pe : putE W M E.length m k = 0 := putE_old hk hm
      refine (rput_old h hz hk x hb).mono ?_
      rintro e w' ⟨rfl, g, e0, rfl, he0, hR, hF⟩
      rw [he1] at he0
      cases he0
      have pm : putM W M E.length m k x = upd m e1.key (some x) := by rw [hek]; exact if_pos pe
      refine ⟨by rw [pe], _, _, _, _, ⟨hR, hl.set he1 x, by rw [pm]; exact hs.set hl he1 x, ?_, Nat.le_refl _, ht, fun _ q => (by rw [hm] at q; cases q), .inr rfl, fun q => ?_, fun j hj => .inl (rkblk_set he1 x j hj), hF.weak (fun j hj => .inr ⟨_, rfl, hj.symm⟩)⟩⟩
      · rw [List.length_set]; exact (if_neg (by rw [hm]; simp)).symm
      · have := congrArg List.length q
        rw [List.length_set] at this
        have h1 := (List.getElem?_eq_some_iff.1 he1).1
        simp at this
        rw [this] at h1
        simp at h1
    | false =>
      have hm : m k = none := (same_none hs hl hk).2 hb
      by_cases hf : E.length = M
      · have pe : putE W M E.length m k = 10 := putE_full hk hm hf
        refine (rput_full h hz hk x hb (by omega)).mono ?_
        rintro e w' ⟨rfl, hB⟩
        obtain ⟨p1, p2, _⟩ := putE_far (W := W) (M := M) (c := E.length) (n := 0) (m := m) (k := k) (by rw [pe]; decide) x
        exact ⟨by rw [pe], _, _, _, _, ⟨h.kept hB, hl, by rw [p1]; exact hs, p2.symm, Nat.le_refl _, ht, fun q => (by rw [pe] at q; cases q), .inr rfl, hqe, fun j hj => .inl hj, Fr.of_below hB⟩⟩
      · have pe : putE W M E.length m k = 0 := putE_new hk hm (by omega)
        have pm : putM W M E.length m k x = upd m k (some x) := if_pos pe
        have pc : putC W M E.length m k = E.length + 1 := if_pos ⟨pe, hm⟩
        have fin : ∀ w' q' cap' kv, RT 0 w' rb W M q' cap' (E.take (atI k E).1 ++ ⟨kv, k, x⟩ :: E.drop (atI k E).1) (max top (E.length + 1)) → qNew w.heap.size q' → kNew w.heap.size kv → Fr (fun j => j = rb) w w' → ∃ q' cap' E' top', RPut w w' rb W M q E top m k x q' cap' E' top' := fun w' q' cap' kv hR hq hkv hF => by
          refine ⟨_, _, _, _, ⟨hR, hl.ins hk hb kv x, by rw [pm]; exact hs.ins hl hk hb kv x, ?_, by omega, by omega, fun _ _ => by omega, .inl hq, fun q => by simp at q, fun j hj => rkblk_ins hkv j hj, hF.weak (fun j hj => .inl hj)⟩⟩
          rw [pc]
          have := atI_le k E
          simp
          omega
        have hcase : (E = [] ∧ q = none ∧ cap = 0) ∨ E ≠ [] := by
          by_cases q : E = []
          · exact .inl ⟨q, hqe q⟩
          · exact .inr q
        rcases hcase with ⟨rfl, rfl, rfl⟩ | hne
        · rcases hv with ⟨rfl, rfl⟩ | ⟨ad, capk, rfl⟩
          · obtain rfl : 0 = W := hk
            refine (rput_first0 h (Nat.zero_le _) (by simp at hf; omega) x).mono ?_
            rintro e w' ⟨rfl, q', cap', kv, hR, hq, hkv, hF⟩
            exact ⟨by rw [pe], fin w' q' cap' kv hR hq hkv hF⟩
          · refine (rput_first h (Nat.zero_le _) hz hk hW (by simp at hf; omega) x).mono ?_
            rintro e w' ⟨rfl, q', cap', kv, hR, hq, hkv, hF⟩
            exact ⟨by rw [pe], fin w' q' cap' kv hR hq hkv hF⟩
        · obtain ⟨e1, E1, rfl⟩ := List.exists_cons_of_ne_nil hne
          obtain ⟨g, rfl, _⟩ := h.row 0 e1 rfl
          rcases hv with ⟨rfl, rfl⟩ | ⟨ad, capk, rfl⟩
          · exfalso
            have h1 : e1.key = [] := List.length_eq_zero_iff.1 ((hl.1 e1 (by simp)).trans hk.symm)
            have := (atI_there hk hl).2 ⟨e1, by simp, h1⟩
            rw [hb] at this
            cases this
          · refine (rput_ins h (Nat.zero_le _) hz hk hW x hb (by omega) hM).mono ?_
            rintro e w' ⟨rfl, q', cap', kv, hR, hq, hkv, hF⟩
            exact ⟨by rw [pe], fin w' q' cap' kv hR hq hkv hF⟩
  · have pe : putE W M E.length m k = 11 := putE_wide hk
    refine (rput_wide h hz hk x).mono ?_
    rintro e w' ⟨rfl, rfl⟩
    obtain ⟨p1, p2, _⟩ := putE_far (W := W) (M := M) (c := E.length) (n := 0) (m := m) (k := k) (by rw [pe]; decide) x
    exact ⟨by rw [pe], _, _, _, _, ⟨h, hl, by rw [p1]; exact hs, p2.symm, Nat.le_refl _, ht, fun q => (by rw [pe] at q; cases q), .inr rfl, hqe, fun j hj => .inl hj, Fr.refl _ _⟩⟩

/-- What Drop leaves of it. -/
structure RDrop (w w' : World) (rb W M : Nat) (q : Option Addr) (E : List Ent) (top : Nat) (m : List Int → Option Int) (k : List Int) (q' : Option Addr) (cap' : Nat) (E' : List Ent) : Prop where
  r : RT 0 w' rb W M q' cap' E' top
  lex : Lex W E'
  same : Same (upd m k none) E'
  len : E'.length = dropC E.length (m k)
  qs : qNew w.heap.size q' ∨ q' = q
  qe : E' = [] → q' = none ∧ cap' = 0
  ks : ∀ j, rkblk E' j → rkblk E j
  fr : Fr (rfoot rb q) w w'
theorem rdrop5 {w : World} {rb W M : Nat} {q : Option Addr} {cap : Nat} {E : List Ent} {top : Nat} {m : List Int → Option Int} (h : RT 0 w rb W M q cap E top) (hqe : E = [] → q = none ∧ cap = 0) (hl : Lex W E) (hs : Same m E) {v : Value} {k : List Int} (hz : ArgI w v k) :
    Calls Try.prog 31 #[.pointer (some ⟨rb, 0, none⟩), v] w fun e w' => e = .returned (.bool (m k).isSome) ∧ ∃ q' cap' E', RDrop w w' rb W M q E top m k q' cap' E' := by
  have gone : (k.length = W → (atI k E).2 = false) → m k = none → Calls Try.prog 31 #[.pointer (some ⟨rb, 0, none⟩), v] w fun e w' => e = .returned (.bool (m k).isSome) ∧ ∃ q' cap' E', RDrop w w' rb W M q E top m k q' cap' E' := fun hn hm => by
    refine (rdrop_not h hz hn).mono ?_
    rintro e w' ⟨rfl, hB⟩
    exact ⟨by rw [hm]; rfl, _, _, _, ⟨h.kept hB, hl, hs.gone hm, by rw [hm]; rfl, .inr rfl, hqe, fun j hj => hj, Fr.of_below hB⟩⟩
  by_cases hk : k.length = W
  · cases hb : (atI k E).2 with
    | true =>
      obtain ⟨e1, he1, rfl⟩ := (atI_split hk hl).2.2 hb
      have hm : m e1.key = some e1.val := (hs _ _).2 ⟨e1, List.mem_of_getElem? he1, rfl, rfl⟩
      have hj := (List.getElem?_eq_some_iff.1 he1).1
      have hlen : (E.take (atI e1.key E).1 ++ E.drop ((atI e1.key E).1 + 1)).length = E.length - 1 := by simp; omega
      refine (rdrop_there h (Nat.zero_le _) hz hk hb).mono ?_
      rintro e w' ⟨rfl, q', cap', hR, hq, hq1, hF⟩
      refine ⟨by rw [hm]; rfl, _, _, _, ⟨hR, hl.cut, hs.cut hl he1, by rw [hm]; exact hlen, .inl hq, fun z => ?_, rkblk_cut, hF.weak (fun j hj => .inl hj)⟩⟩
      have := congrArg List.length z
      rw [hlen] at this
      simp at this
      exact hq1 (by omega)
    | false => exact gone (fun _ => hb) ((same_none hs hl hk).2 hb)
  · exact gone (fun q => absurd q hk) (same_wide hs hl hk)
end Go.Proofs.Ytmfljfedpdipiaa
