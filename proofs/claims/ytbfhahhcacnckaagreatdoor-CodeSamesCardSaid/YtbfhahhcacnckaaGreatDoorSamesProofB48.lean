/-
  Parts of the proof.
-/
import Derived.Test.YtbfhahhcacnckaaGreatDoorSamesProofB34
set_option linter.unusedSimpArgs false
namespace Go.Proofs.YtbfhahhcacnckaaGreatDoor
open Go Go.RowKit
attribute [local go_sem] Oper.semAt_some
theorem LI.newsL {w : World} {ad : Addr} {L : List Ins} (h : LI w (some ad) L) (hn : L ≠ []) : ∃ g o, ad = ⟨g, o, none⟩ ∧ g < w.heap.size ∧ ∀ j u, (ceI14 L)[j]? = some u → w.cell? ⟨g, o + j, none⟩ = some u := by
  obtain ⟨x, r, rfl⟩ := List.exists_cons_of_ne_nil hn
  obtain ⟨g, o, h1, h2, _⟩ := h 0 x rfl
  obtain rfl := Option.some.inj h1
  refine ⟨g, o, rfl, h2, fun j u hj => ?_⟩
  have hjl : j < (x :: r).length * 10 := by have := (List.getElem?_eq_some_iff.1 hj).1; rwa [ceI14_len] at this
  have hq : j / 10 < (x :: r).length := by omega
  obtain ⟨i, hi⟩ : ∃ i, (x :: r)[j / 10]? = some i := ⟨_, List.getElem?_eq_getElem hq⟩
  obtain ⟨g', o', e, _, h3⟩ := h (j / 10) i hi
  obtain ⟨rfl, rfl⟩ : g = g' ∧ o = o' := by have := Option.some.inj e; cases this; exact ⟨rfl, rfl⟩
  have hm : j % 10 < (inC i).length := by rw [inC_len]; omega
  have h4 := ceI14_at hi (j % 10) _ (List.getElem?_eq_getElem hm)
  rw [show j / 10 * 10 + j % 10 = j by omega, hj] at h4
  have h5 := h3 (j % 10) _ (List.getElem?_eq_getElem hm)
  rw [show o + j / 10 * 10 + j % 10 = o + j by omega, ← Option.some.inj h4] at h5
  exact h5
theorem LI.news {w : World} {ad : Addr} {L : List Ins} (h : LI w (some ad) L) : ∀ j u, (ceI14 L)[j]? = some u → w.cell? (ad.add j) = some u := fun j u hj => by
  by_cases hn : L = []
  · rw [hn] at hj; cases hj
  · obtain ⟨g, o, rfl, _, h3⟩ := h.newsL hn
    have e2 : (⟨g, o, none⟩ : Addr).add j = ⟨g, o + j, none⟩ := by
      unfold Addr.add
      split
      · next hz => simp_all
      · simp
    rw [e2]
    exact h3 j u hj
theorem ownsRow_some14 {w : World} {base : Nat} {e : TypeId} {size n : Nat} {v : Value} {xs : List Value} (h : w.ownsRow base e size v n xs) (hn : 0 < n) : ∃ g c, v = .slice (some ⟨g, 0, none⟩) n c ∧ n ≤ c := by
  rcases h.2 with ⟨_, hz⟩ | ⟨g, cap, cur, hv, _, _, h3, _⟩
  · omega
  · exact ⟨g, cap, hv, h3⟩
theorem ceI14_one (L : List Ins) : ∀ v ∈ ceI14 L, v.oneCell' = true := fun v hv => by
  obtain ⟨i, _, hi⟩ := List.mem_flatMap.1 hv
  exact inC_one i v hi
def mkI : Ins := ⟨-7, 0, 0, 0, 0, 0, 0#256⟩
theorem mkI_two : ceI14 [mkI, mkI] = [.int .i64 (-7), .int .i64 0, .int .i64 0, .int .i64 0, .int .i64 0, .int .i64 0, .int .u64 0, .int .u64 0, .int .u64 0, .int .u64 0, .int .i64 (-7), .int .i64 0, .int .i64 0, .int .i64 0, .int .i64 0, .int .i64 0, .int .u64 0, .int .u64 0, .int .u64 0, .int .u64 0] := by simp [ceI14, inC, mkI, z1_wd_nil]
theorem li_pre {w : World} {base c n : Nat} {q : Option Addr} {L : List Ins} (h : w.ownsRow base 35 10 (.slice q n c) n (ceI14 L ++ [.int .i64 (-7), .int .i64 0, .int .i64 0, .int .i64 0, .int .i64 0, .int .i64 0, .int .u64 0, .int .u64 0, .int .u64 0, .int .u64 0, .int .i64 (-7), .int .i64 0, .int .i64 0, .int .i64 0, .int .i64 0, .int .i64 0, .int .u64 0, .int .u64 0, .int .u64 0, .int .u64 0])) : LI w q L := fun j i hi => by
  rw [← mkI_two, ← ceI14_app] at h
  exact LI.of_row h j i (by rw [List.getElem?_append_left (List.getElem?_eq_some_iff.1 hi).1]; exact hi)
def LeP (w : World) (p : Pg) (e : Ending) (w' : World) : Prop := ∃ g c, e = .returned (.agg #[.slice (some ⟨g, 0, none⟩) p.L.length c, .int .i64 p.g, .int .i64 p.k, .bool p.f]) ∧ PgI w' ⟨some ⟨g, 0, none⟩, p.L, c, p.g, p.k, p.f⟩ ∧ Below w.heap.size w w'
abbrev wA (w : World) (p : Pg) : World := (w.alloc (.cells #[.slice p.q p.L.length p.c, .int .i64 p.g, .int .i64 p.k, .bool p.f] 24)).alloc (.cells #[.slice none 0 0, .int .i64 0, .int .i64 0, .bool false] 24)
set_option maxRecDepth 100000 in
set_option maxHeartbeats 8000000 in
theorem lent_c {w : World} {p : Pg} (hp : PgI w p) (hb : p.L.length * 80 + 160 ≤ 140737488355328) (hqc : p.q = none → p.c = 0) : Calls Tryz.prog 10 #[.agg #[.slice p.q p.L.length p.c, .int .i64 p.g, .int .i64 p.k, .bool p.f]] w (LeP w p) := by
  have B1 : Hid (Below w.heap.size w (wA w p)) := ((Below.refl _ _).alloc (Nat.le_refl _) _).alloc (by simp) _
  have X1 : Hid ((wA w p).heap[w.heap.size]? = some (.cells #[.slice p.q p.L.length p.c, .int .i64 p.g, .int .i64 p.k, .bool p.f] 24 (0, 0))) := (Below.heap_alloc _ _ _ (by simp)).trans (alloc_new w _)
  have Y1 : Hid ((wA w p).heap[w.heap.size + 1]? = some (.cells #[.slice none 0 0, .int .i64 0, .int .i64 0, .bool false] 24 (0, 0))) := hide (by have := alloc_new (w.alloc (.cells #[.slice p.q p.L.length p.c, .int .i64 p.g, .int .i64 p.k, .bool p.f] 24)) (.cells #[.slice none 0 0, .int .i64 0, .int .i64 0, .bool false] 24); rw [World.size_alloc] at this; exact this)
  have HP := hide (hp.kept B1.out)
  obtain ⟨t0, ti, tz0, tz1, tz2⟩ := info_parts size_inst
  clear hp
  go_enter Tryz.func10, Tryz.ntmps10
  go_upto_region 1 with fail
  have e0 : (w.alloc (.cells #[.slice p.q p.L.length p.c, .int .i64 p.g, .int .i64 p.k, .bool p.f] 24)).alloc (.cells #[.slice none 0 0, .int .i64 0, .int .i64 0, .bool false] 24) = wA w p := rfl
  generalize (w.alloc (.cells #[.slice p.q p.L.length p.c, .int .i64 p.g, .int .i64 p.k, .bool p.f] 24)).alloc (.cells #[.slice none 0 0, .int .i64 0, .int .i64 0, .bool false] 24) = w1 at e0 ⊢
  rw [← e0] at B1 X1 Y1 HP
  clear e0
  have l1 := lt_of_heap X1.out
  have p0 : w1.cell? ⟨w.heap.size, 0, none⟩ = some (.slice p.q p.L.length p.c) := cell_row X1.out (i := 0) rfl
  go_cut [3] (fun u wx => w1.heap.size ≤ wx.heap.size ∧ wx.ownsRow w1.heap.size 35 10 u p.L.length (ceI14 p.L) ∧ Below w1.heap.size w1 wx)
  case first =>
    obtain hq | ⟨ad, hq⟩ : p.q = none ∨ ∃ ad, p.q = some ad := by cases p.q <;> simp
    · have hc := hqc hq
      have hL : p.L = [] := by
        cases hl : p.L with
        | nil => rfl
        | cons x r =>
          obtain ⟨g, o, e, _⟩ := HP.out.li 0 x (by rw [hl]; rfl)
          rw [hq] at e
          cases e
      rw [hq, hL, hc] at p0
      have OV : Hid (w1.ownsRow w1.heap.size 35 10 (.slice none 0 0) 0 []) := World.ownsRow_nil _ _ _ _
      have HL := hide hL
      clear hq hc hL hqc
      go_wp2_with (at_builtin; refine wpList_append_own_none rfl _ _ 22 rfl w1.heap.size 35 t0 10 und_insts ti (.slice none 0 0) 0 [] rfl OV.out rfl ?_)
      go_meet
      exact ⟨Nat.le_refl _, by rw [HL.out]; exact OV.out, Below.refl _ _⟩
    · rw [hq] at p0
      have NW : Hid (∀ j u, (ceI14 p.L)[j]? = some u → w1.cell? (ad.add j) = some u) := hide (LI.news (hq ▸ HP.out.li))
      clear hq hqc
      go_wp2_with (at_builtin; refine wpList_append_own_at _ rfl _ _ 22 rfl w1.heap.size 35 t0 (.agg #[.int .i64 0, .int .i64 0, .int .i64 0, .int .i64 0, .int .i64 0, .int .i64 0, .int .u64 0, .int .u64 0, .int .u64 0, .int .u64 0]) 10 80 und_insts ti tz0 tz1 tz2 rfl (by decide) (.slice none 0 0) 0 [] rfl (World.ownsRow_nil _ _ _ _) ad p.L.length p.c (ceI14 p.L) rfl (ceI14_len _) NW.out (ceI14_one _) (by unfold maxLen; omega) (by omega) (Nat.le_refl _) ?_; intro v6 W6 hown hgrow _ hblk)
      have HG := hide hgrow
      have HO := hide hown
      clear hown hgrow hblk
      go_wp2
      go_meet
      refine ⟨HG.out.size, ?_, (Below.refl _ _).grown HG.out (Nat.le_refl _) (fun k hk => by cases hk)⟩
      have := HO.out
      rw [Nat.zero_add, List.nil_append] at this
      exact this
  case rest =>
    obtain ⟨h1, h2, h3⟩ := hcut
    obtain ⟨q1, c1, rfl⟩ := ownsRow_shape h2
    have BA : Below wc.heap.size wc (wc.alloc (.cells #[.int .i64 (-7), .int .i64 0, .int .i64 0, .int .i64 0, .int .i64 0, .int .i64 0, .int .u64 0, .int .u64 0, .int .u64 0, .int .u64 0] 35)) := (Below.refl _ _).alloc (Nat.le_refl _) _
    have B3 : Hid (Below w.heap.size w (wc.alloc (.cells #[.int .i64 (-7), .int .i64 0, .int .i64 0, .int .i64 0, .int .i64 0, .int .i64 0, .int .u64 0, .int .u64 0, .int .u64 0, .int .u64 0] 35))) := hide (chain (chain B1.out h3 (Nat.le_refl _)) BA (Nat.le_refl _))
    have R3 : Hid ((wc.alloc (.cells #[.int .i64 (-7), .int .i64 0, .int .i64 0, .int .i64 0, .int .i64 0, .int .i64 0, .int .u64 0, .int .u64 0, .int .u64 0, .int .u64 0] 35)).ownsRow w1.heap.size 35 10 (.slice q1 p.L.length c1) p.L.length (ceI14 p.L)) := World.ownsRow.alloc h2 _
    have M3 : Hid ((wc.alloc (.cells #[.int .i64 (-7), .int .i64 0, .int .i64 0, .int .i64 0, .int .i64 0, .int .i64 0, .int .u64 0, .int .u64 0, .int .u64 0, .int .u64 0] 35)).heap[wc.heap.size]? = some (.cells #[.int .i64 (-7), .int .i64 0, .int .i64 0, .int .i64 0, .int .i64 0, .int .i64 0, .int .u64 0, .int .u64 0, .int .u64 0, .int .u64 0] 35 (0, 0))) := alloc_new wc _
    have X3 := hide ((BA.block _ (Nat.lt_of_lt_of_le l1 h1)).trans ((h3.block _ l1).trans X1.out))
    have Y3 := hide ((BA.block _ (Nat.lt_of_lt_of_le (lt_of_heap Y1.out) h1)).trans ((h3.block _ (lt_of_heap Y1.out)).trans Y1.out))
    have szc : (wc.alloc (.cells #[.int .i64 (-7), .int .i64 0, .int .i64 0, .int .i64 0, .int .i64 0, .int .i64 0, .int .u64 0, .int .u64 0, .int .u64 0, .int .u64 0] 35)).heap.size = wc.heap.size + 1 := by simp
    have H1 := hide h1
    clear h1 h2 h3 BA p0
    go_upto_region 3 with fail
    generalize (wc.alloc (.cells #[.int .i64 (-7), .int .i64 0, .int .i64 0, .int .i64 0, .int .i64 0, .int .i64 0, .int .u64 0, .int .u64 0, .int .u64 0, .int .u64 0] 35)) = W3 at B3 R3 M3 X3 Y3 szc ⊢
    have p0 : W3.cell? ⟨w.heap.size, 0, none⟩ = some (.slice p.q p.L.length p.c) := cell_row X3.out (i := 0) rfl
    have pf0 := frz_row X3.out 0
    have lx := lt_of_heap X3.out
    have lm := lt_of_heap M3.out
    have m0 := cell_row M3.out (i := 0) rfl
    have m1 := cell_row M3.out (i := 1) rfl
    have m2 := cell_row M3.out (i := 2) rfl
    have m3 := cell_row M3.out (i := 3) rfl
    have m4 := cell_row M3.out (i := 4) rfl
    have m5 := cell_row M3.out (i := 5) rfl
    have m6 := cell_row M3.out (i := 6) rfl
    have m7 := cell_row M3.out (i := 7) rfl
    have m8 := cell_row M3.out (i := 8) rfl
    have m9 := cell_row M3.out (i := 9) rfl
    have SZ := hide (show w1.heap.size ≤ W3.heap.size by have := H1.out; omega)
    clear szc
    have n0 : (0 : Int) ≤ (p.L.length : Int) := by omega
    go_region_law (refine step_append_at rfl _ _ 22 rfl w1.heap.size 35 t0 (.agg #[.int .i64 0, .int .i64 0, .int .i64 0, .int .i64 0, .int .i64 0, .int .i64 0, .int .u64 0, .int .u64 0, .int .u64 0, .int .u64 0]) 10 80 und_insts ti tz0 tz1 tz2 rfl (by decide) (.slice q1 p.L.length c1) p.L.length (ceI14 p.L) (by first | (simp [Act.eval]; done) | simp [Act.eval, Act.put]) (World.ownsRow.drew (World.ownsRow.alloc R3.out _)) ⟨W3.heap.size, 0, none⟩ 2 2 [.int .i64 (-7), .int .i64 0, .int .i64 0, .int .i64 0, .int .i64 0, .int .i64 0, .int .u64 0, .int .u64 0, .int .u64 0, .int .u64 0, .int .i64 (-7), .int .i64 0, .int .i64 0, .int .i64 0, .int .i64 0, .int .i64 0, .int .u64 0, .int .u64 0, .int .u64 0, .int .u64 0] (by first | (simp [Act.eval]; done) | simp [Act.eval, Act.put]) rfl (newsI W3 [.int .i64 (-7), .int .i64 0, .int .i64 0, .int .i64 0, .int .i64 0, .int .i64 0, .int .u64 0, .int .u64 0, .int .u64 0, .int .u64 0, .int .i64 (-7), .int .i64 0, .int .i64 0, .int .i64 0, .int .i64 0, .int .i64 0, .int .u64 0, .int .u64 0, .int .u64 0, .int .u64 0] _) (by simp [Value.oneCell']) (by unfold maxLen; omega) (by omega) (by have := SZ.out; simp; omega) ?_; intro v8 W8 hown hgrow hblk; have G8 := hide hgrow; have O8 := hide hown; have X8 := hide ((hgrow.block _ (by first | (simp; omega) | simp) (fun e => ownsRow_not R3.out X3.out (by decide) e.symm)).trans ((Below.heap_alloc _ _ _ lx).trans X3.out)); have z0 : W8.cell? ⟨w.heap.size, 0, none⟩ = some (.slice p.q p.L.length p.c) := cell_row X8.out (i := 0) rfl; have zf := frz_row X8.out 0; obtain ⟨g8, c8, rfl, hc8⟩ := ownsRow_some14 hown (by omega); have hc9 : (p.L.length : Int) ≤ (c8 : Int) := (by omega); clear hown hgrow hblk)
    all_goals
      have FT : Hid (Fr (fun z => (Value.slice q1 p.L.length c1).ownBlock = some z ∨ z = w.heap.size) W3 (W8.setCell ⟨w.heap.size, 0, none⟩ (.slice (some ⟨g8, 0, none⟩) p.L.length c8))) := hide (Fr.setCell (S := fun z => (Value.slice q1 p.L.length c1).ownBlock = some z ∨ z = w.heap.size) ((((Fr.refl _ W3).alloc _).drew).grown G8.out (fun z hz => .inl hz)) (p := ⟨w.heap.size, 0, none⟩) (.inr rfl) _)
      have X9 : Hid ((W8.setCell ⟨w.heap.size, 0, none⟩ (.slice (some ⟨g8, 0, none⟩) p.L.length c8)).heap[w.heap.size]? = some (.cells #[.slice (some ⟨g8, 0, none⟩) p.L.length c8, .int .i64 p.g, .int .i64 p.k, .bool p.f] 24 (0, 0))) := heap_set_in X8.out 0 _
      have Y9 := hide ((FT.out.block _ (lt_of_heap Y3.out) (fun q => q.elim (fun e => ownsRow_not R3.out Y3.out (by decide) e) (fun e => by omega))).trans Y3.out)
      have O9 := hide (ownsRow_fr O8.out ((Fr.refl (At1 w.heap.size) W8).setCell (p := ⟨w.heap.size, 0, none⟩) rfl (.slice (some ⟨g8, 0, none⟩) p.L.length c8)) (fun z hz e => ownsRow_not O8.out X8.out (by decide) (by rw [hz, show z = _ from e])))
      have B9 : Hid (Below w.heap.size w (W8.setCell ⟨w.heap.size, 0, none⟩ (.slice (some ⟨g8, 0, none⟩) p.L.length c8))) := hide (B3.out.trans (FT.out.below B3.out.size (fun k hk => hk.elim (fun e => Nat.le_trans B1.out.size (ownsRow_at R3.out e).1) (fun e => by omega))))
      clear m0 m1 m2 m3 m4 m5 m6 m7 m8 m9 p0 pf0 z0 zf
      generalize (W8.setCell ⟨w.heap.size, 0, none⟩ (.slice (some ⟨g8, 0, none⟩) p.L.length c8)) = W9 at FT X9 Y9 O9 B9 ⊢
      have x0 := cell_row X9.out (i := 0) rfl
      have x1 := cell_row X9.out (i := 1) rfl
      have x2 := cell_row X9.out (i := 2) rfl
      have x3 := cell_row X9.out (i := 3) rfl
      have y0 := cell_row Y9.out (i := 0) rfl
      have y1 := cell_row Y9.out (i := 1) rfl
      have y2 := cell_row Y9.out (i := 2) rfl
      have y3 := cell_row Y9.out (i := 3) rfl
      have f0 := frz_row Y9.out 0
      have f1 := frz_row Y9.out 1
      have f2 := frz_row Y9.out 2
      have f3 := frz_row Y9.out 3
      go_wp2
      refine bodyPost_ret (v := .agg #[.slice (some ⟨g8, 0, none⟩) p.L.length c8, .int .i64 p.g, .int .i64 p.k, .bool p.f]) (by simp [results, Tryz.results10, go_sem, y0, y1, y2, y3]) rfl ⟨g8, c8, rfl, ⟨HP.out.len, ?_⟩, ?_⟩
      · exact li_pre (ownsRow_fr O9.out (set4_fr _ _ _ _ _ _) (fun z hz e => ownsRow_not O9.out Y9.out (by decide) (by rw [hz, show z = _ from e])))
      · exact B9.out.trans ((set4_fr _ _ _ _ _ _).below B9.out.size (fun k hk => by have : k = w.heap.size + 1 := hk; omega))
end Go.Proofs.YtbfhahhcacnckaaGreatDoor
