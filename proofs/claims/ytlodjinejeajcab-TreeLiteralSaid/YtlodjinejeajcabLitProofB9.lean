/-
  The document's answer: Same. TreeLiteral: Literal of any text, in any mode. A tree, as it comes in.
-/
import Derived.Test.YtlodjinejeajcabLitProofB8
import Derived.Test.YtlodjinejeajcabC1
import Derived.Test.YtlodjinejeajcabLitProofB3
import Derived.Test.YtlodjinejeajcabLitProofB7
import Derived.Test.YtlodjinejeajcabC17
import Derived.Test.YtlodjinejeajcabC0
import Derived.Deep.Slices
import Derived.Deep.SlicePairs
import Derived.ChangeSame
import Derived.SizedLaws
namespace Go.Proofs.Ytlodjinejeajcab
open Go Go.RowKit

abbrev Sg := Int × Int × Int × Int × List (Int × Int) × Nat
def sig (t : Tr) : Sg := (t.f.k, t.f.n, t.f.mn, t.f.mx, t.f.rs, t.ks.length)
def sgs (l : List El) : List Sg := l.map fun x => sig x.2
theorem sgs_append (a b : List El) : sgs (a ++ b) = sgs a ++ sgs b := by simp [sgs]
theorem sig_of {a b : Tr} (h : er a = er b) : sig a = sig b := by
  obtain ⟨h1, h2, h3, h4, h5, h6⟩ := (er_iff a b).1 h
  have := congrArg List.length h6
  rw [List.length_map, List.length_map] at this
  unfold sig
  rw [h1, h2, h3, h4, h5, this]
/-- The nodes' words in the tree's order are the tree. -/
theorem sgs_inj (a : Tr) : ∀ (b : Tr) (p q : Way) (X Y : List Sg), sgs (pp p a) ++ X = sgs (pp q b) ++ Y → er a = er b ∧ X = Y := by
  refine Tr.ind (P := fun a => ∀ (b : Tr) (p q : Way) (X Y : List Sg), sgs (pp p a) ++ X = sgs (pp q b) ++ Y → er a = er b ∧ X = Y) (fun a ih b p q X Y h => ?_) a
  have key : ∀ (ks js : List Tr) (i i' : Nat) (X Y : List Sg), (∀ u ∈ ks, u ∈ a.ks) → ks.length = js.length → sgs (pps a p i ks) ++ X = sgs (pps b q i' js) ++ Y → ks.map er = js.map er ∧ X = Y := by
    intro ks
    induction ks with
    | nil =>
      intro js i i' X Y _ hl h
      cases js with
      | nil => rw [pps_nil, pps_nil] at h; exact ⟨rfl, h⟩
      | cons v js => cases hl
    | cons u ks ihk =>
      intro js i i' X Y hm hl h
      cases js with
      | nil => cases hl
      | cons v js =>
        rw [pps_cons, pps_cons, sgs_append, sgs_append, List.append_assoc, List.append_assoc] at h
        obtain ⟨h1, h2⟩ := ih u (hm u List.mem_cons_self) v _ _ _ _ h
        obtain ⟨h3, h4⟩ := ihk js _ _ X Y (fun z hz => hm z (List.mem_cons_of_mem _ hz)) (by simpa using hl) h2
        rw [List.map_cons, List.map_cons, h1, h3]
        exact ⟨rfl, h4⟩
  rw [pp_eq, pp_eq] at h
  simp only [sgs, List.map_cons, List.cons_append] at h
  injection h with h1 h2
  obtain ⟨h5, h6⟩ := key a.ks b.ks 0 0 X Y (fun _ z => z) (congrArg (fun s : Sg => s.2.2.2.2.2) h1) h2
  refine ⟨(er_iff a b).2 ⟨congrArg (fun s : Sg => s.1) h1, congrArg (fun s : Sg => s.2.1) h1, congrArg (fun s : Sg => s.2.2.1) h1, congrArg (fun s : Sg => s.2.2.2.1) h1, congrArg (fun s : Sg => s.2.2.2.2.1) h1, h5⟩, h6⟩
theorem sgs_of (a : Tr) : ∀ (b : Tr) (p q : Way), er a = er b → sgs (pp p a) = sgs (pp q b) := by
  refine Tr.ind (P := fun a => ∀ (b : Tr) (p q : Way), er a = er b → sgs (pp p a) = sgs (pp q b)) (fun a ih b p q h => ?_) a
  have hs := sig_of h
  obtain ⟨-, -, -, -, -, h6⟩ := (er_iff a b).1 h
  have key : ∀ (ks js : List Tr) (i i' : Nat), (∀ u ∈ ks, u ∈ a.ks) → ks.map er = js.map er → sgs (pps a p i ks) = sgs (pps b q i' js) := by
    intro ks
    induction ks with
    | nil =>
      intro js i i' _ hl
      cases js with
      | nil => rw [pps_nil, pps_nil]
      | cons v js => cases hl
    | cons u ks ihk =>
      intro js i i' hm hl
      cases js with
      | nil => cases hl
      | cons v js =>
        rw [List.map_cons, List.map_cons] at hl
        injection hl with h1 h2
        rw [pps_cons, pps_cons, sgs_append, sgs_append, ih u (hm u List.mem_cons_self) v _ _ h1, ihk js _ _ (fun z hz => hm z (List.mem_cons_of_mem _ hz)) h2]
  rw [pp_eq, pp_eq]
  have := key a.ks b.ks 0 0 (fun _ z => z) h6
  simp only [sgs, List.map_cons] at this ⊢
  rw [hs, this]
theorem same_sgs (a b : Tr) : sameB (er a) (er b) = true ↔ sgs (pp [] a) = sgs (pp [] b) := by
  rw [sameB_iff]
  refine ⟨sgs_of a b [] [], fun h => (sgs_inj a b [] [] [] [] (by rw [h])).1⟩
theorem sgs_len (a b : Tr) (h : sgs (pp [] a) = sgs (pp [] b)) : (pp [] a).length = (pp [] b).length := by
  have := congrArg List.length h
  simpa [sgs] using this
/-- What the document's Same answers. -/
noncomputable def rsB (a b : Tr) : Bool := !decide (2000 < (pp [] a).length) && !decide (2000 < (pp [] b).length) && sameB (er a) (er b)
theorem rsB_no {a b : Tr} (h : cntT a ≠ cntT b ∨ 2000 < cntT a) : rsB a b = false := by
  unfold rsB cntT at *
  cases hs : sameB (er a) (er b) with
  | false => rw [Bool.and_false]
  | true =>
    have hl := sgs_len a b ((same_sgs a b).1 hs)
    rw [decide_eq_true (show 2000 < (pp [] a).length by omega)]
    rfl
theorem rsB_eq {a b : Tr} (h1 : cntT a = cntT b) (h2 : ¬ 2000 < cntT a) : rsB a b = sameB (er a) (er b) ∧ (pp [] a).length ≤ 2000 ∧ (pp [] b).length ≤ 2000 := by
  unfold rsB cntT at *
  have l1 : (pp [] a).length ≤ 2000 := by omega
  have l2 : (pp [] b).length ≤ 2000 := by omega
  rw [decide_eq_false (by omega), decide_eq_false (by omega)]
  exact ⟨rfl, l1, l2⟩
theorem at_kl {w : World} {t : Tr} (h : TA w t) {x : El} (hx : x ∈ pp [] t) : x.2.f.kl = x.2.ks.length := (h.at hx).node.kl
set_option maxRecDepth 100000 in
set_option maxHeartbeats 8000000 in
theorem rsame8 {w : World} {a b : Tr} (ha : TA w a) (hb : TA w b) : Calls Try.prog 12 #[.agg #[.int .i64 a.f.k, .int .i64 a.f.n, .int .i64 a.f.mn, .int .i64 a.f.mx, .slice a.f.rq a.f.rs.length a.f.rc, .slice a.f.kq a.f.kl a.f.kc], .agg #[.int .i64 b.f.k, .int .i64 b.f.n, .int .i64 b.f.mn, .int .i64 b.f.mx, .slice b.f.rq b.f.rs.length b.f.rc, .slice b.f.kq b.f.kl b.f.kc]] w fun e w' => e = .returned (.bool (rsB a b)) ∧ Below w.heap.size w w' := by
  have B1 : Hid (Below w.heap.size w ((w.alloc (.cells #[.int .i64 a.f.k, .int .i64 a.f.n, .int .i64 a.f.mn, .int .i64 a.f.mx, .slice a.f.rq a.f.rs.length a.f.rc, .slice a.f.kq a.f.kl a.f.kc] 25)).alloc (.cells #[.int .i64 b.f.k, .int .i64 b.f.n, .int .i64 b.f.mn, .int .i64 b.f.mx, .slice b.f.rq b.f.rs.length b.f.rc, .slice b.f.kq b.f.kl b.f.kc] 25))) := ((Below.refl _ _).alloc (Nat.le_refl _) _).alloc (by simp) _
  have NA1 : Hid (BoxN ((w.alloc (.cells #[.int .i64 a.f.k, .int .i64 a.f.n, .int .i64 a.f.mn, .int .i64 a.f.mx, .slice a.f.rq a.f.rs.length a.f.rc, .slice a.f.kq a.f.kl a.f.kc] 25)).alloc (.cells #[.int .i64 b.f.k, .int .i64 b.f.n, .int .i64 b.f.mn, .int .i64 b.f.mx, .slice b.f.rq b.f.rs.length b.f.rc, .slice b.f.kq b.f.kl b.f.kc] 25)) w.heap.size a.f) := (Below.heap_alloc _ _ _ (by simp)).trans (alloc_new w _)
  have NB1 : Hid (BoxN ((w.alloc (.cells #[.int .i64 a.f.k, .int .i64 a.f.n, .int .i64 a.f.mn, .int .i64 a.f.mx, .slice a.f.rq a.f.rs.length a.f.rc, .slice a.f.kq a.f.kl a.f.kc] 25)).alloc (.cells #[.int .i64 b.f.k, .int .i64 b.f.n, .int .i64 b.f.mn, .int .i64 b.f.mx, .slice b.f.rq b.f.rs.length b.f.rc, .slice b.f.kq b.f.kl b.f.kc] 25)) (w.heap.size + 1) b.f) := (by
    have := alloc_new (w.alloc (.cells #[.int .i64 a.f.k, .int .i64 a.f.n, .int .i64 a.f.mn, .int .i64 a.f.mx, .slice a.f.rq a.f.rs.length a.f.rc, .slice a.f.kq a.f.kl a.f.kc] 25)) (.cells #[.int .i64 b.f.k, .int .i64 b.f.n, .int .i64 b.f.mn, .int .i64 b.f.mx, .slice b.f.rq b.f.rs.length b.f.rc, .slice b.f.kq b.f.kl b.f.kc] 25)
    rwa [World.size_alloc] at this)
  have HA := hide ha
  have HB := hide hb
  obtain ⟨R, hR⟩ : ∃ R, rsB a b = R := ⟨_, rfl⟩
  rw [hR]
  have HR := hide hR
  clear ha hb hR
  go_enter Try.func12, Try.ntmps12
  go_upto_region 1 with fail
  generalize ((w.alloc (.cells #[.int .i64 a.f.k, .int .i64 a.f.n, .int .i64 a.f.mn, .int .i64 a.f.mx, .slice a.f.rq a.f.rs.length a.f.rc, .slice a.f.kq a.f.kl a.f.kc] 25)).alloc (.cells #[.int .i64 b.f.k, .int .i64 b.f.n, .int .i64 b.f.mn, .int .i64 b.f.mx, .slice b.f.rq b.f.rs.length b.f.rc, .slice b.f.kq b.f.kl b.f.kc] 25)) = W1 at B1 NA1 NB1 ⊢
  generalize w.heap.size + 1 = bb at NB1 ⊢
  obtain ⟨c0, c1, c2, c3, c4, c5⟩ := NA1.out.six
  simp only [Nat.zero_add] at c1 c2 c3 c4 c5
  have LA := hide (laid_c (w := W1) 2001 (by omega) (HA.out.kept B1.out))
  have hza := laidL_len8 a
  have HMA := hide (laidL_map 2001 a)
  generalize laidL 2001 a = ZA at LA hza HMA
  have HZA := hide hza
  clear hza
  go_upto_region 2 with (go_at_call 7; refine (LA.out).mono ?_; rintro e w5 ⟨q5, k5, rfl, h51, h52⟩; have Z5 := hide h51; have B5 := hide h52; clear h51 h52)
  clear c0 c1 c2 c3 c4 c5 LA
  obtain ⟨c0, c1, c2, c3, c4, c5⟩ := (show BoxN w5 bb b.f from (B5.out.block _ (lt_of_heap NB1.out)).trans NB1.out).six
  simp only [Nat.zero_add] at c1 c2 c3 c4 c5
  have B6 := hide (chain B1.out B5.out (Nat.le_refl _))
  have LB := hide (laid_c (w := w5) 2001 (by omega) (HB.out.kept B6.out))
  have hzb := laidL_len8 b
  have HMB := hide (laidL_map 2001 b)
  generalize laidL 2001 b = ZB at LB hzb HMB
  have HZB := hide hzb
  clear hzb
  go_upto_region 3 with (go_at_call 7; refine (LB.out).mono ?_; rintro e w7 ⟨q7, k7, rfl, h51, h52⟩; have Z7 := hide h51; have B7 := hide h52; clear h51 h52)
  have Y7 : Hid (ZR W1.heap.size w7 (.slice q5 ZA.length k5) ZA) := ownsRow_fr Z5.out (Fr.of_below (S := fun _ => False) B7.out) (fun _ _ z => z)
  have B8 := hide (chain B6.out B7.out (Nat.le_refl _))
  have hua : cntT a ≤ 2001 := Nat.min_le_right _ _
  have hub : cntT b ≤ 2001 := Nat.min_le_right _ _
  have hal : ZA.length ≤ 2001 := by rw [HZA.out]; exact hua
  have hbl : ZB.length ≤ 2001 := by rw [HZB.out]; exact hub
  clear c0 c1 c2 c3 c4 c5 LB B1 B5 B6 B7 Z5 NA1 NB1 hua hub
  by_cases hne : ZA.length = ZB.length
  · have e0 : ((ZA.length : Int) != (ZB.length : Int)) = false := by simp; omega
    by_cases hbig : 2000 < ZA.length
    · have e1 : (2000 : Int) < (ZA.length : Int) := by omega
      have HF := hide (HR.out.symm.trans (rsB_no (.inr (by rw [← HZA.out]; exact hbig))))
      clear hne hbig
      go_wp2
      go_ret
      exact ⟨by rw [HF.out]; rfl, B8.out⟩
    · have e1 : ¬ (2000 : Int) < (ZA.length : Int) := by omega
      obtain ⟨h1, h2, h3⟩ := rsB_eq (a := a) (b := b) (by rw [← HZA.out, ← HZB.out]; exact hne) (by rw [← HZA.out]; exact hbig)
      have HQ := hide (HR.out.symm.trans h1)
      have HEA := hide (show ZA.map (·.1) = pp [] a by rw [HMA.out, List.take_of_length_le (by omega)])
      have HEB := hide (show ZB.map (·.1) = pp [] b by rw [HMB.out, List.take_of_length_le (by omega)])
      have HNE := hide hne
      clear h1 h2 h3 hbig HMA HMB HZA HZB
      go_upto_region 6 with fail
      go_loopw [7] (fun i wr => ∃ j : Nat, j ≤ ZA.length ∧ i = .int .i64 (j : Int) ∧ Below w7.heap.size w7 wr ∧ (sgs (pp [] a)).take j = (sgs (pp [] b)).take j) (fun i _ => ZA.length - (intOf i).toNat)
      case atStart => exact ⟨0, Nat.zero_le _, rfl, Below.refl _ _, rfl⟩
      case round =>
        obtain ⟨j, hj, rfl, hbw, hsg⟩ := hrel
        have HBW := hide hbw
        have HSG := hide hsg
        clear hbw hsg
        by_cases hjl : j < ZA.length
        · have i0 : (j : Int) < (ZA.length : Int) := by omega
          have i1 : (j : Int) < (ZB.length : Int) := by omega
          obtain ⟨x, hx⟩ : ∃ x, ZA[j]? = some x := ⟨_, List.getElem?_eq_getElem hjl⟩
          obtain ⟨y, hy⟩ : ∃ y, ZB[j]? = some y := ⟨_, List.getElem?_eq_getElem (by omega)⟩
          obtain ⟨ga, ca, hqa⟩ := ownsRow_some Y7.out (by omega)
          obtain ⟨gb, cb, hqb⟩ := ownsRow_some Z7.out (by omega)
          injection hqa with hqa1 _ hqa2
          injection hqb with hqb1 _ hqb2
          subst hqa1 hqa2 hqb1 hqb2
          have YA : ZR W1.heap.size wr (.slice (some ⟨ga, 0, none⟩) ZA.length k5) ZA := ownsRow_fr Y7.out (Fr.of_below (S := fun _ => False) HBW.out) (fun _ _ z => z)
          have YB : ZR w5.heap.size wr (.slice (some ⟨gb, 0, none⟩) ZB.length k7) ZB := ownsRow_fr Z7.out (Fr.of_below (S := fun _ => False) HBW.out) (fun _ _ z => z)
          have x0 : wr.cell? ⟨ga, j * 12, none⟩ = some (.int .i64 x.1.2.f.k) := YA.cells hx (j := 0) rfl
          have x1 : wr.cell? ⟨ga, j * 12 + 1, none⟩ = some (.int .i64 x.1.2.f.n) := YA.cells hx (j := 1) rfl
          have x2 : wr.cell? ⟨ga, j * 12 + 2, none⟩ = some (.int .i64 x.1.2.f.mn) := YA.cells hx (j := 2) rfl
          have x3 : wr.cell? ⟨ga, j * 12 + 3, none⟩ = some (.int .i64 x.1.2.f.mx) := YA.cells hx (j := 3) rfl
          have x4 : wr.cell? ⟨ga, j * 12 + 4, none⟩ = some (.slice x.1.2.f.rq x.1.2.f.rs.length x.1.2.f.rc) := YA.cells hx (j := 4) rfl
          have x5 : wr.cell? ⟨ga, j * 12 + 5, none⟩ = some (.slice x.1.2.f.kq x.1.2.f.kl x.1.2.f.kc) := YA.cells hx (j := 5) rfl
          have y0 : wr.cell? ⟨gb, j * 12, none⟩ = some (.int .i64 y.1.2.f.k) := YB.cells hy (j := 0) rfl
          have y1 : wr.cell? ⟨gb, j * 12 + 1, none⟩ = some (.int .i64 y.1.2.f.n) := YB.cells hy (j := 1) rfl
          have y2 : wr.cell? ⟨gb, j * 12 + 2, none⟩ = some (.int .i64 y.1.2.f.mn) := YB.cells hy (j := 2) rfl
          have y3 : wr.cell? ⟨gb, j * 12 + 3, none⟩ = some (.int .i64 y.1.2.f.mx) := YB.cells hy (j := 3) rfl
          have y4 : wr.cell? ⟨gb, j * 12 + 4, none⟩ = some (.slice y.1.2.f.rq y.1.2.f.rs.length y.1.2.f.rc) := YB.cells hy (j := 4) rfl
          have y5 : wr.cell? ⟨gb, j * 12 + 5, none⟩ = some (.slice y.1.2.f.kq y.1.2.f.kl y.1.2.f.kc) := YB.cells hy (j := 5) rfl
          have hxa : (pp [] a)[j]? = some x.1 := by rw [← HEA.out, List.getElem?_map, hx]; rfl
          have hyb : (pp [] b)[j]? = some y.1 := by rw [← HEB.out, List.getElem?_map, hy]; rfl
          have lga : ga < wr.heap.size := (ownsRow_at YA (g := ga) rfl).2.1
          have lgb : gb < wr.heap.size := (ownsRow_at YB (g := gb) rfl).2.1
          have BW := chain B8.out HBW.out (Nat.le_refl _)
          have TX := (HA.out.at (List.mem_of_getElem? hxa)).node.ck (CK.of_below BW)
          have TY := (HB.out.at (List.mem_of_getElem? hyb)).node.ck (CK.of_below BW)
          have klx := TX.kl
          have kly := TY.kl
          have SN : Hid (sig x.1.2 = sig y.1.2 → (sgs (pp [] a)).take (j + 1) = (sgs (pp [] b)).take (j + 1)) := fun h => (by
            rw [List.take_add_one, List.take_add_one, HSG.out]
            simp only [sgs, List.getElem?_map, hxa, hyb, Option.map_some]
            rw [h])
          have SD : Hid (sig x.1.2 ≠ sig y.1.2 → R = false) := fun h => (by
            rw [HQ.out]
            cases hs : sameB (er a) (er b) with
            | false => rfl
            | true =>
              exfalso
              have := (same_sgs a b).1 hs
              have h2 := congrArg (fun l => l[j]?) this
              simp only [sgs, List.getElem?_map, hxa, hyb, Option.map_some] at h2
              injection h2 with h2
              exact h h2)
          have SG := hide (show sig x.1.2 = sig y.1.2 ↔ x.1.2.f.k = y.1.2.f.k ∧ x.1.2.f.n = y.1.2.f.n ∧ x.1.2.f.mn = y.1.2.f.mn ∧ x.1.2.f.mx = y.1.2.f.mx ∧ x.1.2.f.rs = y.1.2.f.rs ∧ x.1.2.f.kl = y.1.2.f.kl by
            unfold sig
            rw [klx, kly]
            simp [Prod.ext_iff])
          obtain ⟨⟨wa, ta⟩, oa⟩ := x
          obtain ⟨⟨wb, tb⟩, ob⟩ := y
          dsimp only at *
          have TX' := hide TX
          have TY' := hide TY
          clear hx hy hxa hyb YA YB TX TY klx kly BW
          go_upto_region 10 with fail
          have K2 : Below wr.heap.size wr ((wr.alloc (.cells #[.int .i64 ta.f.k, .int .i64 ta.f.n, .int .i64 ta.f.mn, .int .i64 ta.f.mx, .slice ta.f.rq ta.f.rs.length ta.f.rc, .slice ta.f.kq ta.f.kl ta.f.kc] 25)).alloc (.cells #[.int .i64 tb.f.k, .int .i64 tb.f.n, .int .i64 tb.f.mn, .int .i64 tb.f.mx, .slice tb.f.rq tb.f.rs.length tb.f.rc, .slice tb.f.kq tb.f.kl tb.f.kc] 25)) := ((Below.refl _ _).alloc (Nat.le_refl _) _).alloc (by simp) _
          have N8 : Hid (BoxN ((wr.alloc (.cells #[.int .i64 ta.f.k, .int .i64 ta.f.n, .int .i64 ta.f.mn, .int .i64 ta.f.mx, .slice ta.f.rq ta.f.rs.length ta.f.rc, .slice ta.f.kq ta.f.kl ta.f.kc] 25)).alloc (.cells #[.int .i64 tb.f.k, .int .i64 tb.f.n, .int .i64 tb.f.mn, .int .i64 tb.f.mx, .slice tb.f.rq tb.f.rs.length tb.f.rc, .slice tb.f.kq tb.f.kl tb.f.kc] 25)) wr.heap.size ta.f) := (Below.heap_alloc _ _ _ (by simp)).trans (alloc_new wr _)
          have N9 : Hid (BoxN ((wr.alloc (.cells #[.int .i64 ta.f.k, .int .i64 ta.f.n, .int .i64 ta.f.mn, .int .i64 ta.f.mx, .slice ta.f.rq ta.f.rs.length ta.f.rc, .slice ta.f.kq ta.f.kl ta.f.kc] 25)).alloc (.cells #[.int .i64 tb.f.k, .int .i64 tb.f.n, .int .i64 tb.f.mn, .int .i64 tb.f.mx, .slice tb.f.rq tb.f.rs.length tb.f.rc, .slice tb.f.kq tb.f.kl tb.f.kc] 25)) (wr.heap.size + 1) tb.f) := (by
            have := alloc_new (wr.alloc (.cells #[.int .i64 ta.f.k, .int .i64 ta.f.n, .int .i64 ta.f.mn, .int .i64 ta.f.mx, .slice ta.f.rq ta.f.rs.length ta.f.rc, .slice ta.f.kq ta.f.kl ta.f.kc] 25)) (.cells #[.int .i64 tb.f.k, .int .i64 tb.f.n, .int .i64 tb.f.mn, .int .i64 tb.f.mx, .slice tb.f.rq tb.f.rs.length tb.f.rc, .slice tb.f.kq tb.f.kl tb.f.kc] 25)
            rwa [World.size_alloc] at this)
          have AK := hide (alike_c (TX'.out.ck (CK.of_below K2)).r (TY'.out.ck (CK.of_below K2)).r)
          have HK2 := hide K2
          clear K2
          generalize ((wr.alloc (.cells #[.int .i64 ta.f.k, .int .i64 ta.f.n, .int .i64 ta.f.mn, .int .i64 ta.f.mx, .slice ta.f.rq ta.f.rs.length ta.f.rc, .slice ta.f.kq ta.f.kl ta.f.kc] 25)).alloc (.cells #[.int .i64 tb.f.k, .int .i64 tb.f.n, .int .i64 tb.f.mn, .int .i64 tb.f.mx, .slice tb.f.rq tb.f.rs.length tb.f.rc, .slice tb.f.kq tb.f.kl tb.f.kc] 25)) = W2 at N8 N9 AK HK2 ⊢
          generalize wr.heap.size + 1 = b9 at N9 ⊢
          obtain ⟨b8, hb8⟩ : ∃ b8, wr.heap.size = b8 := ⟨_, rfl⟩
          rw [hb8] at N8 ⊢
          clear hb8
          have a4 : W2.cell? ⟨b8, 4, none⟩ = some (.slice ta.f.rq ta.f.rs.length ta.f.rc) := N8.out.six.2.2.2.2.1
          have d4 : W2.cell? ⟨b9, 4, none⟩ = some (.slice tb.f.rq tb.f.rs.length tb.f.rc) := N9.out.six.2.2.2.2.1
          obtain ⟨rr, hrr⟩ : ∃ rr, decide (ta.f.rs = tb.f.rs) = rr := ⟨_, rfl⟩
          rw [hrr] at AK
          have HRR := hide hrr
          clear hrr x0 x1 x2 x3 x4 x5 y0 y1 y2 y3 y4 y5
          go_upto_region 11 with (go_at_call 26; (with_reducible refine (AK.out).mono ?_); rintro e W3 ⟨rfl, h3⟩; have B3 := hide h3; have N8' := hide ((h3.block _ (lt_of_heap N8.out)).trans N8.out); have N9' := hide ((h3.block _ (lt_of_heap N9.out)).trans N9.out); clear h3)
          have HB4 := hide (chain HBW.out (chain HK2.out B3.out (Nat.le_refl _)) (by have := HBW.out.size; omega))
          obtain ⟨x0, x1, x2, x3, x4, x5⟩ := (show BoxN W3 b8 ta.f from N8'.out).six
          obtain ⟨y0, y1, y2, y3, y4, y5⟩ := (show BoxN W3 b9 tb.f from N9'.out).six
          simp only [Nat.zero_add] at x1 x2 x3 x4 x5 y1 y2 y3 y4 y5
          clear a4 d4 N8 N9 AK HK2 B3 N8' N9'
          obtain ⟨S, hS⟩ : ∃ S : Bool, (S = true ↔ sig ta = sig tb) := by
            by_cases h : sig ta = sig tb
            · exact ⟨true, ⟨fun _ => h, fun _ => rfl⟩⟩
            · exact ⟨false, ⟨fun z => (by cases z), fun z => absurd z h⟩⟩
          have HSS := hide hS
          clear hS
          go_cut [84] (fun u wx => u = .bool (!S) ∧ wx = W3)
          case first =>
            by_cases hk : ta.f.k = tb.f.k
            case neg =>
              have ek : (ta.f.k != tb.f.k) = true := by simpa using hk
              have HF := hide (show S = false from Bool.eq_false_iff.2 fun z0 => (fun z => hk ((SG.out.1 z).1)) (HSS.out.1 z0))
              clear hk
              go_wp2
              go_meet
              exact ⟨by rw [HF.out]; rfl, rfl⟩
            have ek : (ta.f.k != tb.f.k) = false := by simpa using hk
            have Hk9 := hide hk
            clear hk
            by_cases hn : ta.f.n = tb.f.n
            case neg =>
              have en : (ta.f.n != tb.f.n) = true := by simpa using hn
              have HF := hide (show S = false from Bool.eq_false_iff.2 fun z0 => (fun z => hn ((SG.out.1 z).2.1)) (HSS.out.1 z0))
              clear hn
              go_wp2
              go_meet
              exact ⟨by rw [HF.out]; rfl, rfl⟩
            have en : (ta.f.n != tb.f.n) = false := by simpa using hn
            have Hn9 := hide hn
            clear hn
            by_cases hm : ta.f.mn = tb.f.mn
            case neg =>
              have em : (ta.f.mn != tb.f.mn) = true := by simpa using hm
              have HF := hide (show S = false from Bool.eq_false_iff.2 fun z0 => (fun z => hm ((SG.out.1 z).2.2.1)) (HSS.out.1 z0))
              clear hm
              go_wp2
              go_meet
              exact ⟨by rw [HF.out]; rfl, rfl⟩
            have em : (ta.f.mn != tb.f.mn) = false := by simpa using hm
            have Hm9 := hide hm
            clear hm
            by_cases hx : ta.f.mx = tb.f.mx
            case neg =>
              have ex : (ta.f.mx != tb.f.mx) = true := by simpa using hx
              have HF := hide (show S = false from Bool.eq_false_iff.2 fun z0 => (fun z => hx ((SG.out.1 z).2.2.2.1)) (HSS.out.1 z0))
              clear hx
              go_wp2
              go_meet
              exact ⟨by rw [HF.out]; rfl, rfl⟩
            have ex : (ta.f.mx != tb.f.mx) = false := by simpa using hx
            have Hx9 := hide hx
            clear hx
            cases rr with
            | false =>
              have HF := hide (show S = false from Bool.eq_false_iff.2 fun z0 => (fun z => (of_decide_eq_false HRR.out) ((SG.out.1 z).2.2.2.2.1)) (HSS.out.1 z0))
              go_wp2
              go_meet
              exact ⟨by rw [HF.out]; rfl, rfl⟩
            | true =>
              by_cases hl : ta.f.kl = tb.f.kl
              · have el : ((ta.f.kl : Int) != (tb.f.kl : Int)) = false := by simp; omega
                have HF := hide (show S = true from HSS.out.2 (SG.out.2 ⟨Hk9.out, Hn9.out, Hm9.out, Hx9.out, of_decide_eq_true HRR.out, hl⟩))
                clear hl
                go_wp2
                go_meet
                exact ⟨by rw [HF.out]; rfl, rfl⟩
              · have el : ((ta.f.kl : Int) != (tb.f.kl : Int)) = true := by simp; omega
                have HF := hide (show S = false from Bool.eq_false_iff.2 fun z0 => (fun z => hl ((SG.out.1 z).2.2.2.2.2)) (HSS.out.1 z0))
                clear hl
                go_wp2
                go_meet
                exact ⟨by rw [HF.out]; rfl, rfl⟩
          case rest =>
            obtain ⟨rfl, hW⟩ := hcut
            subst hW
            cases S with
            | true =>
              have HN := hide (SN.out (HSS.out.1 rfl))
              go_wp2
              go_roundw
              case rel => exact ⟨j + 1, by omega, by go_num, HB4.out, HN.out⟩
              case measure => simp only [intOf]; omega
            | false =>
              have HF := hide (SD.out fun z => by have := HSS.out.2 z; cases this)
              go_wp2
              go_ret
              exact ⟨by rw [HF.out]; rfl, chain B8.out HB4.out (Nat.le_refl _)⟩
        · have i0 : ¬ (j : Int) < (ZA.length : Int) := by omega
          have HF := hide (show R = true by
            rw [HQ.out]
            refine (same_sgs a b).2 ?_
            have h := HSG.out
            have la : (sgs (pp [] a)).length = ZA.length := by rw [← HEA.out]; simp [sgs]
            have lb : (sgs (pp [] b)).length = ZB.length := by rw [← HEB.out]; simp [sgs]
            have := HNE.out
            rwa [List.take_of_length_le (by omega), List.take_of_length_le (by omega)] at h)
          go_wp2
          go_ret
          exact ⟨by rw [HF.out]; rfl, chain B8.out HBW.out (Nat.le_refl _)⟩
  · have e0 : ((ZA.length : Int) != (ZB.length : Int)) = true := by simp; omega
    have HF := hide (HR.out.symm.trans (rsB_no (.inl (by rw [← HZA.out, ← HZB.out]; exact hne))))
    clear hne
    go_wp2
    go_ret
    exact ⟨by rw [HF.out]; rfl, B8.out⟩
end Go.Proofs.Ytlodjinejeajcab
namespace Go.Proofs.Ytlodjinejeajcab
open Go Go.RowKit

/-- What is known of a tree that spells a text. -/
def LR (c f : Bool) (s : ByteArray) (t : Tr) : Prop := (litE c s = 0 → ∃ L, er t = joinE 5 L (.mk 1 0 0 0 [] []) ∧ ECs f (litL c s) L) ∧ (litE c s ≠ 0 → er t = .mk 0 0 0 0 [] [])
def LitT (w : World) (c f : Bool) (s : ByteArray) (e : Ending) (w' : World) : Prop := ∃ t, e = .returned (.tuple #[.agg #[.int .i64 t.f.k, .int .i64 t.f.n, .int .i64 t.f.mn, .int .i64 t.f.mx, .slice t.f.rq t.f.rs.length t.f.rc, .slice t.f.kq t.f.kl t.f.kc], .int .i64 (litE c s)]) ∧ TA w' t ∧ LR c f s t ∧ Below w.heap.size w w'
theorem LitIs.to {w w' : World} {c f : Bool} {s : ByteArray} {e : Ending} (h : LitIs w c f s e w') : LitT w c f s e w' := by
  rcases h with ⟨h1, h2, h3⟩ | ⟨h1, t, L, h2, h3, h4, h5, h6⟩
  · exact ⟨.mk (bare 0) [], h2, bare_ta _ 0, ⟨fun z => absurd z h1, fun _ => by rw [er_eq]; rfl⟩, h3⟩
  · exact ⟨t, by rw [h1]; exact h2, h3, ⟨fun _ => ⟨L, h4, h5⟩, fun z => absurd h1 z⟩, h6⟩
theorem LR.same {c f : Bool} {s : ByteArray} {a b : Tr} (ha : LR c f s a) (hb : LR c f s b) (hs : s.size ≤ 1900) : rsB a b = true := by
  have key : er a = er b ∧ (er a).sz ≤ 2000 := by
    by_cases h : litE c s = 0
    · obtain ⟨L, h1, h2⟩ := ha.1 h
      obtain ⟨M, h3, h4⟩ := hb.1 h
      have e := h2.one h4
      subst e
      refine ⟨h1.trans h3.symm, ?_⟩
      rw [h1]
      have hz := join_sz 5 L 1
      have h5 : ∀ K : List Er, (∀ E ∈ K, E ∈ L) → eszs K = K.length := by
        intro K
        induction K with
        | nil => intro _; rw [eszs_nil]; rfl
        | cons E K ih =>
          intro hK
          obtain ⟨z, -, hz⟩ := h2.mem E (hK E List.mem_cons_self)
          rw [eszs_cons, esz_eq, hz.k.2, eszs_nil, ih (fun v hv => hK v (List.mem_cons_of_mem _ hv)), List.length_cons]
          omega
      have h6 := h5 L (fun _ h => h)
      have h7 := h2.len
      have h8 := litL_len c s
      omega
    · have h1 := ha.2 h
      have h2 := hb.2 h
      refine ⟨h1.trans h2.symm, ?_⟩
      rw [h1, esz_eq]
      show eszs [] + 1 ≤ 2000
      rw [eszs_nil]
      omega
  unfold rsB
  have l1 : (pp [] a).length ≤ 2000 := by rw [pp_len, ← er_sz]; exact key.2
  have l2 : (pp [] b).length ≤ 2000 := by rw [pp_len, ← er_sz, ← key.1]; exact key.2
  rw [key.1, sameB_refl, decide_eq_false (by omega), decide_eq_false (by omega)]
  rfl
set_option maxRecDepth 100000 in
set_option maxHeartbeats 4000000 in
theorem law_literal {w : World} (a : ByteArray) (c f : Bool) (ha : a.size ≤ 4611686018427387903) :
    Calls Try.prog 4 #[.string a, .agg #[.bool c, .bool f]] w fun e w' => e = .returned (.bool true) ∧ Below w.heap.size w w' := by
  have M0 : Hid ((w.alloc (.cells #[.bool c, .bool f] 34)).heap[w.heap.size]? = some (.cells #[.bool c, .bool f] 34 (0, 0))) := alloc_new w _
  have B0 : Hid (Below w.heap.size w (w.alloc (.cells #[.bool c, .bool f] 34))) := (Below.refl _ _).alloc (Nat.le_refl _) _
  go_enter Try.func4, Try.ntmps4
  go_upto_region 1 with fail
  generalize (w.alloc (.cells #[.bool c, .bool f] 34)) = W0 at M0 B0 ⊢
  obtain ⟨bm, hbm⟩ : ∃ bm, bm = w.heap.size := ⟨_, rfl⟩
  rw [← hbm] at M0 ⊢
  clear hbm
  go_upto_region 2 with (go_at_call 5; (with_reducible refine (examples8_c _).mono ?_); rintro e W1 ⟨rfl, a4⟩; have M1 : Hid (W1.heap[bm]? = some (.cells #[.bool c, .bool f] 34 (0, 0))) := (a4.block _ (lt_of_heap M0.out)).trans M0.out; have B1 : Hid (Below w.heap.size w W1) := chain B0.out a4 (Nat.le_refl _); clear a4 M0 B0)
  by_cases hbig : 1900 < a.size
  · have e0 : (1900 : Int) < (a.size : Int) := by omega
    have e1 : ¬ a.size < 1900 := by omega
    have e2 : (1900 : Int) ≤ (a.size : Int) := by omega
    go_upto_region 4 with fail
    have hsz : (a.extract 0 1900).size ≤ 1900 := by rw [ByteArray.size_extract]; omega
    generalize a.extract 0 1900 = b at hsz ⊢
    clear e1 e2 hbig
    have HSZ := hide hsz
    have PA := hide (fun V => (literal_c b V c f (by omega)).mono fun e w' h => LitIs.to h)
    have PB := hide (fun V => (rlit_c b V c f (by omega)).mono fun e w' h => LitIs.to h)
    have m0 := cell_row M1.out (i := 0) rfl
    have m1 := cell_row M1.out (i := 1) rfl
    clear hsz
    go_upto_region 5 with (go_at_call 10; (with_reducible refine (PA.out _).mono ?_); rintro e w5 ⟨x, rfl, h51, h52, h53⟩; have X5 := hide h51; have L5 := hide h52; have B5 := hide h53; clear h51 h52 h53)
    have KK := chain B5.out ((Below.refl w5.heap.size w5).alloc (Nat.le_refl _) (.cells #[.int .i64 x.f.k, .int .i64 x.f.n, .int .i64 x.f.mn, .int .i64 x.f.mx, .slice x.f.rq x.f.rs.length x.f.rc, .slice x.f.kq x.f.kl x.f.kc] 25)) (Nat.le_refl _)
    have M2 := hide ((KK.block _ (lt_of_heap M1.out)).trans M1.out)
    have B2 := hide (chain B1.out KK (Nat.le_refl _))
    have XB2 := hide (alloc_new w5 (.cells #[.int .i64 x.f.k, .int .i64 x.f.n, .int .i64 x.f.mn, .int .i64 x.f.mx, .slice x.f.rq x.f.rs.length x.f.rc, .slice x.f.kq x.f.kl x.f.kc] 25))
    have TX2 := hide (X5.out.kept ((Below.refl w5.heap.size w5).alloc (Nat.le_refl _) (.cells #[.int .i64 x.f.k, .int .i64 x.f.n, .int .i64 x.f.mn, .int .i64 x.f.mx, .slice x.f.rq x.f.rs.length x.f.rc, .slice x.f.kq x.f.kl x.f.kc] 25)))
    clear KK m0 m1 M1 B1 X5 B5 PA
    generalize (w5.alloc (.cells #[.int .i64 x.f.k, .int .i64 x.f.n, .int .i64 x.f.mn, .int .i64 x.f.mx, .slice x.f.rq x.f.rs.length x.f.rc, .slice x.f.kq x.f.kl x.f.kc] 25)) = W2 at M2 B2 XB2 TX2 ⊢
    generalize w5.heap.size = bx at XB2 ⊢
    have m0 : W2.cell? ⟨bm, 0, none⟩ = some (.bool c) := cell_row M2.out (i := 0) rfl
    have m1 : W2.cell? ⟨bm, 1, none⟩ = some (.bool f) := cell_row M2.out (i := 1) rfl
    go_upto_region 6 with (go_at_call 11; (with_reducible refine (PB.out _).mono ?_); rintro e w7 ⟨y, rfl, h51, h52, h53⟩; have Y7 := hide h51; have L7 := hide h52; have B7 := hide h53; clear h51 h52 h53)
    have KK := chain B7.out ((Below.refl w7.heap.size w7).alloc (Nat.le_refl _) (.cells #[.int .i64 y.f.k, .int .i64 y.f.n, .int .i64 y.f.mn, .int .i64 y.f.mx, .slice y.f.rq y.f.rs.length y.f.rc, .slice y.f.kq y.f.kl y.f.kc] 25)) (Nat.le_refl _)
    have B3 := hide (chain B2.out KK (Nat.le_refl _))
    have XB3 := hide ((KK.block _ (lt_of_heap XB2.out)).trans XB2.out)
    have YB3 := hide (alloc_new w7 (.cells #[.int .i64 y.f.k, .int .i64 y.f.n, .int .i64 y.f.mn, .int .i64 y.f.mx, .slice y.f.rq y.f.rs.length y.f.rc, .slice y.f.kq y.f.kl y.f.kc] 25))
    have TX3 := hide (TX2.out.kept KK)
    have TY3 := hide (Y7.out.kept ((Below.refl w7.heap.size w7).alloc (Nat.le_refl _) (.cells #[.int .i64 y.f.k, .int .i64 y.f.n, .int .i64 y.f.mn, .int .i64 y.f.mx, .slice y.f.rq y.f.rs.length y.f.rc, .slice y.f.kq y.f.kl y.f.kc] 25)))
    clear KK m0 m1 M2 B2 XB2 TX2 Y7 B7 PB
    generalize (w7.alloc (.cells #[.int .i64 y.f.k, .int .i64 y.f.n, .int .i64 y.f.mn, .int .i64 y.f.mx, .slice y.f.rq y.f.rs.length y.f.rc, .slice y.f.kq y.f.kl y.f.kc] 25)) = W3 at B3 XB3 YB3 TX3 TY3 ⊢
    generalize w7.heap.size = bj at YB3 ⊢
    obtain ⟨x0, x1, x2, x3, x4, x5⟩ := (show BoxN W3 bx x.f from XB3.out).six
    obtain ⟨y0, y1, y2, y3, y4, y5⟩ := (show BoxN W3 bj y.f from YB3.out).six
    simp only [Nat.zero_add] at x1 x2 x3 x4 x5 y1 y2 y3 y4 y5
    have RS := hide (rsame8 TX3.out TY3.out)
    have hrs := L5.out.same L7.out HSZ.out
    rw [hrs] at RS
    clear hrs
    generalize litE c b = ee at *
    go_wp2_with (go_at_call 12; (with_reducible refine (RS.out).mono ?_); rintro e w9 ⟨rfl, h9⟩; have B9 := hide h9; clear h9)
    go_ret
    exact ⟨rfl, chain B3.out B9.out (Nat.le_refl _)⟩
  · have e0 : ¬ (1900 : Int) < (a.size : Int) := by omega
    have hsz : a.size ≤ 1900 := by omega
    clear hbig
    have HSZ := hide hsz
    have PA := hide (fun V => (literal_c a V c f (by omega)).mono fun e w' h => LitIs.to h)
    have PB := hide (fun V => (rlit_c a V c f (by omega)).mono fun e w' h => LitIs.to h)
    have m0 := cell_row M1.out (i := 0) rfl
    have m1 := cell_row M1.out (i := 1) rfl
    clear hsz
    go_upto_region 5 with (go_at_call 10; (with_reducible refine (PA.out _).mono ?_); rintro e w5 ⟨x, rfl, h51, h52, h53⟩; have X5 := hide h51; have L5 := hide h52; have B5 := hide h53; clear h51 h52 h53)
    have KK := chain B5.out ((Below.refl w5.heap.size w5).alloc (Nat.le_refl _) (.cells #[.int .i64 x.f.k, .int .i64 x.f.n, .int .i64 x.f.mn, .int .i64 x.f.mx, .slice x.f.rq x.f.rs.length x.f.rc, .slice x.f.kq x.f.kl x.f.kc] 25)) (Nat.le_refl _)
    have M2 := hide ((KK.block _ (lt_of_heap M1.out)).trans M1.out)
    have B2 := hide (chain B1.out KK (Nat.le_refl _))
    have XB2 := hide (alloc_new w5 (.cells #[.int .i64 x.f.k, .int .i64 x.f.n, .int .i64 x.f.mn, .int .i64 x.f.mx, .slice x.f.rq x.f.rs.length x.f.rc, .slice x.f.kq x.f.kl x.f.kc] 25))
    have TX2 := hide (X5.out.kept ((Below.refl w5.heap.size w5).alloc (Nat.le_refl _) (.cells #[.int .i64 x.f.k, .int .i64 x.f.n, .int .i64 x.f.mn, .int .i64 x.f.mx, .slice x.f.rq x.f.rs.length x.f.rc, .slice x.f.kq x.f.kl x.f.kc] 25)))
    clear KK m0 m1 M1 B1 X5 B5 PA
    generalize (w5.alloc (.cells #[.int .i64 x.f.k, .int .i64 x.f.n, .int .i64 x.f.mn, .int .i64 x.f.mx, .slice x.f.rq x.f.rs.length x.f.rc, .slice x.f.kq x.f.kl x.f.kc] 25)) = W2 at M2 B2 XB2 TX2 ⊢
    generalize w5.heap.size = bx at XB2 ⊢
    have m0 : W2.cell? ⟨bm, 0, none⟩ = some (.bool c) := cell_row M2.out (i := 0) rfl
    have m1 : W2.cell? ⟨bm, 1, none⟩ = some (.bool f) := cell_row M2.out (i := 1) rfl
    go_upto_region 6 with (go_at_call 11; (with_reducible refine (PB.out _).mono ?_); rintro e w7 ⟨y, rfl, h51, h52, h53⟩; have Y7 := hide h51; have L7 := hide h52; have B7 := hide h53; clear h51 h52 h53)
    have KK := chain B7.out ((Below.refl w7.heap.size w7).alloc (Nat.le_refl _) (.cells #[.int .i64 y.f.k, .int .i64 y.f.n, .int .i64 y.f.mn, .int .i64 y.f.mx, .slice y.f.rq y.f.rs.length y.f.rc, .slice y.f.kq y.f.kl y.f.kc] 25)) (Nat.le_refl _)
    have B3 := hide (chain B2.out KK (Nat.le_refl _))
    have XB3 := hide ((KK.block _ (lt_of_heap XB2.out)).trans XB2.out)
    have YB3 := hide (alloc_new w7 (.cells #[.int .i64 y.f.k, .int .i64 y.f.n, .int .i64 y.f.mn, .int .i64 y.f.mx, .slice y.f.rq y.f.rs.length y.f.rc, .slice y.f.kq y.f.kl y.f.kc] 25))
    have TX3 := hide (TX2.out.kept KK)
    have TY3 := hide (Y7.out.kept ((Below.refl w7.heap.size w7).alloc (Nat.le_refl _) (.cells #[.int .i64 y.f.k, .int .i64 y.f.n, .int .i64 y.f.mn, .int .i64 y.f.mx, .slice y.f.rq y.f.rs.length y.f.rc, .slice y.f.kq y.f.kl y.f.kc] 25)))
    clear KK m0 m1 M2 B2 XB2 TX2 Y7 B7 PB
    generalize (w7.alloc (.cells #[.int .i64 y.f.k, .int .i64 y.f.n, .int .i64 y.f.mn, .int .i64 y.f.mx, .slice y.f.rq y.f.rs.length y.f.rc, .slice y.f.kq y.f.kl y.f.kc] 25)) = W3 at B3 XB3 YB3 TX3 TY3 ⊢
    generalize w7.heap.size = bj at YB3 ⊢
    obtain ⟨x0, x1, x2, x3, x4, x5⟩ := (show BoxN W3 bx x.f from XB3.out).six
    obtain ⟨y0, y1, y2, y3, y4, y5⟩ := (show BoxN W3 bj y.f from YB3.out).six
    simp only [Nat.zero_add] at x1 x2 x3 x4 x5 y1 y2 y3 y4 y5
    have RS := hide (rsame8 TX3.out TY3.out)
    have hrs := L5.out.same L7.out HSZ.out
    rw [hrs] at RS
    clear hrs
    generalize litE c a = ee at *
    go_wp2_with (go_at_call 12; (with_reducible refine (RS.out).mono ?_); rintro e w9 ⟨rfl, h9⟩; have B9 := hide h9; clear h9)
    go_ret
    exact ⟨rfl, chain B3.out B9.out (Nat.le_refl _)⟩
end Go.Proofs.Ytlodjinejeajcab
namespace Go.Proofs.Ytlodjinejeajcab
open Go Go.ChangeShapes Go.WideShapes Go.ChangeAt Go.RowKit

theorem cells_node : Try.prog.cellsOf 25 = 6 := by kernel_rfl
theorem cells_rng : Try.prog.cellsOf 55 = 2 := by kernel_rfl
theorem cells_rngs : Try.prog.cellsOf 22 = 1 := by kernel_rfl
theorem cells_nods : Try.prog.cellsOf 23 = 1 := by kernel_rfl
theorem bytes_rng : Try.prog.bytesOf 55 = 16 := by kernel_rfl
theorem weights_all {H : Type} {P : Program} {e : TypeId} {d : DataW H} {n : Nat} : ∀ {l : List (DataW H)}, d ∈ l → n ∈ d.weights P e → n ∈ DataW.weightsAll P e l
  | [], h, _ => by cases h
  | x :: r, h, hn => by
    simp only [DataW.weightsAll, List.mem_append]
    rcases List.mem_cons.1 h with rfl | h
    · exact .inl hn
    · exact .inr (weights_all h hn)
theorem cell_blk {w : World} {g o : Nat} {v : Value} (h : w.cell? ⟨g, o, none⟩ = some v) : g < w.heap.size := by
  rcases Nat.lt_or_ge g w.heap.size with h' | h'
  · exact h'
  · have : w.heap[g]? = none := Array.getElem?_eq_none h'
    simp [World.cell?, this] at h
theorem add_none {a : Addr} {W : World} {v : Value} (h : W.cell? (a.add 0) = some v) : ∃ b off, a = ⟨b, off, none⟩ := by
  obtain ⟨b, off, spot⟩ := a
  cases spot with
  | none => exact ⟨b, off, rfl⟩
  | some k =>
    exfalso
    unfold Addr.add World.cell? at h
    simp at h
    split at h <;> simp_all

set_option maxRecDepth 100000 in
theorem open_rngs {H : Type} {enc : TypeId × Value → H} {W : World} {fuel : Nat} {v : Value} {x : DataW H × List MemPlace} (hf : DataW.trod enc Try.prog W 0 (fun _ => true) true fuel 22 [v] = some x) (hw : ∀ n ∈ x.1.weights Try.prog 22, n ≤ reachBytes) :
    ∃ (rs : List (Int × Int)) (q : Option Addr) (c : Nat), v = .slice q rs.length c ∧ ArgR W v rs ∧ Fit rs ∧ rs.length + 3 ≤ 8796093022208 := by
  rcases Deep.open_slice_pairs Try.underlying22 Try.underlying55 cells_rng rfl rfl cells_int cells_int hf with ⟨h1, h2⟩ | ⟨a, len, cap, m, n, V0, V1, D0, D1, P0, P1, h1, _, hlc, hcap, hm, h2, hx⟩
  · cases h1
    exact ⟨[], none, 0, rfl, .inl ⟨none, 0, rfl, rfl, fun _ => rfl⟩, fit_nil, by simp⟩
  · cases h1
    rw [if_pos rfl] at hm
    subst hm
    by_cases hc : m = 0
    · have hl : len = 0 := by omega
      subst hc hl
      exact ⟨[], some a, 0, rfl, .inl ⟨some a, 0, rfl, rfl, fun q => (by cases q)⟩, fit_nil, by simp⟩
    · have hp : ∀ i, i < m → ∃ q : Int × Int, V0 i = .int .i64 q.1 ∧ V1 i = .int .i64 q.2 ∧ (Lit.int .i64 q.1).wf = true ∧ (Lit.int .i64 q.2).wf = true := fun i hi => by
        obtain ⟨_, _, g0, g1⟩ := hx i hi
        obtain ⟨x0, e0, _, w0⟩ := DataW.trod_int Try.underlying3 g0
        obtain ⟨x1, e1, _, w1⟩ := DataW.trod_int Try.underlying3 g1
        exact ⟨(x0, x1), by simpa using e0, by simpa using e1, w0, w1⟩
      obtain ⟨q, hq⟩ := Deep.choose_lt hp
      have c0 := (hx 0 (by omega)).1
      obtain ⟨b, off, rfl⟩ := add_none (by simpa using c0)
      have hadd : ∀ j, (⟨b, off, none⟩ : Addr).add j = ⟨b, off + j, none⟩ := fun j => by unfold Addr.add; split <;> simp_all
      have hb : b < W.heap.size := by rw [hadd] at c0; exact cell_blk c0
      refine ⟨(List.range len).map q, some ⟨b, off, none⟩, m, by simp, .inr ⟨b, off, m, by simp, hb, by simpa using hlc, hcap, fun i r hi' => ?_⟩, fun r hr => ?_, ?_⟩
      · have hil : i < len := by have := (List.getElem?_eq_some_iff.1 hi').1; simpa using this
        have hqi : q i = r := by simpa [hil] using hi'
        obtain ⟨k0, k1, _, _⟩ := hx i (by omega)
        rw [hadd, Nat.mul_comm] at k0
        rw [hadd, Nat.mul_comm, ← Nat.add_assoc] at k1
        obtain ⟨r0, r1, _, _⟩ := hq i (by omega)
        rw [hqi] at r0 r1
        exact ⟨by rw [k0, r0], by rw [k1, r1]⟩
      · obtain ⟨i, hi, rfl⟩ := List.mem_map.1 hr
        have hil : i < len := List.mem_range.1 hi
        obtain ⟨_, _, w0, w1⟩ := hq i (by omega)
        exact ⟨wf_range w0, wf_range w1⟩
      · obtain ⟨es, sp, e1, e2⟩ : ∃ es sp, x.1 = .slice es sp ∧ es.length = len := ⟨_, _, congrArg Prod.fst h2, by simp⟩
        have h3 := hw ((es.length + sp.length) * Try.prog.bytesOf 55) (by rw [e1]; simp [DataW.weights, Try.underlying22])
        rw [bytes_rng] at h3
        have r : reachBytes = 140737488351232 := by decide
        simp
        omega

set_option maxRecDepth 100000 in
set_option maxHeartbeats 2000000 in
theorem open_nodeF {H : Type} {enc : TypeId × Value → H} {W : World} : ∀ (fuel : Nat) (cs : List Value) (x : DataW H × List MemPlace), DataW.trod enc Try.prog W 0 (fun _ => true) true fuel 25 cs = some x → (∀ n ∈ x.1.weights Try.prog 25, n ≤ reachBytes) →
    ∃ t : Tr, TA W t ∧ cs = [.int .i64 t.f.k, .int .i64 t.f.n, .int .i64 t.f.mn, .int .i64 t.f.mx, .slice t.f.rq t.f.rs.length t.f.rc, .slice t.f.kq t.f.kl t.f.kc] := by
  intro fuel
  induction fuel using Nat.strongRecOn with
  | ind fuel ih =>
    intro cs x hf hw
    obtain ⟨xs, k, hk, hxy, hcl, hxl, hfs⟩ := DataW.trod_struct Try.underlying25 hf
    have hD : x.1 = .agg (xs.map (·.1)) := (congrArg Prod.fst hxy)
    rw [hD] at hw
    simp only [DataW.weights, Try.underlying25] at hw
    rw [cells_node] at hcl
    clear hD hxy hf
    match xs, hxl, cs, hcl, hfs, hw with
    | [y0, y1, y2, y3, y4, y5], _, [v0, v1, v2, v3, v4, v5], _, hf, hwi =>
      have F0 := hf 0 _ rfl
      have F1 := hf 1 _ rfl
      have F2 := hf 2 _ rfl
      have F3 := hf 3 _ rfl
      have F4 := hf 4 _ rfl
      have F5 := hf 5 _ rfl
      simp [cells_int, cells_rngs, cells_nods] at F0 F1 F2 F3 F4 F5
      obtain ⟨x0, e0, _, w0⟩ := DataW.trod_int Try.underlying3 F0
      obtain ⟨x1, e1, _, w1⟩ := DataW.trod_int Try.underlying3 F1
      obtain ⟨x2, e2, _, w2⟩ := DataW.trod_int Try.underlying3 F2
      obtain ⟨x3, e3, _, w3⟩ := DataW.trod_int Try.underlying3 F3
      obtain ⟨rs, q, c, rfl, hr, hfit, hlen⟩ := open_rngs F4 (fun n hn => hwi n (DataW.weights_mem_each (j := 4) (t := 22) rfl rfl n hn))
      cases e0; cases e1; cases e2; cases e3
      have hwk := fun n hn => hwi n (DataW.weights_mem_each (j := 5) (t := 23) (d := y5.1) rfl rfl n hn)
      rcases DataW.trod_slice Try.underlying23 F5 with ⟨h1, h2⟩ | ⟨a, len, cap, elems, rest, n, hn, h1, h2, _, hlc, hcap, hel, hx, -, -⟩
      · cases h1
        exact ⟨.mk ⟨x0, x1, x2, x3, rs, q, c, none, 0, 0⟩ [], (every_eq _).2 ⟨⟨hr, .inl ⟨none, 0, rfl, rfl, fun _ => rfl⟩, hfit, hlen⟩, (everyL_iff _).2 fun u hu => by cases hu⟩, rfl⟩
      · cases h1
        by_cases hl : len = 0
        · subst hl
          exact ⟨.mk ⟨x0, x1, x2, x3, rs, q, c, some a, 0, cap⟩ [], (every_eq _).2 ⟨⟨hr, .inl ⟨some a, cap, rfl, rfl, fun z => by cases z⟩, hfit, hlen⟩, (everyL_iff _).2 fun u hu => by cases hu⟩, rfl⟩
        · have each : ∀ i, i < len → ∃ t : Tr, TA W t ∧ ∀ j v, [Value.int .i64 t.f.k, .int .i64 t.f.n, .int .i64 t.f.mn, .int .i64 t.f.mx, .slice t.f.rq t.f.rs.length t.f.rc, .slice t.f.kq t.f.kl t.f.kc][j]? = some v → W.cell? (a.add (i * 6 + j)) = some v := by
            intro i hi
            have hxi := hx i hi
            rw [List.getElem?_eq_getElem (by omega)] at hxi
            obtain ⟨cs', g1, g2⟩ := Option.bind_eq_some_iff.1 hxi
            rw [cells_node] at g1
            obtain ⟨_, hlc', hcell⟩ := World.cells?_some g1
            obtain ⟨t, ht, hcs⟩ := ih n (by omega) cs' _ g2 (fun m hm => hwk m (by
              rw [show y5.1 = .slice (elems.map (·.1)) (rest.map (·.1)) from congrArg Prod.fst h2]
              simp only [DataW.weights, Try.underlying23, List.mem_cons, List.mem_append]
              exact .inr (.inl (weights_all (List.mem_map.2 ⟨_, List.getElem_mem _, rfl⟩) hm))))
            refine ⟨t, ht, fun j v hj => ?_⟩
            have hj6 : j < 6 := by have := (List.getElem?_eq_some_iff.1 hj).1; simpa using this
            have := hcell j (by omega)
            rw [Deep.add_add] at this
            rw [this, hcs]
            exact hj
          have : Inhabited Tr := ⟨.mk ⟨0, 0, 0, 0, [], none, 0, none, 0, 0⟩ []⟩
          obtain ⟨tt, htt⟩ := Deep.choose_lt each
          have c0 := (htt 0 (by omega)).2 0 _ rfl
          obtain ⟨b, off, rfl⟩ := add_none (by simpa using c0)
          have hadd : ∀ j, (⟨b, off, none⟩ : Addr).add j = ⟨b, off + j, none⟩ := fun j => by unfold Addr.add; split <;> simp_all
          have hb : b < W.heap.size := by rw [hadd] at c0; exact cell_blk c0
          refine ⟨.mk ⟨x0, x1, x2, x3, rs, q, c, some ⟨b, off, none⟩, len, cap⟩ ((List.range len).map tt), (every_eq _).2 ⟨⟨hr, .inr ⟨b, off, cap, by simp [Tr.f, Tr.ks], hb, by simpa [Tr.ks] using hlc, hcap, fun i t hi => ?_⟩, hfit, hlen⟩, (everyL_iff _).2 fun u hu => ?_⟩, rfl⟩
          · have hi' : ((List.range len).map tt)[i]? = some t := hi
            have hil : i < len := by have := (List.getElem?_eq_some_iff.1 hi').1; simpa using this
            have hqi : tt i = t := by simpa [hil] using hi'
            have hh := (htt i hil).2
            rw [hqi] at hh
            simp only [hadd, ← Nat.add_assoc] at hh
            exact ⟨hh 0 _ rfl, hh 1 _ rfl, hh 2 _ rfl, hh 3 _ rfl, hh 4 _ rfl, hh 5 _ rfl⟩
          · have hu' : u ∈ (List.range len).map tt := hu
            obtain ⟨i, hi, rfl⟩ := List.mem_map.1 hu'
            exact (htt i (List.mem_range.1 hi)).1
theorem cells_mode8 : Try.prog.cellsOf 34 = 2 := by kernel_rfl
theorem cells_bool8 : Try.prog.cellsOf 4 = 1 := by kernel_rfl
set_option maxRecDepth 100000 in
theorem open_node {H : Type} {enc : TypeId × Value → H} {W : World} {base : Nat} {v : Value} {d : DataW H} {p : List MemPlace} (hok : Value.okWide Try.prog W .any base 25 v)
    (h : DataW.Trod enc Try.prog W 0 (fun _ => true) true 25 v d p) (hw : ∀ n ∈ d.weights Try.prog 25, n ≤ reachBytes) : ∃ t : Tr, TA W t ∧ v = .agg #[.int .i64 t.f.k, .int .i64 t.f.n, .int .i64 t.f.mn, .int .i64 t.f.mx, .slice t.f.rq t.f.rs.length t.f.rc, .slice t.f.kq t.f.kl t.f.kc] := by
  obtain ⟨cs, rfl, hsz⟩ := okWide_struct Try.underlying25 hok
  obtain ⟨fuel, hf⟩ := h
  obtain ⟨t, ht, hcs⟩ := open_nodeF fuel _ _ hf hw
  refine ⟨t, ht, ?_⟩
  obtain ⟨l⟩ := cs
  simp [Value.cells] at hcs
  rw [hcs]
set_option maxRecDepth 100000 in
theorem open_mode8 {H : Type} {enc : TypeId × Value → H} {W : World} {base : Nat} {v : Value} {d : DataW H} {p : List MemPlace} (hok : Value.okWide Try.prog W .any base 34 v)
    (h : DataW.Trod enc Try.prog W 0 (fun _ => true) true 34 v d p) : ∃ c f : Bool, v = .agg #[.bool c, .bool f] := by
  obtain ⟨cs, rfl, hsz⟩ := okWide_struct Try.underlying34 hok
  obtain ⟨fuel, hf⟩ := h
  obtain ⟨xs, k, hk, hxy, hcl, hxl, hfs⟩ := DataW.trod_struct Try.underlying34 hf
  rw [cells_mode8] at hcl
  obtain ⟨l⟩ := cs
  simp [Value.cells] at hcl hfs
  match xs, hxl, l, hcl, hfs with
  | [y0, y1], _, [c0, c1], _, hf =>
    have F0 := hf 0 _ rfl
    have F1 := hf 1 _ rfl
    simp [cells_bool8] at F0 F1
    obtain ⟨b0, e0, -⟩ := DataW.trod_bool Try.underlying4 F0
    obtain ⟨b1, e1, -⟩ := DataW.trod_bool Try.underlying4 F1
    cases e0; cases e1
    exact ⟨b0, b1, rfl⟩
end Go.Proofs.Ytlodjinejeajcab
