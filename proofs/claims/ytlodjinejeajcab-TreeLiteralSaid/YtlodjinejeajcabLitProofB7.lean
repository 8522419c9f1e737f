/-
  The document's Literal. The document's Literal: the walk. A tree laid out, as mathematics: its nodes in their order, each with what the document's list says of it.
-/
import Derived.Test.YtlodjinejeajcabLitProofB1
import Derived.Test.YtlodjinejeajcabLitProofB2
import Derived.Test.YtlodjinejeajcabLitProofB6
import Derived.Test.YtlodjinejeajcabC2
namespace Go.Proofs.Ytlodjinejeajcab
open Go Go.RowKit

def un8 (c : Bool) (s : ByteArray) (p : Nat) : Int × Nat := if c then (ch s p, wd s p) else ((bt s p : Int), 1)
theorem bt_idx8 (s : ByteArray) (k : Nat) (h : k < s.size) : ((s[k]'h).toNat : Int) = (bt s k : Int) := by
  have e : s.data.toList[k]? = some (s.data.toList[k]'(by rw [size_list]; exact h)) := List.getElem?_eq_getElem _
  unfold bt
  rw [List.getD_eq_getElem?_getD, e]
  rfl
set_option maxRecDepth 100000 in
set_option maxHeartbeats 1000000 in
theorem runit8 (s : ByteArray) (k : Nat) (c : Bool) (w : World) (hk : k < s.size) (hs : s.size ≤ 2000) :
    Calls Try.prog 30 #[.string s, .int .i64 (k : Int), .bool c] w fun e w' => e = .returned (.tuple #[.int .i64 (un8 c s k).1, .int .i64 ((un8 c s k).2 : Int)]) ∧ Below w.heap.size w w' := by
  cases c with
  | true =>
    have e : un8 true s k = (ch s k, wd s k) := rfl
    rw [e]
    clear e
    have hc := fun W => rNext_c s k W hk (by omega)
    go_enter Try.func30, Try.ntmps30
    go_wp2_with (go_at_call 46; refine (hc _).mono ?_; rintro e w5 ⟨rfl, h5⟩; have X5 : Hid (Below w.heap.size w w5) := h5; clear h5)
    go_ret2
    exact ⟨rfl, X5.out⟩
  | false =>
    have e : un8 false s k = ((bt s k : Int), 1) := rfl
    rw [e]
    clear e
    have hx := bt_idx8 s k hk
    have hlt := bt_lt s k
    have i0 : ¬ (k : Int) < 0 := by omega
    have i1 : ¬ (s.size : Int) ≤ (k : Int) := by omega
    have i2 : (0 : Int) ≤ (k : Int) := by omega
    have i3 : (k : Int) < (s.size : Int) := by omega
    have hw : IntKind.wrap .i64 ((s[k]'hk).toNat : Int) = ((s[k]'hk).toNat : Int) := by rw [IntKind.wrap_i64]; omega
    go_enter Try.func30, Try.ntmps30
    go_wp2
    go_ret2
    refine ⟨?_, Below.refl _ _⟩
    rw [← hx]
    rfl
/-- The units of a text, whatever the mode. -/
def unF (c : Bool) (s : ByteArray) : Nat → Nat → List (Nat × Int)
  | 0, _ => []
  | f + 1, p => if p < s.size then (p, (un8 c s p).1) :: unF c s f (p + (un8 c s p).2) else []
theorem unF_true (s : ByteArray) : ∀ f p, unF true s f p = uFrom s f p
  | 0, p => by simp [unF, uFrom]
  | f + 1, p => by
    rw [unF, uFrom, unF_true s f]
    rfl
theorem unF_false (s : ByteArray) : ∀ f p, s.size ≤ p + f → chs (unF false s f p) = (byL s).drop p
  | 0, p, h => by
    rw [List.drop_eq_nil_of_le (by rw [byL_len]; omega)]
    rfl
  | f + 1, p, h => by
    rw [unF]
    by_cases hp : p < s.size
    · rw [if_pos hp]
      have ih := unF_false s f (p + 1) (by omega)
      have hd : (byL s).drop p = (bt s p : Int) :: (byL s).drop (p + 1) := by
        rw [List.drop_eq_getElem_cons (by rw [byL_len]; exact hp)]
        congr 1
        simp only [byL, List.getElem_map]
        rw [← bt_idx8 s p hp]
        rfl
      rw [hd, ← ih]
      rfl
    · rw [if_neg hp, List.drop_eq_nil_of_le (by rw [byL_len]; omega)]
      rfl
theorem good_chs8 (l : List (Nat × Int)) : good l = (chs l).all fun x => decide (0 ≤ x) := by
  unfold good chs
  rw [List.all_map]
  rfl
/-- Literal's answers by its units. -/
theorem lit_un (c : Bool) (s : ByteArray) : litE c s = (if good (unF c s s.size 0) then 0 else 20) ∧ litL c s = (if good (unF c s s.size 0) then chs (unF c s s.size 0) else []) := by
  cases c with
  | true =>
    rw [unF_true]
    exact ⟨rfl, rfl⟩
  | false =>
    have h := unF_false s s.size 0 (by omega)
    rw [List.drop_zero] at h
    have hg : good (unF false s s.size 0) = true := by
      rw [good_chs8, h]
      refine List.all_eq_true.2 fun x hx => ?_
      simp only [byL] at hx
      obtain ⟨b, -, rfl⟩ := List.mem_map.1 hx
      exact decide_eq_true (by omega)
    rw [hg, h]
    exact ⟨rfl, rfl⟩
theorem un8_pos (c : Bool) (s : ByteArray) (p : Nat) : 1 ≤ (un8 c s p).2 := by
  unfold un8
  cases c
  · exact Nat.le_refl 1
  · exact wd_pos s p
theorem un8_le (c : Bool) (s : ByteArray) (p : Nat) (h : p < s.size) : p + (un8 c s p).2 ≤ s.size ∧ (un8 c s p).2 ≤ 4 ∧ (un8 c s p).1 ≤ 1114111 := by
  unfold un8
  cases c
  · have := bt_lt s p
    simp only [Bool.false_eq_true, if_false]
    omega
  · have h1 := wd_le s p h
    simp only [if_true]
    refine ⟨h1.2, h1.1, ?_⟩
    by_cases hb : bad s p = true
    · rw [(ch_bad hb).1]; omega
    · rw [ch_good (by simpa using hb)]; have := dec_le s p; omega
/-- A set of a character in memory. -/
def SetIs (base : Nat) (W : World) (f : Bool) (y : Int) (u : Tr) : Prop := ∃ C q k, u = setT C q k ∧ RR base W (.slice q C.length k) C ∧ IsC C (oneP f y) ∧ C.length ≤ 1000
theorem SetIs.ta {base : Nat} {W : World} {f : Bool} {y : Int} {u : Tr} (h : SetIs base W f y u) : TA W u ∧ EC f y (er u) ∧ u.f.k = 2 := by
  obtain ⟨C, q, k, rfl, h1, h2, h3⟩ := h
  exact ⟨(setT_ta h1 h2.fit h3).1, ⟨C, by rw [er_eq]; rfl, h2⟩, rfl⟩
theorem SetIs.fr {base : Nat} {W W' : World} {S : Nat → Prop} {f : Bool} {y : Int} {u : Tr} (h : SetIs base W f y u) (hf : Fr S W W') (hs : ∀ k cur, W.heap[k]? = some (.cells cur 55 (0, 0)) → ¬ S k) : SetIs base W' f y u := by
  obtain ⟨C, q, k, rfl, h1, h2, h3⟩ := h
  refine ⟨C, q, k, rfl, h1.fr hf (fun i hi => ?_), h2, h3⟩
  obtain ⟨-, -, cur, hc⟩ := ownsRow_at h1 hi
  exact hs i cur hc
/-- Sets, one of each character. -/
def SetsAre (base : Nat) (W : World) (f : Bool) : List Int → List Tr → Prop
  | [], [] => True
  | y :: l, u :: nk => SetIs base W f y u ∧ SetsAre base W f l nk
  | _, _ => False
theorem SetsAre.snoc {base : Nat} {W : World} {f : Bool} : ∀ {l : List Int} {nk : List Tr} {y : Int} {u : Tr}, SetsAre base W f l nk → SetIs base W f y u → SetsAre base W f (l ++ [y]) (nk ++ [u])
  | [], [], _, _, _, h => ⟨h, trivial⟩
  | [], _ :: _, _, _, h, _ => h.elim
  | _ :: _, [], _, _, h, _ => h.elim
  | _ :: _, _ :: _, _, _, h, k => ⟨h.1, h.2.snoc k⟩
theorem SetsAre.fr {base : Nat} {W W' : World} {S : Nat → Prop} {f : Bool} (hf : Fr S W W') (hs : ∀ k cur, W.heap[k]? = some (.cells cur 55 (0, 0)) → ¬ S k) : ∀ {l : List Int} {nk : List Tr}, SetsAre base W f l nk → SetsAre base W' f l nk
  | [], [], _ => trivial
  | [], _ :: _, h => h.elim
  | _ :: _, [], h => h.elim
  | _ :: _, _ :: _, h => ⟨h.1.fr hf hs, SetsAre.fr hf hs h.2⟩
theorem SetsAre.ecs {base : Nat} {W : World} {f : Bool} : ∀ {l : List Int} {nk : List Tr}, SetsAre base W f l nk → ECs f l (nk.map er) ∧ (∀ u ∈ nk, TA W u ∧ u.f.k = 2) ∧ nk.length = l.length
  | [], [], _ => ⟨trivial, ⟨(fun u hu => by cases hu), rfl⟩⟩
  | [], _ :: _, h => h.elim
  | _ :: _, [], h => h.elim
  | y :: l, u :: nk, h => by
    obtain ⟨h1, h2, h3⟩ := h.2.ecs
    have k := h.1.ta
    refine ⟨⟨k.2.1, h1⟩, fun v hv => ?_, by rw [List.length_cons, List.length_cons, h3]⟩
    rcases List.mem_cons.1 hv with rfl | hv
    · exact ⟨k.1, k.2.2⟩
    · exact h2 v hv
theorem SetIs.foot {base : Nat} {W : World} {f : Bool} {y : Int} {u : Tr} {bz : Nat} {cs : Array Value} (h : SetIs base W f y u) (hb : W.heap[bz]? = some (.cells cs 25 (0, 0))) : Foot (fun k => k ≠ bz) u := by
  obtain ⟨C, q, k, rfl, h1, h2, h3⟩ := h
  refine (every_eq _).2 ⟨⟨fun a e _ hz => ?_, fun a e => (by cases e)⟩, (everyL_iff _).2 fun u hu => by cases hu⟩
  have e' : q = some a := e
  obtain ⟨-, -, cur, hc⟩ := ownsRow_at h1 (g := a.block) (by rw [e']; rfl)
  rw [hz, hb] at hc
  cases hc
theorem SetsAre.foot {base : Nat} {W : World} {f : Bool} {bz : Nat} {cs : Array Value} (hb : W.heap[bz]? = some (.cells cs 25 (0, 0))) : ∀ {l : List Int} {nk : List Tr}, SetsAre base W f l nk → ∀ u ∈ nk, Foot (fun k => k ≠ bz) u
  | [], [], _, u, hu => by cases hu
  | [], _ :: _, h, _, _ => h.elim
  | _ :: _, [], h, _, _ => h.elim
  | y :: l, v :: nk, h, u, hu => by
    rcases List.mem_cons.1 hu with rfl | hu
    · exact h.1.foot hb
    · exact SetsAre.foot hb h.2 u hu
/-- How the document's loop stands. -/
structure UL (w : World) (bm bz : Nat) (c f : Bool) (q : Option Addr) (cc : Nat) (l : List Int) (nk : List Tr) (W : World) : Prop where
  md : W.heap[bm]? = some (.cells #[.bool c, .bool f] 34 (0, 0))
  res : W.heap[bz]? = some (.cells #[.int .i64 0, .int .i64 0, .int .i64 0, .int .i64 0, .slice none 0 0, .slice none 0 0] 25 (0, 0))
  row : W.ownsRow (bz + 1) 25 6 (.slice q nk.length cc) nk.length (cellsK nk)
  kids : SetsAre w.heap.size W f l nk
  bel : Below w.heap.size w W
theorem UL.kept {w W W' : World} {bm bz cc : Nat} {c f : Bool} {q : Option Addr} {l : List Int} {nk : List Tr} (h : UL w bm bz c f q cc l nk W) (hb : Below W.heap.size W W') : UL w bm bz c f q cc l nk W' :=
  ⟨(hb.block _ (lt_of_heap h.md)).trans h.md, (hb.block _ (lt_of_heap h.res)).trans h.res, ownsRow_fr h.row (Fr.of_below (S := fun _ => False) hb) (fun _ _ z => z), h.kids.fr (Fr.of_below (S := fun _ => False) hb) (fun _ _ _ z => z), chain h.bel hb (Nat.le_refl _)⟩
theorem UL.next {w W W' : World} {bm bz cc cc' : Nat} {c f : Bool} {q q' : Option Addr} {l : List Int} {nk : List Tr} {y : Int} {u : Tr} (h : UL w bm bz c f q cc l nk W) (hw : w.heap.size ≤ bz) (hu : SetIs w.heap.size W f y u) (ho : W'.ownsRow (bz + 1) 25 6 (.slice q' (nk.length + 1) cc') (nk.length + 1) (cellsK nk ++ u.f.cells)) (hg : W.grownBy W' (Value.slice q nk.length cc).ownBlock) : UL w bm bz c f q' cc' (l ++ [y]) (nk ++ [u]) W' := by
  have F : Fr (fun k => (Value.slice q nk.length cc).ownBlock = some k) W W' := (Fr.refl _ W).grown hg (fun k hk => hk)
  have hn : ∀ k cur, W.heap[k]? = some (.cells cur 55 (0, 0)) → ¬ (Value.slice q nk.length cc).ownBlock = some k := fun k cur hc hk => ownsRow_not h.row hc (by decide) hk
  refine ⟨(F.block _ (lt_of_heap h.md) (fun e => ownsRow_not h.row h.md (by decide) e)).trans h.md, (F.block _ (lt_of_heap h.res) (fun e => by have := (ownsRow_at h.row e).1; omega)).trans h.res, ?_, (h.kids.fr F hn).snoc (hu.fr F hn), chainF h.bel F (Nat.le_refl _) (fun k hk => by have := (ownsRow_at h.row hk).1; omega)⟩
  rw [List.length_append, cellsK_append, show cellsK [u] = u.f.cells by simp [cellsK]]
  exact ho
end Go.Proofs.Ytlodjinejeajcab
namespace Go.Proofs.Ytlodjinejeajcab
open Go Go.RowKit

theorem ret_rlit {R : Ending → World → Prop} {a : Act} {W : World} {b : Nat} {f : Fl} {x : Int} (h : Six W b 0 f) (ha : a.tmps[4]?.getD undef = .pointer (some ⟨b, 0, none⟩)) (hb : a.tmps[5]?.getD undef = .int .i64 x) (hd : a.defers = []) (hR : R (.returned (.tuple #[.agg #[.int .i64 f.k, .int .i64 f.n, .int .i64 f.mn, .int .i64 f.mx, .slice f.rq f.rs.length f.rc, .slice f.kq f.kl f.kc], .int .i64 x])) W) : bodyPost Try.prog Try.f11 R .ret a W := by
  obtain ⟨z0, z1, z2, z3, z4, z5⟩ := h
  simp only [Nat.zero_add] at z1 z2 z3 z4 z5
  refine bodyPost_ret (v := .tuple #[.agg #[.int .i64 f.k, .int .i64 f.n, .int .i64 f.mn, .int .i64 f.mx, .slice f.rq f.rs.length f.rc, .slice f.kq f.kl f.kc], .int .i64 x]) ?_ hd hR
  simp [results, Try.results11, go_sem, ha, hb, z0, z1, z2, z3, z4, z5]
set_option maxRecDepth 1000000 in
set_option maxHeartbeats 8000000 in
theorem rlit_c (s : ByteArray) (w : World) (c f : Bool) (hs : s.size ≤ 2000) :
    Calls Try.prog 11 #[.string s, .agg #[.bool c, .bool f]] w (LitIs w c f s) := by
  obtain ⟨t0, hi, hz0, hz1, hz2⟩ := info_parts size_node
  have LU := hide (lit_un c s)
  obtain ⟨U, hU⟩ : ∃ U, unF c s s.size 0 = U := ⟨_, rfl⟩
  rw [hU] at LU
  have HU := hide hU
  clear hU
  have B1 : Hid (Below w.heap.size w ((w.alloc (.cells #[.bool c, .bool f] 34)).alloc (.cells #[.int .i64 0, .int .i64 0, .int .i64 0, .int .i64 0, .slice none 0 0, .slice none 0 0] 25))) := ((Below.refl _ _).alloc (Nat.le_refl _) _).alloc (by simp) _
  have M1 : Hid (((w.alloc (.cells #[.bool c, .bool f] 34)).alloc (.cells #[.int .i64 0, .int .i64 0, .int .i64 0, .int .i64 0, .slice none 0 0, .slice none 0 0] 25)).heap[w.heap.size]? = some (.cells #[.bool c, .bool f] 34 (0, 0))) := (Below.heap_alloc _ _ _ (by simp)).trans (alloc_new w _)
  have Z1 : Hid (((w.alloc (.cells #[.bool c, .bool f] 34)).alloc (.cells #[.int .i64 0, .int .i64 0, .int .i64 0, .int .i64 0, .slice none 0 0, .slice none 0 0] 25)).heap[w.heap.size + 1]? = some (.cells #[.int .i64 0, .int .i64 0, .int .i64 0, .int .i64 0, .slice none 0 0, .slice none 0 0] 25 (0, 0))) := (by
    have := alloc_new (w.alloc (.cells #[.bool c, .bool f] 34)) (.cells #[.int .i64 0, .int .i64 0, .int .i64 0, .int .i64 0, .slice none 0 0, .slice none 0 0] 25)
    rwa [World.size_alloc] at this)
  go_enter Try.func11, Try.ntmps11
  go_upto_region 3 with fail
  generalize ((w.alloc (.cells #[.bool c, .bool f] 34)).alloc (.cells #[.int .i64 0, .int .i64 0, .int .i64 0, .int .i64 0, .slice none 0 0, .slice none 0 0] 25)) = W1 at B1 M1 Z1 ⊢
  obtain ⟨bz, hbz⟩ : ∃ bz, w.heap.size + 1 = bz := ⟨_, rfl⟩
  rw [hbz] at Z1 ⊢
  have hwz : w.heap.size ≤ bz := by omega
  clear hbz
  have U1 : Hid (UL w w.heap.size bz c f none 0 (chs []) [] W1) := ⟨M1.out, Z1.out, World.ownsRow_nil _ _ _ _, trivial, B1.out⟩
  clear M1 Z1 B1
  go_loopw [7, 6] (fun i v wr => ∃ (pos fu : Nat) (acc : List (Nat × Int)) (q : Option Addr) (cc : Nat) (nk : List Tr), i = .int .i64 (pos : Int) ∧ v = .slice q nk.length cc ∧ acc ++ unF c s fu pos = U ∧ good acc = true ∧ pos ≤ s.size ∧ s.size ≤ pos + fu ∧ acc.length ≤ pos ∧ UL w w.heap.size bz c f q cc (chs acc) nk wr) (fun i _ _ => s.size - (intOf i).toNat)
  case atStart => exact ⟨0, s.size, [], none, 0, [], rfl, rfl, by rw [List.nil_append]; exact HU.out, rfl, Nat.zero_le _, by omega, Nat.le_refl _, U1.out⟩
  case round =>
    clear U1
    obtain ⟨pos, fu, acc, q, cc, nk, rfl, rfl, hacc, hgood, hps, hpf, hal, hul⟩ := hrel
    have ULr := hide hul
    have HACC := hide hacc
    have HGD := hide hgood
    have hnl : nk.length ≤ 2000 := by
      have h1 := hul.kids.ecs.2.2
      have h2 : (chs acc).length = acc.length := chs_len acc
      omega
    have md0 := cell_row hul.md (i := 0) rfl
    have md1 := cell_row hul.md (i := 1) rfl
    clear hul hacc hgood
    by_cases hp : pos < s.size
    · have i0 : (pos : Int) < (s.size : Int) := by omega
      obtain ⟨fu, rfl⟩ : ∃ f', fu = f' + 1 := ⟨fu - 1, by omega⟩
      have hun := un8_le c s pos hp
      have hpos := un8_pos c s pos
      have RU := hide (runit8 s pos c wr hp hs)
      have hstep : acc ++ (pos, (un8 c s pos).1) :: unF c s fu (pos + (un8 c s pos).2) = U := by
        have := HACC.out
        rw [unF, if_pos hp] at this
        exact this
      obtain ⟨y, hy⟩ : ∃ y, (un8 c s pos).1 = y := ⟨_, rfl⟩
      obtain ⟨n, hn⟩ : ∃ n, (un8 c s pos).2 = n := ⟨_, rfl⟩
      rw [hy, hn] at RU hstep
      rw [hy, hn] at hun
      rw [hn] at hpos
      have HST := hide hstep
      have hy2 : y ≤ 1114111 := hun.2.2
      clear hstep hy hn
      go_upto_region 5 with (go_at_call 30; (with_reducible refine (RU.out).mono ?_); rintro e W2 ⟨rfl, h2⟩; have UL2 := hide (ULr.out.kept h2); clear h2)
      have md2 := cell_row UL2.out.md (i := 1) rfl
      by_cases hyn : y < 0
      · have hb : good U = false := by
          rw [← HST.out]
          unfold good
          rw [List.all_append, List.all_cons, decide_eq_false (show ¬ 0 ≤ y by omega), Bool.false_and, Bool.and_false]
        have RS := UL2.out.res
        have r0 := cell_row RS (i := 0) rfl
        have r1 := cell_row RS (i := 1) rfl
        have r2 := cell_row RS (i := 2) rfl
        have r3 := cell_row RS (i := 3) rfl
        have r4 := cell_row RS (i := 4) rfl
        have r5 := cell_row RS (i := 5) rfl
        have rz := fun z => frz_row RS z
        have L9 := hide (laid_res (bare_ta W2 0) (bare_foot (fun i => bz < i) 0) RS)
        have X9 := hide L9.out.1
        have P9 := hide L9.out.2.2
        unfold put6 at X9 P9
        have HB := hide hb
        have BL := hide UL2.out.bel
        clear hb RS
        go_wp2
        refine ret_rlit (f := bare 0) X9.out rfl rfl rfl (.inl ?_)
        have hE : litE c s = 20 := by rw [LU.out.1, HB.out]; rfl
        exact ⟨by rw [hE]; decide, by rw [hE]; rfl, chainF BL.out P9.out (Nat.le_refl _) (fun k e => by omega)⟩
      · have hyn' : ¬ y < 0 := hyn
        have hyb : 0 ≤ y ∧ y ≤ 1114111 := ⟨by omega, hy2⟩
        have HG := hide (show good (acc ++ [(pos, y)]) = true by
          have := HGD.out
          unfold good at this ⊢
          rw [List.all_append, this, Bool.true_and, List.all_cons, List.all_nil, Bool.and_true]
          exact decide_eq_true hyb.1)
        have HA := hide (show (acc ++ [(pos, y)]) ++ unF c s fu (pos + n) = U by rw [List.append_assoc]; exact HST.out)
        have HPL := hide (show pos + n ≤ s.size ∧ s.size ≤ pos + n + fu ∧ (acc ++ [(pos, y)]).length ≤ pos + n by rw [List.length_append]; simp; omega)
        have hn4 : n ≤ 4 := hun.2.1
        clear hun hy2 hyn HST HACC HGD ULr RU
        go_upto_region 8 with fail
        have K3 : Below W2.heap.size W2 (W2.alloc (.cells #[.int .i64 y, .int .i64 y] 55)) := (Below.refl _ _).alloc (Nat.le_refl _) _
        have UL3 := hide (UL2.out.kept K3)
        have RR3 : Hid (RR w.heap.size (W2.alloc (.cells #[.int .i64 y, .int .i64 y] 55)) (.slice (some ⟨W2.heap.size, 0, none⟩) [(y, y)].length 1) [(y, y)]) := (lit_rr8 W2 [(y, y)] (by simp)).mono UL2.out.bel.size
        have md3 := cell_row UL3.out.md (i := 1) rfl
        clear K3 UL2 md2 md0 md1
        generalize (W2.alloc (.cells #[.int .i64 y, .int .i64 y] 55)) = W3 at UL3 RR3 md3 ⊢
        generalize W2.heap.size = g3 at RR3 ⊢
        cases f with
        | false =>
          have ULW := UL3
          have STW : Hid (SetIs w.heap.size W3 false y (setT [(y, y)] (some ⟨g3, 0, none⟩) 1)) := ⟨_, _, _, rfl, RR3.out, (one_is y hyb).to (fun x => by simp [oneP]), by simp⟩
          have K5 : Below W3.heap.size W3 (W3.alloc (.cells #[.int .i64 2, .int .i64 0, .int .i64 0, .int .i64 0, .slice (some ⟨g3, 0, none⟩) ([(y, y)] : List (Int × Int)).length 1, .slice none 0 0] 25)) := (Below.refl _ _).alloc (Nat.le_refl _) _
          have N5 := hide (six_news (alloc_new W3 (.cells #[.int .i64 2, .int .i64 0, .int .i64 0, .int .i64 0, .slice (some ⟨g3, 0, none⟩) ([(y, y)] : List (Int × Int)).length 1, .slice none 0 0] 25)) (f := (setT [(y, y)] (some ⟨g3, 0, none⟩) 1).f))
          have UL5 := hide (ULW.out.kept K5)
          have ST5 := hide (STW.out.fr (Fr.of_below (S := fun _ => False) K5) (fun _ _ _ z => z))
          have hbs : bz + 1 ≤ (W3.alloc (.cells #[.int .i64 2, .int .i64 0, .int .i64 0, .int .i64 0, .slice (some ⟨g3, 0, none⟩) ([(y, y)] : List (Int × Int)).length 1, .slice none 0 0] 25)).heap.size := Nat.lt_of_lt_of_le (lt_of_heap ULW.out.res) K5.size
          have HBS := hide hbs
          clear K5 hbs
          go_wp2_with (at_builtin; refine wpList_append_own_at _ rfl _ _ 23 rfl (bz + 1) 25 t0 (.agg #[.int .i64 0, .int .i64 0, .int .i64 0, .int .i64 0, .slice none 0 0, .slice none 0 0]) 6 80 und_nodes hi hz0 hz1 hz2 rfl (by decide) (.slice q nk.length cc) nk.length (cellsK nk) rfl UL5.out.row ⟨W3.heap.size, 0, none⟩ 1 1 (setT [(y, y)] (some ⟨g3, 0, none⟩) 1).f.cells rfl rfl N5.out (fun v hv => by simp [setT, Tr.f, Fl.cells] at hv; rcases hv with rfl | rfl | rfl | rfl | rfl | rfl <;> rfl) (by unfold maxLen; omega) (by omega) HBS.out ?_; intro v' w6 hown' hgrow _ _; obtain ⟨q6, cap6, rfl⟩ := ownsRow_shape hown'; have UL6 := hide (UL5.out.next hwz ST5.out hown' hgrow); clear hown' hgrow)
          go_roundw
          case rel => exact ⟨pos + n, fu, acc ++ [(pos, y)], q6, cap6, nk ++ [setT [(y, y)] (some ⟨g3, 0, none⟩) 1], by go_num, by rw [List.length_append]; rfl, HA.out, HG.out, HPL.out.1, HPL.out.2.1, HPL.out.2.2, by rw [show chs (acc ++ [(pos, y)]) = chs acc ++ [y] by simp [chs]]; exact UL6.out⟩
          case measure => simp only [intOf]; omega
        | true =>
          have FC := hide (rfold_c RR3.out.arg (one_is y hyb).fit (by simp))
          go_upto_region 10 with (go_at_call 31; refine (FC.out).mono ?_; rintro e W5 ⟨v5, C, rfl, h51, h52, h53, h54⟩; obtain ⟨q5, k5, rfl⟩ := h51.shape; have X5 := hide h51; have I5 := hide h52; have B5 := hide h54; have hl5 : C.length ≤ 1000 := (by simp at h53; omega); clear h51 h52 h53 h54)
          have ULW := hide (UL3.out.kept B5.out)
          have STW : Hid (SetIs w.heap.size W5 true y (setT C q5 k5)) := ⟨_, _, _, rfl, X5.out.mono UL3.out.bel.size, I5.out.to (fun x => by simp [oneP]), hl5⟩
          clear FC X5 I5 B5 UL3 RR3 md3
          have K5 : Below W5.heap.size W5 (W5.alloc (.cells #[.int .i64 2, .int .i64 0, .int .i64 0, .int .i64 0, .slice q5 C.length k5, .slice none 0 0] 25)) := (Below.refl _ _).alloc (Nat.le_refl _) _
          have N5 := hide (six_news (alloc_new W5 (.cells #[.int .i64 2, .int .i64 0, .int .i64 0, .int .i64 0, .slice q5 C.length k5, .slice none 0 0] 25)) (f := (setT C q5 k5).f))
          have UL5 := hide (ULW.out.kept K5)
          have ST5 := hide (STW.out.fr (Fr.of_below (S := fun _ => False) K5) (fun _ _ _ z => z))
          have hbs : bz + 1 ≤ (W5.alloc (.cells #[.int .i64 2, .int .i64 0, .int .i64 0, .int .i64 0, .slice q5 C.length k5, .slice none 0 0] 25)).heap.size := Nat.lt_of_lt_of_le (lt_of_heap ULW.out.res) K5.size
          have HBS := hide hbs
          clear K5 hbs
          go_wp2_with (at_builtin; refine wpList_append_own_at _ rfl _ _ 23 rfl (bz + 1) 25 t0 (.agg #[.int .i64 0, .int .i64 0, .int .i64 0, .int .i64 0, .slice none 0 0, .slice none 0 0]) 6 80 und_nodes hi hz0 hz1 hz2 rfl (by decide) (.slice q nk.length cc) nk.length (cellsK nk) rfl UL5.out.row ⟨W5.heap.size, 0, none⟩ 1 1 (setT C q5 k5).f.cells rfl rfl N5.out (fun v hv => by simp [setT, Tr.f, Fl.cells] at hv; rcases hv with rfl | rfl | rfl | rfl | rfl | rfl <;> rfl) (by unfold maxLen; omega) (by omega) HBS.out ?_; intro v' w6 hown' hgrow _ _; obtain ⟨q6, cap6, rfl⟩ := ownsRow_shape hown'; have UL6 := hide (UL5.out.next hwz ST5.out hown' hgrow); clear hown' hgrow)
          go_roundw
          case rel => exact ⟨pos + n, fu, acc ++ [(pos, y)], q6, cap6, nk ++ [setT C q5 k5], by go_num, by rw [List.length_append]; rfl, HA.out, HG.out, HPL.out.1, HPL.out.2.1, HPL.out.2.2, by rw [show chs (acc ++ [(pos, y)]) = chs acc ++ [y] by simp [chs]]; exact UL6.out⟩
          case measure => simp only [intOf]; omega
    · have i0 : ¬ (pos : Int) < (s.size : Int) := by omega
      have hU : acc = U := by
        have h := HACC.out
        have h0 : unF c s fu pos = [] := by
          cases fu with
          | zero => rfl
          | succ f => rw [unF, if_neg hp]
        rwa [h0, List.append_nil] at h
      have hg : good U = true := by rw [← hU]; exact HGD.out
      have hE : litE c s = 0 := by rw [LU.out.1, hg]; rfl
      have hLL : litL c s = chs acc := by rw [LU.out.2, hg, hU]; rfl
      obtain ⟨h1, h2, h3⟩ := ULr.out.kids.ecs
      have RC := hide (rcat_c (row_arg ULr.out.row) (fun u hu => (h2 u hu).1) (fun u hu => (h2 u hu).2) (by omega))
      have HEC := hide (show ECs f (litL c s) (nk.map er) by rw [hLL]; exact h1)
      have HE := hide hE
      have LZ := lt_of_heap ULr.out.res
      have HFT := hide (ULr.out.kids.foot ULr.out.res)
      have CKNE : ∀ (V : World) (F : Fl), CKeep (fun k => k ≠ bz) V (put6 V bz 0 F) := fun V F => (put6_fr V bz 0 F).ckeep (fun k e z => z e)
      clear hU hg hE hLL h1 h2 h3 HACC HGD
      go_upto_region 13 with (go_at_call 32; (with_reducible refine (RC.out).mono ?_); rintro e w9 ⟨t9, rfl, h91, h92, h9f, h93⟩; have R9 : w9.heap[bz]? = some (.cells #[.int .i64 0, .int .i64 0, .int .i64 0, .int .i64 0, .slice none 0 0, .slice none 0 0] 25 (0, 0)) := (h93.block _ LZ).trans ULr.out.res; have r0 := cell_row R9 (i := 0) rfl; have r1 := cell_row R9 (i := 1) rfl; have r2 := cell_row R9 (i := 2) rfl; have r3 := cell_row R9 (i := 3) rfl; have r4 := cell_row R9 (i := 4) rfl; have r5 := cell_row R9 (i := 5) rfl; have rz := fun z => frz_row R9 z; have E9 := hide h92; have T9 := hide (h91.ckN (h9f (fun k => k ≠ bz) (fun k hk e => by omega) HFT.out) (CKNE w9 t9.f)); have P9 := hide (put6_fr w9 bz 0 t9.f); have X9 := hide (put6_six (b := bz) (o := 0) (f := ⟨0, 0, 0, 0, [], none, 0, none, 0, 0⟩) (g := t9.f) ⟨r0, r1, r2, r3, r4, r5⟩); unfold put6 at X9; have BL := hide (chain ULr.out.bel h93 (Nat.le_refl _)); clear h91 h92 h93)
      have B9 : Below w.heap.size w (put6 w9 bz 0 t9.f) := chainF BL.out P9.out (Nat.le_refl _) (fun k e => by omega)
      refine ret_rlit X9.out rfl rfl rfl (.inr ⟨HE.out, t9, nk.map er, rfl, T9.out, E9.out, HEC.out, B9⟩)
end Go.Proofs.Ytlodjinejeajcab
namespace Go.Proofs.Ytlodjinejeajcab
open Go Go.RowKit

abbrev Zl := El × Nat
def arP : Way → Int | [] => 0 | (par, _) :: _ => par.f.k
def fiP : Way → Bool | [] => true | (_, i) :: _ => (i : Int) == 0
def laP : Way → Bool | [] => true | (par, i) :: _ => (i : Int) == (par.ks.length : Int) - 1
def brP : Way → Bool | [] => true | (par, _) :: r => if par.f.k = 7 ∨ par.f.k = 6 then true else if par.f.k = 5 then brP r else false
/-- A place's twelve cells. -/
def zc (z : Zl) : List Value := z.1.2.f.cells ++ [.int .i64 ((z.1.1.length : Int) + 1), .int .i64 (arP z.1.1), .bool (fiP z.1.1), .bool (laP z.1.1), .bool (brP z.1.1), .int .i64 (z.2 : Int)]
theorem zc_len (z : Zl) : (zc z).length = 12 := by simp [zc, Fl.cells]
def cellsZ (l : List Zl) : List Value := l.flatMap zc
theorem cellsZ_cons (z : Zl) (l : List Zl) : cellsZ (z :: l) = zc z ++ cellsZ l := by simp [cellsZ]
theorem cellsZ_append (a b : List Zl) : cellsZ (a ++ b) = cellsZ a ++ cellsZ b := by simp [cellsZ]
theorem cellsZ_length (l : List Zl) : (cellsZ l).length = l.length * 12 := by
  induction l with
  | nil => rfl
  | cons z l ih => rw [cellsZ_cons, List.length_append, ih, zc_len, List.length_cons]; omega
theorem cellsZ_get : ∀ (l : List Zl) (i j : Nat) (z : Zl), l[i]? = some z → j < 12 → (cellsZ l)[i * 12 + j]? = (zc z)[j]?
  | y :: l, 0, j, z, h, hj => by
    simp at h
    subst h
    rw [cellsZ_cons, Nat.zero_mul, Nat.zero_add, List.getElem?_append_left (by rw [zc_len]; exact hj)]
  | y :: l, i + 1, j, z, h, hj => by
    have ih := cellsZ_get l i j z (by simpa using h) hj
    rw [cellsZ_cons, List.getElem?_append_right (by rw [zc_len]; omega), ← ih, zc_len]
    congr 1
    omega
theorem cellsZ_set : ∀ (l : List Zl) (i : Nat) (x : El) (a b : Nat), l[i]? = some (x, a) → (cellsZ l).set (i * 12 + 11) (.int .i64 (b : Int)) = cellsZ (l.set i (x, b))
  | y :: l, 0, x, a, b, h => by
    simp at h
    subst h
    rw [List.set_cons_zero, cellsZ_cons, cellsZ_cons, Nat.zero_mul, Nat.zero_add, List.set_append_left _ _ (by rw [zc_len]; omega)]
    congr 1
  | y :: l, i + 1, x, a, b, h => by
    have ih := cellsZ_set l i x a b (by simpa using h)
    rw [List.set_cons_succ, cellsZ_cons, cellsZ_cons, List.set_append_right _ _ (by rw [zc_len]; omega), ← ih, zc_len]
    congr 2
    omega
/-- The nodes behind a place, each with where it ends. -/
def tl (most : Nat) : Nat → List El → List Zl
  | _, [] => []
  | k, x :: r => (x, min (k + x.2.sz) most) :: tl most (k + 1) r
theorem tl_append (most : Nat) : ∀ (a b : List El) (k : Nat), tl most k (a ++ b) = tl most k a ++ tl most (k + a.length) b
  | [], b, k => rfl
  | x :: a, b, k => by
    rw [List.cons_append, tl, tl, tl_append most a b (k + 1), List.cons_append, List.length_cons]
    congr 3
    omega
theorem tl_length (most : Nat) : ∀ (a : List El) (k : Nat), (tl most k a).length = a.length
  | [], k => rfl
  | x :: a, k => by rw [tl, List.length_cons, tl_length most a, List.length_cons]
theorem tl_map (most : Nat) : ∀ (a : List El) (k : Nat), (tl most k a).map (·.1) = a
  | [], k => rfl
  | x :: a, k => by rw [tl, List.map_cons, tl_map most a]
/-- What lay makes of a list. -/
def layS (most : Nat) (E : List Zl) (x : El) : List Zl := E ++ (tl most E.length (pp x.1 x.2)).take (most - E.length)
/-- How lay's loop stands. -/
def layI (most : Nat) (E : List Zl) (p : Way) (t : Tr) (j : Nat) : List Zl := E ++ (((p, t), 0) :: tl most (E.length + 1) (pps t p 0 (t.ks.take j))).take (most - E.length)
theorem layI_nil {most : Nat} {E : List Zl} {p : Way} {t : Tr} (h : E.length < most) : layI most E p t 0 = E ++ [((p, t), 0)] := by
  unfold layI
  rw [List.take_zero, pps_nil]
  congr 1
  rw [show most - E.length = (most - E.length - 1) + 1 by omega, List.take_succ_cons]
  simp [tl]
theorem layI_len {most : Nat} {E : List Zl} {p : Way} {t : Tr} {j : Nat} (h : E.length < most) : E.length < (layI most E p t j).length ∧ (layI most E p t j).length ≤ most ∧ (layI most E p t j).length = E.length + min (most - E.length) (1 + (pps t p 0 (t.ks.take j)).length) := by
  have : (layI most E p t j).length = E.length + min (most - E.length) (1 + (pps t p 0 (t.ks.take j)).length) := by
    unfold layI
    rw [List.length_append, List.length_take, List.length_cons, tl_length]
    congr 2
    omega
  refine ⟨?_, ?_, this⟩
  · rw [this]; omega
  · rw [this]; omega
theorem layI_head {most : Nat} {E : List Zl} {p : Way} {t : Tr} {j : Nat} (h : E.length < most) : (layI most E p t j)[E.length]? = some ((p, t), 0) := by
  unfold layI
  rw [List.getElem?_append_right (Nat.le_refl _), Nat.sub_self, show most - E.length = (most - E.length - 1) + 1 by omega, List.take_succ_cons]
  rfl
theorem take_next8 (most : Nat) (E : List Zl) (z : Zl) (A B : List El) (hf : E.length + (1 + A.length) < most) :
    (E ++ (z :: tl most (E.length + 1) A)) ++ (tl most (E.length + (1 + A.length)) B).take (most - (E.length + (1 + A.length))) = E ++ (z :: tl most (E.length + 1) (A ++ B)).take (most - E.length) := by
  rw [tl_append, List.append_assoc, ← List.cons_append]
  congr 1
  have hl : (z :: tl most (E.length + 1) A).length = 1 + A.length := by rw [List.length_cons, tl_length]; omega
  have h1 : ((z :: tl most (E.length + 1) A) ++ tl most (E.length + 1 + A.length) B).take (most - E.length) = (z :: tl most (E.length + 1) A) ++ (tl most (E.length + 1 + A.length) B).take (most - E.length - (1 + A.length)) := by
    rw [List.take_append, List.take_of_length_le (by rw [hl]; omega), hl]
  rw [h1, show E.length + 1 + A.length = E.length + (1 + A.length) by omega, show most - E.length - (1 + A.length) = most - (E.length + (1 + A.length)) by omega]
theorem layI_next {most : Nat} {E : List Zl} {p : Way} {t u : Tr} {j : Nat} (h : E.length < most) (hu : t.ks[j]? = some u) (hl : (layI most E p t j).length < most) : layS most (layI most E p t j) ((t, j) :: p, u) = layI most E p t (j + 1) := by
  have hlen := (layI_len (p := p) (t := t) (j := j) h).2.2
  have e1 : layI most E p t j = E ++ (((p, t), 0) :: tl most (E.length + 1) (pps t p 0 (t.ks.take j))) := by
    unfold layI
    rw [List.take_of_length_le (by rw [List.length_cons, tl_length]; omega)]
  have hfull : (layI most E p t j).length = E.length + (1 + (pps t p 0 (t.ks.take j)).length) := by omega
  have e2 : layI most E p t (j + 1) = E ++ (((p, t), 0) :: tl most (E.length + 1) (pps t p 0 (t.ks.take j) ++ pp ((t, j) :: p) u)).take (most - E.length) := by
    unfold layI
    rw [pps_take hu]
  rw [e2]
  unfold layS
  rw [hfull, ← take_next8 most E _ _ _ (by omega), ← e1]
theorem layI_full {most : Nat} {E : List Zl} {p : Way} {t : Tr} {j : Nat} (h : E.length < most) (hl : ¬ (layI most E p t j).length < most) : layI most E p t j = layI most E p t t.ks.length := by
  have hlen := layI_len (p := p) (t := t) (j := j) h
  have hbig : most - E.length ≤ 1 + (pps t p 0 (t.ks.take j)).length := by omega
  unfold layI
  congr 1
  have hp : pps t p 0 (t.ks.take j) <+: pps t p 0 (t.ks.take t.ks.length) := by
    rw [List.take_length]
    exact pps_pre j
  obtain ⟨r, hr⟩ := hp
  rw [← hr, tl_append, ← List.cons_append, List.take_append_of_le_length (by rw [List.length_cons, tl_length]; omega)]
theorem layI_end {most : Nat} {E : List Zl} {p : Way} {t : Tr} (h : E.length < most) : (layI most E p t t.ks.length).set E.length ((p, t), (layI most E p t t.ks.length).length) = layS most E (p, t) := by
  have hlen := (layI_len (p := p) (t := t) (j := t.ks.length) h).2.2
  have hsz : 1 + (pps t p 0 (t.ks.take t.ks.length)).length = t.sz := by
    have := pp_len t p
    rw [pp_eq, List.length_cons] at this
    rw [List.take_length]
    omega
  rw [hlen, hsz]
  unfold layI layS
  rw [List.set_append_right _ _ (Nat.le_refl _), Nat.sub_self, show most - E.length = (most - E.length - 1) + 1 by omega, List.take_succ_cons, List.set_cons_zero]
  congr 1
  show _ = (tl most E.length (pp p t)).take _
  rw [pp_eq, tl, List.take_succ_cons, List.take_length]
  congr 2
  show _ = min (E.length + t.sz) most
  omega
end Go.Proofs.Ytlodjinejeajcab
