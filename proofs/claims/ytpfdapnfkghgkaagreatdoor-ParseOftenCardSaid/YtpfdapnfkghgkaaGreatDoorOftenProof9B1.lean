/-
  A sign behind a group: mathematics. ParseGroup. ParseGroup of long texts, of patterns that are refused; of any. ParseOften. (mkoften9.py writes it.) ParseOften. (mkoften9.py writes it.) ParseOften. (mkoften9.py writes it.)
-/
import Derived.Test.YtpfdapnfkghgkaaGreatDoorOftenProof9B0
import Derived.Test.YtpfdapnfkghgkaaGreatDoorC17
import Derived.Deep.RegionHeld
namespace Go.Proofs.YtpfdapnfkghgkaaGreatDoor
open Go Go.RowKit

theorem lastK_cl {T : List Tp} {L : List Sgn} (h : sgns 0 T = L ++ [.cl]) (hk : ∀ t ∈ T, 1 ≤ t.1.kind ∧ t.1.kind ≤ 8) : lastK T = 4 := by
  cases hT : T.reverse with
  | nil =>
    rw [List.reverse_eq_nil_iff] at hT
    subst hT
    cases L <;> cases h
  | cons t R =>
    have e : T = R.reverse ++ [t] := by
      have := congrArg List.reverse hT
      rw [List.reverse_reverse, List.reverse_cons] at this
      exact this
    have hk' := hk t (by rw [e]; simp)
    rw [e, sgns_append] at h
    have h2 : sgT (gcnt 0 R.reverse) t.1 = .cl := by
      have := congrArg List.getLast? h
      rw [show sgns (gcnt 0 R.reverse) [t] = [sgT (gcnt 0 R.reverse) t.1] from rfl, List.getLast?_concat, List.getLast?_concat] at this
      exact Option.some.inj this
    have h3 := skd_is (gcnt 0 R.reverse) t.1 hk'.1 hk'.2
    rw [h2] at h3
    rw [e]
    simp only [lastK, List.getLast?_concat]
    exact h3.symm
theorem takes_sign {m : Md} {a s1 s' : ByteArray} {n : Nat} {k : Ps} {T : List Tp} {R : List UInt8} {lo hi : Int} (h : Takes m s1 (.grp n k) T) (h1 : s1.data.toList = [92, 40] ++ a.data.toList ++ [92, 41]) (hs : s'.data.toList = s1.data.toList ++ R) (hR : R ≠ []) (hz : a.size ≤ 900) (hR2 : R.length ≤ 100)
    (ht : tok m s' s1.size 4 = .ok (repT lo hi, s'.size)) (hd : (Ps.grp n k).dp ≤ 39) : ∃ T', Takes m s' (.rep lo hi (.grp n k)) T' := by
  have hsz1 : s1.size = a.size + 4 := by rw [← size_list, h1]; simp
  have hsz : s'.size = s1.size + R.length := by rw [← size_list, hs, List.length_append, size_list]
  have hb : bt s1 (s1.size - 2) = 92 ∧ bt s1 (s1.size - 1) = 41 := by
    unfold bt
    rw [List.getD_eq_getElem?_getD, List.getD_eq_getElem?_getD, h1, List.getElem?_append_right (by simp; omega), List.getElem?_append_right (by simp; omega)]
    simp only [List.length_append, size_list, List.length_cons, List.length_nil]
    rw [show s1.size - 2 - (0 + 1 + 1 + a.size) = 0 by omega, show s1.size - 1 - (0 + 1 + 1 + a.size) = 1 by omega]
    exact ⟨rfl, rfl⟩
  have hl4 : lastK T = 4 := lastK_cl (L := .op n :: pfl k) (by rw [← h.pfl, pfl]; rfl) (lex_kinds h.lex)
  have hl := lex_sign h.lex hs (by omega) (by omega) hb (by rw [hl4]; exact ht) hR
  have hp : pfl (.rep lo hi (.grp n k)) = sgns 0 (T ++ [(repT lo hi, s1.size, s'.size)]) := by
    rw [sgns_append, ← h.pfl, pfl]
    rfl
  have hw : wf (.rep lo hi (.grp n k)) := by rw [wf]; exact ⟨rfl, h.wf⟩
  have hk1 : hk 0 [] [] (pfl (.rep lo hi (.grp n k))) := by rw [pfl]; exact hk_end h.hk
  exact ⟨_, hl, hk_held (lex_kinds hl) (by rw [← hp]; exact hk1), hw, hp, by rw [Ps.dp]; omega, by rw [Ps.sz]; have := h.small; omega⟩
theorem tok_star {m : Md} {s1 s' : ByteArray} (hs : s'.data.toList = s1.data.toList ++ [42]) : tok m s' s1.size 4 = .ok (repT 0 (-1), s'.size) := by
  have h0 : ∀ t, sees s' s1.size t = t.isPrefixOf [42] := fun t => by
    have := sees_in (s := s') (A := s1.data.toList) (B := [42]) hs t
    rwa [size_list] at this
  have hsz : s'.size = s1.size + 1 := by rw [← size_list, hs]; simp
  unfold tok
  rw [h0, h0, if_neg (by decide), if_pos (by decide), hsz]
theorem tok_intv {m : Md} {s1 s' : ByteArray} {lo hi : Nat} (h1 : lo ≤ hi) (h2 : hi ≤ 255) (hs : s'.data.toList = s1.data.toList ++ ([92, 123] ++ natD lo ++ [44] ++ natD hi ++ [92, 125])) : tok m s' s1.size 4 = .ok (repT lo hi, s'.size) := by
  have hsz : s'.size = s1.size + 2 + (natD lo).length + 1 + (natD hi).length + 2 := by rw [← size_list, hs]; simp; omega
  have hb : bt s' (s1.size + 1) = 123 := by
    unfold bt
    rw [List.getD_eq_getElem?_getD, hs, List.getElem?_append_right (by rw [size_list]; omega), size_list, show s1.size + 1 - s1.size = 1 by omega]
    rfl
  have h92 : sees s' s1.size [92] = true := by
    have := sees_in (s := s') (A := s1.data.toList) (B := _) hs [92]
    rw [size_list] at this
    rw [this]
    rfl
  have d1 : digs s' (s1.size + 2) = natD lo := by
    have := digs_at (s := s') (A := s1.data.toList ++ [92, 123]) (B := natD lo ++ 44 :: (natD hi ++ [92, 125])) (by rw [hs]; simp)
    rw [List.length_append, size_list] at this
    rw [show s1.size + 2 = s1.size + [(92 : UInt8), 123].length from rfl, this, takeWhile_all 44 (by decide) _ _ (natD_dig lo lo (Nat.le_refl _))]
  have e1 : ivQ s' s1.size = s1.size + 2 + (natD lo).length := by unfold ivQ; rw [d1]
  have c1 : sees s' (ivQ s' s1.size) [44] = true := by
    have := sees_in (s := s') (A := s1.data.toList ++ [92, 123] ++ natD lo) (B := 44 :: (natD hi ++ [92, 125])) (by rw [hs]; simp) [44]
    rw [List.length_append, List.length_append, size_list] at this
    rw [e1, show s1.size + 2 + (natD lo).length = s1.size + [(92 : UInt8), 123].length + (natD lo).length from rfl, this]
    rfl
  have d2 : digs s' (ivQ s' s1.size + 1) = natD hi := by
    have := digs_at (s := s') (A := s1.data.toList ++ [92, 123] ++ natD lo ++ [44]) (B := natD hi ++ 92 :: [125]) (by rw [hs]; simp)
    rw [List.length_append, List.length_append, List.length_append, size_list] at this
    rw [e1, show s1.size + 2 + (natD lo).length + 1 = s1.size + [(92 : UInt8), 123].length + (natD lo).length + [(44 : UInt8)].length from rfl, this, takeWhile_all 92 (by decide) _ _ (natD_dig hi hi (Nat.le_refl _))]
  have e2 : ivR s' s1.size = s1.size + 2 + (natD lo).length + 1 + (natD hi).length := by unfold ivR; rw [if_pos c1, d2, e1]
  have c2 : sees s' (ivR s' s1.size) [92, 125] = true := by
    have := sees_in (s := s') (A := s1.data.toList ++ [92, 123] ++ natD lo ++ [44] ++ natD hi) (B := [92, 125]) (by rw [hs]; simp) [92, 125]
    rw [List.length_append, List.length_append, List.length_append, List.length_append, size_list] at this
    rw [e2, show s1.size + 2 + (natD lo).length + 1 + (natD hi).length = s1.size + [(92 : UInt8), 123].length + (natD lo).length + [(44 : UInt8)].length + (natD hi).length from rfl, this]
    rfl
  have n1 : numL (natD lo) = lo := by rw [natD_num lo lo (Nat.le_refl _)]; omega
  have n2 : numL (natD hi) = hi := by rw [natD_num hi hi (Nat.le_refl _)]; omega
  have p1 := natD_pos lo
  have p2 := natD_pos hi
  have e3 : ivB s' s1.size = (hi : Int) := by unfold ivB; rw [if_pos c1, d2, if_neg (by omega), n2]
  unfold tok
  rw [if_pos h92]
  unfold esc
  rw [if_neg (by omega), hb, if_neg (by decide), if_neg (by decide), if_neg (by decide), if_neg (by decide), if_pos (by decide), if_neg (by decide), if_neg (by decide), if_neg (by decide)]
  unfold intv
  rw [d1, c2, n1, e3, if_neg (by rintro (q | q); omega; cases q), if_neg (by omega), e2, hsz]
end Go.Proofs.YtpfdapnfkghgkaaGreatDoor
namespace Go.Proofs.YtpfdapnfkghgkaaGreatDoor
open Go Go.RowKit
attribute [local go_sem] ext_cell

abbrev grpS (a : ByteArray) : ByteArray := ⟨#[92, 40]⟩ ++ a ++ ⟨#[92, 41]⟩
abbrev orS (a b : ByteArray) : ByteArray := a ++ ⟨#[92, 124]⟩ ++ b
/-- A node's box and the mode's, as cells. -/
def Sees6 (W : World) (b : Nat) (f : Fl) : Prop := b < W.heap.size ∧ W.cell? ⟨b, 0, none⟩ = some (.int .i64 f.k) ∧ W.cell? ⟨b, 1, none⟩ = some (.int .i64 f.n) ∧ W.cell? ⟨b, 2, none⟩ = some (.int .i64 f.mn) ∧ W.cell? ⟨b, 3, none⟩ = some (.int .i64 f.mx) ∧ W.cell? ⟨b, 4, none⟩ = some (.slice f.rq f.rs.length f.rc) ∧ W.cell? ⟨b, 5, none⟩ = some (.slice f.kq f.kl f.kc)
def SeesM (W : World) (b : Nat) (m : Md) : Prop := b < W.heap.size ∧ W.cell? ⟨b, 0, none⟩ = some (.bool m.c) ∧ W.cell? ⟨b, 1, none⟩ = some (.bool m.f)
theorem Sees6.kept {W W' : World} {b : Nat} {f : Fl} (h : Sees6 W b f) (hb : Below W.heap.size W W') : Sees6 W' b f := by
  obtain ⟨l, c0, c1, c2, c3, c4, c5⟩ := h
  exact ⟨Nat.lt_of_lt_of_le l hb.size, (hb.cell (p := ⟨b, 0, none⟩) l).trans c0, (hb.cell (p := ⟨b, 1, none⟩) l).trans c1, (hb.cell (p := ⟨b, 2, none⟩) l).trans c2, (hb.cell (p := ⟨b, 3, none⟩) l).trans c3, (hb.cell (p := ⟨b, 4, none⟩) l).trans c4, (hb.cell (p := ⟨b, 5, none⟩) l).trans c5⟩
theorem SeesM.kept {W W' : World} {b : Nat} {m : Md} (h : SeesM W b m) (hb : Below W.heap.size W W') : SeesM W' b m :=
  ⟨Nat.lt_of_lt_of_le h.1 hb.size, (hb.cell (p := ⟨b, 0, none⟩) h.1).trans h.2.1, (hb.cell (p := ⟨b, 1, none⟩) h.1).trans h.2.2⟩
theorem sees6_new (W : World) (f : Fl) : Sees6 (W.alloc (.cells #[.int .i64 f.k, .int .i64 f.n, .int .i64 f.mn, .int .i64 f.mx, .slice f.rq f.rs.length f.rc, .slice f.kq f.kl f.kc] 28)) W.heap.size f := by
  have N : BoxN (W.alloc (.cells #[.int .i64 f.k, .int .i64 f.n, .int .i64 f.mn, .int .i64 f.mx, .slice f.rq f.rs.length f.rc, .slice f.kq f.kl f.kc] 28)) W.heap.size f := alloc_new W _
  obtain ⟨c0, c1, c2, c3, c4, c5⟩ := N.six
  simp only [Nat.zero_add] at c1 c2 c3 c4 c5
  exact ⟨lt_of_heap N, c0, c1, c2, c3, c4, c5⟩
theorem seesM_new (W : World) (m : Md) : SeesM (boxM9 W m) W.heap.size m := ⟨lt_of_heap (alloc_new W _), cell_row (alloc_new W _) (i := 0) rfl, cell_row (alloc_new W _) (i := 1) rfl⟩
theorem grp_see {W : World} {t : Tr} {x : Ps} (h : TA W t) (he : er t = te (.grp 1 x)) : t.f.k = 7 ∧ t.f.n = 1 ∧ t.f.kl = 1 ∧ ∃ g off, t.f.kq = some ⟨g, off, none⟩ ∧ g < W.heap.size ∧ ∃ u, TA W u ∧ er u = te x ∧ Six W g off u.f := by
  rw [te] at he
  obtain ⟨f1, f2, -, -, -, f6⟩ := er_open he
  obtain ⟨u, hk, hu⟩ := map_one f6
  have hn := h.node
  have hkl := hn.kl
  rw [hk] at hkl
  refine ⟨f1, f2, hkl, ?_⟩
  rcases hn.k with ⟨p, cap, -, e, -⟩ | ⟨g, off, cap, e, hg, -, -, hs⟩
  · rw [hk] at e; cases e
  · injection e with e1
    exact ⟨g, off, e1, hg, u, h.kid (by rw [hk]; simp), hu, by have := hs 0 u (by rw [hk]; rfl); simpa using this⟩
/-- What Groups and Depth answer of a tree that Parse told. -/
theorem groups_of {W : World} {t : Tr} {x : Ps} (h : TA W t) (he : er t = te x) (hw : wf x) (hs : x.sz ≤ 2000) : Calls Tryz.prog 12 #[.agg #[.int .i64 t.f.k, .int .i64 t.f.n, .int .i64 t.f.mn, .int .i64 t.f.mx, .slice t.f.rq t.f.rs.length t.f.rc, .slice t.f.kq t.f.kl t.f.kc]] W fun e w' => e = .returned (.int .i64 (nop (pfl x) : Int)) ∧ Below W.heap.size W w' := by
  have := groups_c h
  rw [if_neg (by rw [pp_len, ← er_sz, he, te_sz]; omega), grp_is x hw t [] he] at this
  exact this
theorem depth_of {W : World} {t : Tr} {x : Ps} (h : TA W t) (he : er t = te x) (hs : x.sz ≤ 2000) : Calls Tryz.prog 13 #[.agg #[.int .i64 t.f.k, .int .i64 t.f.n, .int .i64 t.f.mn, .int .i64 t.f.mx, .slice t.f.rq t.f.rs.length t.f.rc, .slice t.f.kq t.f.kl t.f.kc]] W fun e w' => e = .returned (.int .i64 (x.dp : Int)) ∧ Below W.heap.size W w' := by
  have := depth_c h
  rw [if_neg (by rw [pp_len, ← er_sz, he, te_sz]; omega), deep_is x t [] he] at this
  simpa using this
/-- The state behind the two parses. -/
structure GSt (w : World) (m : Md) (bm bx by_ : Nat) (tx ty : Tr) (W0 : World) : Prop where
  bel : Below w.heap.size w W0
  sm : SeesM W0 bm m
  sx : Sees6 W0 bx tx.f
  sy : Sees6 W0 by_ ty.f
  tx : TA W0 tx
  ty : TA W0 ty
set_option maxRecDepth 100000 in
set_option maxHeartbeats 8000000 in
theorem group_ok {w : World} (hG : Glb w) (a b : ByteArray) (m : Md) {xa xb : Ps} (hsz : a.size + b.size ≤ 900) (hwa : wf xa) (hwb : wf xb) (hza : xa.sz ≤ 1900) (hzb : xb.sz ≤ 1900) (hzo : (orP xa xb).sz ≤ 2000)
    (ha : ∀ W, Below w.heap.size w W → Calls Tryz.prog 9 #[.string a, .agg #[.bool m.c, .bool m.f]] W (ParseOk W xa)) (hb : ∀ W, Below w.heap.size w W → Calls Tryz.prog 9 #[.string b, .agg #[.bool m.c, .bool m.f]] W (ParseOk W xb))
    (hg : nop (pfl xa) = 0 → xa.dp < 40 → ∀ W, Below w.heap.size w W → Calls Tryz.prog 9 #[.string (grpS a), .agg #[.bool m.c, .bool m.f]] W (ParseOk W (.grp 1 xa)))
    (ho : nop (pfl xa) = 0 → nop (pfl xb) = 0 → xa.dp < 40 → xb.dp < 40 → ∀ W, Below w.heap.size w W → Calls Tryz.prog 9 #[.string (orS a b), .agg #[.bool m.c, .bool m.f]] W (ParseOk W (orP xa xb))) :
    Calls Tryz.prog 4 #[.string a, .string b, .agg #[.bool m.c, .bool m.f]] w fun e w' => e = .returned (.bool true) ∧ Below w.heap.size w w' := by
  have BX : Hid (Below w.heap.size w (boxM9 w m)) := (Below.refl _ _).alloc (Nat.le_refl _) _
  have HE := hide (examples9_c (hG.kept BX.out))
  have HA := hide ha
  have HB := hide hb
  have HG := hide hg
  have HO := hide ho
  have M0 := hide (seesM_new w m)
  have n900 : ¬ (900 : Int) < (a.size : Int) + (b.size : Int) := by omega
  have zs0 : ¬ 9223372036854775807 < 2 + a.size := by omega
  have zs1 : ¬ 9223372036854775807 < 2 + a.size + 2 := by omega
  have zs2 : ¬ 9223372036854775807 < a.size + 2 := by omega
  have zs3 : ¬ 9223372036854775807 < a.size + 2 + b.size := by omega
  clear hG ha hb hg ho
  go_enter Tryz.func4, Tryz.ntmps4
  go_upto_region 6 with first
    | (go_at_call 8; (with_reducible refine (HE.out).mono ?_); rintro e w1 ⟨rfl, h1⟩; have X1 := hide (chain BX.out h1 (Nat.le_refl _)); have M1 := hide (M0.out.kept h1); obtain ⟨ml, m0, m1⟩ := M1.out; clear h1)
    | (go_at_call 9; (with_reducible refine (HB.out _ X2.out).mono ?_); rintro e w3 ⟨ty, rfl, h1, h2, h3, h4⟩; have b3 := ((Below.refl w3.heap.size w3).alloc (Nat.le_refl _) (.cells #[.int .i64 ty.f.k, .int .i64 ty.f.n, .int .i64 ty.f.mn, .int .i64 ty.f.mx, .slice ty.f.rq ty.f.rs.length ty.f.rc, .slice ty.f.kq ty.f.kl ty.f.kc] 28)); have bb := chain h4 b3 (Nat.le_refl _); have ST := hide (show GSt w m w.heap.size w2.heap.size w3.heap.size tx ty (w3.alloc (.cells #[.int .i64 ty.f.k, .int .i64 ty.f.n, .int .i64 ty.f.mn, .int .i64 ty.f.mx, .slice ty.f.rq ty.f.rs.length ty.f.rc, .slice ty.f.kq ty.f.kl ty.f.kc] 28)) from ⟨chain X2.out bb (Nat.le_refl _), M2.out.kept bb, SX2.out.kept bb, sees6_new w3 ty.f, TX.out.kept bb, h1.kept b3⟩); have EY := hide h2; clear h1 h2 h3 h4 b3 bb)
    | (go_at_call 9; (with_reducible refine (HA.out _ X1.out).mono ?_); rintro e w2 ⟨tx, rfl, h1, h2, h3, h4⟩; have b2 := ((Below.refl w2.heap.size w2).alloc (Nat.le_refl _) (.cells #[.int .i64 tx.f.k, .int .i64 tx.f.n, .int .i64 tx.f.mn, .int .i64 tx.f.mx, .slice tx.f.rq tx.f.rs.length tx.f.rc, .slice tx.f.kq tx.f.kl tx.f.kc] 28)); have bb := chain h4 b2 (Nat.le_refl _); have X2 := hide (chain X1.out bb (Nat.le_refl _)); have M2 := hide (M1.out.kept bb); obtain ⟨ml, m0, m1⟩ := M2.out; have TX := hide (h1.kept b2); have EX := hide h2; have SX2 := hide (sees6_new w2 tx.f); clear h1 h2 h3 h4 b2 bb)
  generalize (w3.alloc (.cells #[.int .i64 ty.f.k, .int .i64 ty.f.n, .int .i64 ty.f.mn, .int .i64 ty.f.mx, .slice ty.f.rq ty.f.rs.length ty.f.rc, .slice ty.f.kq ty.f.kl ty.f.kc] 28)) = W0 at ST ⊢
  clear X1 X2 M0 M1 M2 ml m0 m1 TX SX2 BX HE HA HB
  generalize w2.heap.size = bx at ST ⊢
  generalize w3.heap.size = by_ at ST ⊢
  have HM : Hid (∀ W, Below W0.heap.size W0 W → SeesM W w.heap.size m ∧ Sees6 W bx tx.f ∧ Sees6 W by_ ty.f) := fun W hW => ⟨ST.out.sm.kept hW, ST.out.sx.kept hW, ST.out.sy.kept hW⟩
  have XB : Hid (Below W0.heap.size W0 W0) := Below.refl _ _
  obtain ⟨⟨ml, m0, m1⟩, ⟨xl, x0, x1, x2, x3, x4, x5⟩, ⟨yl, y0, y1, y2, y3, y4, y5⟩⟩ := HM.out _ XB.out
  have GX0 : ∀ W, Below W0.heap.size W0 W → Calls Tryz.prog 12 #[.agg #[.int .i64 tx.f.k, .int .i64 tx.f.n, .int .i64 tx.f.mn, .int .i64 tx.f.mx, .slice tx.f.rq tx.f.rs.length tx.f.rc, .slice tx.f.kq tx.f.kl tx.f.kc]] W fun e w' => e = .returned (.int .i64 (nop (pfl xa) : Int)) ∧ Below W.heap.size W w' := fun W hW => groups_of (ST.out.tx.kept hW) EX.out hwa (by omega)
  have GY0 : ∀ W, Below W0.heap.size W0 W → Calls Tryz.prog 12 #[.agg #[.int .i64 ty.f.k, .int .i64 ty.f.n, .int .i64 ty.f.mn, .int .i64 ty.f.mx, .slice ty.f.rq ty.f.rs.length ty.f.rc, .slice ty.f.kq ty.f.kl ty.f.kc]] W fun e w' => e = .returned (.int .i64 (nop (pfl xb) : Int)) ∧ Below W.heap.size W w' := fun W hW => groups_of (ST.out.ty.kept hW) EY.out hwb (by omega)
  have DX0 : ∀ W, Below W0.heap.size W0 W → Calls Tryz.prog 13 #[.agg #[.int .i64 tx.f.k, .int .i64 tx.f.n, .int .i64 tx.f.mn, .int .i64 tx.f.mx, .slice tx.f.rq tx.f.rs.length tx.f.rc, .slice tx.f.kq tx.f.kl tx.f.kc]] W fun e w' => e = .returned (.int .i64 (xa.dp : Int)) ∧ Below W.heap.size W w' := fun W hW => depth_of (ST.out.tx.kept hW) EX.out (by omega)
  have DY0 : ∀ W, Below W0.heap.size W0 W → Calls Tryz.prog 13 #[.agg #[.int .i64 ty.f.k, .int .i64 ty.f.n, .int .i64 ty.f.mn, .int .i64 ty.f.mx, .slice ty.f.rq ty.f.rs.length ty.f.rc, .slice ty.f.kq ty.f.kl ty.f.kc]] W fun e w' => e = .returned (.int .i64 (xb.dp : Int)) ∧ Below W.heap.size W w' := fun W hW => depth_of (ST.out.ty.kept hW) EY.out (by omega)
  have GX := hide GX0
  have GY := hide GY0
  have DX := hide DX0
  have DY := hide DY0
  obtain ⟨na, hna⟩ : ∃ n, nop (pfl xa) = n := ⟨_, rfl⟩
  obtain ⟨nb, hnb⟩ : ∃ n, nop (pfl xb) = n := ⟨_, rfl⟩
  obtain ⟨da, hda⟩ : ∃ n, xa.dp = n := ⟨_, rfl⟩
  obtain ⟨db, hdb⟩ : ∃ n, xb.dp = n := ⟨_, rfl⟩
  rw [hna] at GX HG HO
  rw [hnb] at GY HO
  rw [hda] at DX HG HO
  rw [hdb] at DY HO
  clear GX0 GY0 DX0 DY0 hna hnb hda hdb
  by_cases na0 : ¬ na = 0
  · have e1 : ((na : Int) == 0) = false := by rw [beq_eq_false_iff_ne]; omega
    clear na0
    go_wp2_with first
      | (go_at_call 12; (with_reducible refine (GX.out _ XB.out).mono ?_); rintro e wn ⟨rfl, h1⟩; have XB := hide (chain XB.out h1 (Nat.le_refl _)); obtain ⟨⟨ml, m0, m1⟩, ⟨xl, x0, x1, x2, x3, x4, x5⟩, ⟨yl, y0, y1, y2, y3, y4, y5⟩⟩ := HM.out _ XB.out; clear h1)
      | (go_at_call 12; (with_reducible refine (GY.out _ XB.out).mono ?_); rintro e wn ⟨rfl, h1⟩; have XB := hide (chain XB.out h1 (Nat.le_refl _)); obtain ⟨⟨ml, m0, m1⟩, ⟨xl, x0, x1, x2, x3, x4, x5⟩, ⟨yl, y0, y1, y2, y3, y4, y5⟩⟩ := HM.out _ XB.out; clear h1)
      | (go_at_call 13; (with_reducible refine (DX.out _ XB.out).mono ?_); rintro e wn ⟨rfl, h1⟩; have XB := hide (chain XB.out h1 (Nat.le_refl _)); obtain ⟨⟨ml, m0, m1⟩, ⟨xl, x0, x1, x2, x3, x4, x5⟩, ⟨yl, y0, y1, y2, y3, y4, y5⟩⟩ := HM.out _ XB.out; clear h1)
      | (go_at_call 13; (with_reducible refine (DY.out _ XB.out).mono ?_); rintro e wn ⟨rfl, h1⟩; have XB := hide (chain XB.out h1 (Nat.le_refl _)); obtain ⟨⟨ml, m0, m1⟩, ⟨xl, x0, x1, x2, x3, x4, x5⟩, ⟨yl, y0, y1, y2, y3, y4, y5⟩⟩ := HM.out _ XB.out; clear h1)
    go_ret
    exact ⟨by simp, chain ST.out.bel XB.out (Nat.le_refl _)⟩
  have na0 : na = 0 := by omega
  subst na0
  by_cases da0 : ¬ da < 40
  · have e2 : ¬ (da : Int) < 40 := by omega
    by_cases nb0 : nb = 0
    · subst nb0
      go_wp2_with first
      | (go_at_call 12; (with_reducible refine (GX.out _ XB.out).mono ?_); rintro e wn ⟨rfl, h1⟩; have XB := hide (chain XB.out h1 (Nat.le_refl _)); obtain ⟨⟨ml, m0, m1⟩, ⟨xl, x0, x1, x2, x3, x4, x5⟩, ⟨yl, y0, y1, y2, y3, y4, y5⟩⟩ := HM.out _ XB.out; clear h1)
      | (go_at_call 12; (with_reducible refine (GY.out _ XB.out).mono ?_); rintro e wn ⟨rfl, h1⟩; have XB := hide (chain XB.out h1 (Nat.le_refl _)); obtain ⟨⟨ml, m0, m1⟩, ⟨xl, x0, x1, x2, x3, x4, x5⟩, ⟨yl, y0, y1, y2, y3, y4, y5⟩⟩ := HM.out _ XB.out; clear h1)
      | (go_at_call 13; (with_reducible refine (DX.out _ XB.out).mono ?_); rintro e wn ⟨rfl, h1⟩; have XB := hide (chain XB.out h1 (Nat.le_refl _)); obtain ⟨⟨ml, m0, m1⟩, ⟨xl, x0, x1, x2, x3, x4, x5⟩, ⟨yl, y0, y1, y2, y3, y4, y5⟩⟩ := HM.out _ XB.out; clear h1)
      | (go_at_call 13; (with_reducible refine (DY.out _ XB.out).mono ?_); rintro e wn ⟨rfl, h1⟩; have XB := hide (chain XB.out h1 (Nat.le_refl _)); obtain ⟨⟨ml, m0, m1⟩, ⟨xl, x0, x1, x2, x3, x4, x5⟩, ⟨yl, y0, y1, y2, y3, y4, y5⟩⟩ := HM.out _ XB.out; clear h1)
      go_ret
      exact ⟨by simp, chain ST.out.bel XB.out (Nat.le_refl _)⟩
    · have e3 : ((nb : Int) == 0) = false := by rw [beq_eq_false_iff_ne]; omega
      clear nb0
      go_wp2_with first
      | (go_at_call 12; (with_reducible refine (GX.out _ XB.out).mono ?_); rintro e wn ⟨rfl, h1⟩; have XB := hide (chain XB.out h1 (Nat.le_refl _)); obtain ⟨⟨ml, m0, m1⟩, ⟨xl, x0, x1, x2, x3, x4, x5⟩, ⟨yl, y0, y1, y2, y3, y4, y5⟩⟩ := HM.out _ XB.out; clear h1)
      | (go_at_call 12; (with_reducible refine (GY.out _ XB.out).mono ?_); rintro e wn ⟨rfl, h1⟩; have XB := hide (chain XB.out h1 (Nat.le_refl _)); obtain ⟨⟨ml, m0, m1⟩, ⟨xl, x0, x1, x2, x3, x4, x5⟩, ⟨yl, y0, y1, y2, y3, y4, y5⟩⟩ := HM.out _ XB.out; clear h1)
      | (go_at_call 13; (with_reducible refine (DX.out _ XB.out).mono ?_); rintro e wn ⟨rfl, h1⟩; have XB := hide (chain XB.out h1 (Nat.le_refl _)); obtain ⟨⟨ml, m0, m1⟩, ⟨xl, x0, x1, x2, x3, x4, x5⟩, ⟨yl, y0, y1, y2, y3, y4, y5⟩⟩ := HM.out _ XB.out; clear h1)
      | (go_at_call 13; (with_reducible refine (DY.out _ XB.out).mono ?_); rintro e wn ⟨rfl, h1⟩; have XB := hide (chain XB.out h1 (Nat.le_refl _)); obtain ⟨⟨ml, m0, m1⟩, ⟨xl, x0, x1, x2, x3, x4, x5⟩, ⟨yl, y0, y1, y2, y3, y4, y5⟩⟩ := HM.out _ XB.out; clear h1)
      go_ret
      exact ⟨by simp, chain ST.out.bel XB.out (Nat.le_refl _)⟩
  have da0 : da < 40 := by omega
  have e2 : (da : Int) < 40 := by omega
  have PG := hide (HG.out (by first | trivial | omega) (by first | trivial | omega))
  go_upto_region 10 with first
      | (go_at_call 12; (with_reducible refine (GX.out _ XB.out).mono ?_); rintro e wn ⟨rfl, h1⟩; have XB := hide (chain XB.out h1 (Nat.le_refl _)); obtain ⟨⟨ml, m0, m1⟩, ⟨xl, x0, x1, x2, x3, x4, x5⟩, ⟨yl, y0, y1, y2, y3, y4, y5⟩⟩ := HM.out _ XB.out; clear h1)
      | (go_at_call 12; (with_reducible refine (GY.out _ XB.out).mono ?_); rintro e wn ⟨rfl, h1⟩; have XB := hide (chain XB.out h1 (Nat.le_refl _)); obtain ⟨⟨ml, m0, m1⟩, ⟨xl, x0, x1, x2, x3, x4, x5⟩, ⟨yl, y0, y1, y2, y3, y4, y5⟩⟩ := HM.out _ XB.out; clear h1)
      | (go_at_call 13; (with_reducible refine (DX.out _ XB.out).mono ?_); rintro e wn ⟨rfl, h1⟩; have XB := hide (chain XB.out h1 (Nat.le_refl _)); obtain ⟨⟨ml, m0, m1⟩, ⟨xl, x0, x1, x2, x3, x4, x5⟩, ⟨yl, y0, y1, y2, y3, y4, y5⟩⟩ := HM.out _ XB.out; clear h1)
      | (go_at_call 13; (with_reducible refine (DY.out _ XB.out).mono ?_); rintro e wn ⟨rfl, h1⟩; have XB := hide (chain XB.out h1 (Nat.le_refl _)); obtain ⟨⟨ml, m0, m1⟩, ⟨xl, x0, x1, x2, x3, x4, x5⟩, ⟨yl, y0, y1, y2, y3, y4, y5⟩⟩ := HM.out _ XB.out; clear h1)
      | (go_at_call 9; (with_reducible refine (PG.out _ (chain ST.out.bel XB.out (Nat.le_refl _))).mono ?_); rintro e w6 ⟨tn, rfl, h1, h2, h3, h4⟩; obtain ⟨f1, f2, f3, g, off, f4, f5, u, f6, f7, f8⟩ := grp_see h1 h2; have B6 := hide h4; have U6 := hide f6; have EU := hide f7; have SU := hide f8; have LG := hide f5; rw [f1, f2, f3, f4]; clear f1 f2 f3 f4 f5 f6 f7 f8 h1 h2 h3 h4)
  have b7 : Below w6.heap.size w6 (w6.alloc (.cells #[.int .i64 7, .int .i64 1, .int .i64 tn.f.mn, .int .i64 tn.f.mx, .slice tn.f.rq tn.f.rs.length tn.f.rc, .slice (some ⟨g, off, none⟩) 1 tn.f.kc] 28)) := (Below.refl _ _).alloc (Nat.le_refl _) _
  have N7 := hide (alloc_new w6 (.cells #[.int .i64 7, .int .i64 1, .int .i64 tn.f.mn, .int .i64 tn.f.mx, .slice tn.f.rq tn.f.rs.length tn.f.rc, .slice (some ⟨g, off, none⟩) 1 tn.f.kc] 28))
  have XB := hide (chain (chain XB.out B6.out (Nat.le_refl _)) b7 (Nat.le_refl _))
  have U7 := hide (U6.out.kept b7)
  have SU7 := hide (SU.out.ck (CK.of_below b7) LG.out)
  have LG7 : g < (w6.alloc (.cells #[.int .i64 7, .int .i64 1, .int .i64 tn.f.mn, .int .i64 tn.f.mx, .slice tn.f.rq tn.f.rs.length tn.f.rc, .slice (some ⟨g, off, none⟩) 1 tn.f.kc] 28)).heap.size := Nat.lt_of_lt_of_le LG.out b7.size
  generalize (w6.alloc (.cells #[.int .i64 7, .int .i64 1, .int .i64 tn.f.mn, .int .i64 tn.f.mx, .slice tn.f.rq tn.f.rs.length tn.f.rc, .slice (some ⟨g, off, none⟩) 1 tn.f.kc] 28)) = W7 at N7 XB U7 SU7 LG7 ⊢
  clear b7 B6 U6 SU
  obtain ⟨⟨ml, m0, m1⟩, ⟨xl, x0, x1, x2, x3, x4, x5⟩, ⟨yl, y0, y1, y2, y3, y4, y5⟩⟩ := HM.out _ XB.out
  have z0 := cell_row N7.out (i := 0) rfl
  have z1 := cell_row N7.out (i := 1) rfl
  have z5 := cell_row N7.out (i := 5) rfl
  have zl := lt_of_heap N7.out
  obtain ⟨v0, v1, v2, v3, v4, v5⟩ := SU7.out
  have SM : ∀ y : Ext W7, Calls Tryz.prog 14 #[.agg #[.int .i64 u.f.k, .int .i64 u.f.n, .int .i64 u.f.mn, .int .i64 u.f.mx, .slice u.f.rq u.f.rs.length u.f.rc, .slice u.f.kq u.f.kl u.f.kc], .agg #[.int .i64 tx.f.k, .int .i64 tx.f.n, .int .i64 tx.f.mn, .int .i64 tx.f.mx, .slice tx.f.rq tx.f.rs.length tx.f.rc, .slice tx.f.kq tx.f.kl tx.f.kc]] y.val fun e w' => e = .returned (.bool true) ∧ Below y.val.heap.size y.val w' := fun y => same_yes8 (U7.out.kept y.2) ((ST.out.tx.kept XB.out).kept y.2) (EU.out.trans EX.out.symm) (by rw [EU.out, te_sz]; omega)
  refine wp_region_ext (by kernel_rfl) (by kernel_rfl) ?_
  repeat (go_big_quiet_step (first | exact rfl | (go_at_call 14; with_reducible exact ext_call (SM _))))
  refine wpQuiet_nil ?_
  intro w8 hw8
  have XB := hide (chain XB.out (ext_of hw8) (Nat.le_refl _))
  obtain ⟨⟨ml, m0, m1⟩, ⟨xl, x0, x1, x2, x3, x4, x5⟩, ⟨yl, y0, y1, y2, y3, y4, y5⟩⟩ := HM.out _ XB.out
  clear hw8 SM z0 z1 z5 zl v0 v1 v2 v3 v4 v5
  by_cases nb0 : ¬ nb = 0
  · have e3 : ((nb : Int) == 0) = false := by rw [beq_eq_false_iff_ne]; omega
    clear nb0
    go_wp2_with first
      | (go_at_call 12; (with_reducible refine (GX.out _ XB.out).mono ?_); rintro e wn ⟨rfl, h1⟩; have XB := hide (chain XB.out h1 (Nat.le_refl _)); obtain ⟨⟨ml, m0, m1⟩, ⟨xl, x0, x1, x2, x3, x4, x5⟩, ⟨yl, y0, y1, y2, y3, y4, y5⟩⟩ := HM.out _ XB.out; clear h1)
      | (go_at_call 12; (with_reducible refine (GY.out _ XB.out).mono ?_); rintro e wn ⟨rfl, h1⟩; have XB := hide (chain XB.out h1 (Nat.le_refl _)); obtain ⟨⟨ml, m0, m1⟩, ⟨xl, x0, x1, x2, x3, x4, x5⟩, ⟨yl, y0, y1, y2, y3, y4, y5⟩⟩ := HM.out _ XB.out; clear h1)
      | (go_at_call 13; (with_reducible refine (DX.out _ XB.out).mono ?_); rintro e wn ⟨rfl, h1⟩; have XB := hide (chain XB.out h1 (Nat.le_refl _)); obtain ⟨⟨ml, m0, m1⟩, ⟨xl, x0, x1, x2, x3, x4, x5⟩, ⟨yl, y0, y1, y2, y3, y4, y5⟩⟩ := HM.out _ XB.out; clear h1)
      | (go_at_call 13; (with_reducible refine (DY.out _ XB.out).mono ?_); rintro e wn ⟨rfl, h1⟩; have XB := hide (chain XB.out h1 (Nat.le_refl _)); obtain ⟨⟨ml, m0, m1⟩, ⟨xl, x0, x1, x2, x3, x4, x5⟩, ⟨yl, y0, y1, y2, y3, y4, y5⟩⟩ := HM.out _ XB.out; clear h1)
    go_ret
    exact ⟨by simp, chain ST.out.bel XB.out (Nat.le_refl _)⟩
  have nb0 : nb = 0 := by omega
  subst nb0
  by_cases db0 : ¬ db < 40
  · have e4 : ¬ (db : Int) < 40 := by omega
    go_wp2_with first
      | (go_at_call 12; (with_reducible refine (GX.out _ XB.out).mono ?_); rintro e wn ⟨rfl, h1⟩; have XB := hide (chain XB.out h1 (Nat.le_refl _)); obtain ⟨⟨ml, m0, m1⟩, ⟨xl, x0, x1, x2, x3, x4, x5⟩, ⟨yl, y0, y1, y2, y3, y4, y5⟩⟩ := HM.out _ XB.out; clear h1)
      | (go_at_call 12; (with_reducible refine (GY.out _ XB.out).mono ?_); rintro e wn ⟨rfl, h1⟩; have XB := hide (chain XB.out h1 (Nat.le_refl _)); obtain ⟨⟨ml, m0, m1⟩, ⟨xl, x0, x1, x2, x3, x4, x5⟩, ⟨yl, y0, y1, y2, y3, y4, y5⟩⟩ := HM.out _ XB.out; clear h1)
      | (go_at_call 13; (with_reducible refine (DX.out _ XB.out).mono ?_); rintro e wn ⟨rfl, h1⟩; have XB := hide (chain XB.out h1 (Nat.le_refl _)); obtain ⟨⟨ml, m0, m1⟩, ⟨xl, x0, x1, x2, x3, x4, x5⟩, ⟨yl, y0, y1, y2, y3, y4, y5⟩⟩ := HM.out _ XB.out; clear h1)
      | (go_at_call 13; (with_reducible refine (DY.out _ XB.out).mono ?_); rintro e wn ⟨rfl, h1⟩; have XB := hide (chain XB.out h1 (Nat.le_refl _)); obtain ⟨⟨ml, m0, m1⟩, ⟨xl, x0, x1, x2, x3, x4, x5⟩, ⟨yl, y0, y1, y2, y3, y4, y5⟩⟩ := HM.out _ XB.out; clear h1)
    go_ret
    exact ⟨by simp, chain ST.out.bel XB.out (Nat.le_refl _)⟩
  have db0 : db < 40 := by omega
  have e4 : (db : Int) < 40 := by omega
  have PO := hide (HO.out (by first | trivial | omega) (by first | trivial | omega) (by first | trivial | omega) (by first | trivial | omega))
  go_upto_region 14 with first
      | (go_at_call 12; (with_reducible refine (GX.out _ XB.out).mono ?_); rintro e wn ⟨rfl, h1⟩; have XB := hide (chain XB.out h1 (Nat.le_refl _)); obtain ⟨⟨ml, m0, m1⟩, ⟨xl, x0, x1, x2, x3, x4, x5⟩, ⟨yl, y0, y1, y2, y3, y4, y5⟩⟩ := HM.out _ XB.out; clear h1)
      | (go_at_call 12; (with_reducible refine (GY.out _ XB.out).mono ?_); rintro e wn ⟨rfl, h1⟩; have XB := hide (chain XB.out h1 (Nat.le_refl _)); obtain ⟨⟨ml, m0, m1⟩, ⟨xl, x0, x1, x2, x3, x4, x5⟩, ⟨yl, y0, y1, y2, y3, y4, y5⟩⟩ := HM.out _ XB.out; clear h1)
      | (go_at_call 13; (with_reducible refine (DX.out _ XB.out).mono ?_); rintro e wn ⟨rfl, h1⟩; have XB := hide (chain XB.out h1 (Nat.le_refl _)); obtain ⟨⟨ml, m0, m1⟩, ⟨xl, x0, x1, x2, x3, x4, x5⟩, ⟨yl, y0, y1, y2, y3, y4, y5⟩⟩ := HM.out _ XB.out; clear h1)
      | (go_at_call 13; (with_reducible refine (DY.out _ XB.out).mono ?_); rintro e wn ⟨rfl, h1⟩; have XB := hide (chain XB.out h1 (Nat.le_refl _)); obtain ⟨⟨ml, m0, m1⟩, ⟨xl, x0, x1, x2, x3, x4, x5⟩, ⟨yl, y0, y1, y2, y3, y4, y5⟩⟩ := HM.out _ XB.out; clear h1)
      | (go_at_call 9; (with_reducible refine (PO.out _ (chain ST.out.bel XB.out (Nat.le_refl _))).mono ?_); rintro e w9 ⟨tw, rfl, h1, h2, h3, h4⟩; have B9 := hide h4; have TO := hide h1; have EO := hide h2; clear h1 h2 h3 h4)
  have bA : Below w9.heap.size w9 (w9.alloc (.cells #[.int .i64 tw.f.k, .int .i64 tw.f.n, .int .i64 tw.f.mn, .int .i64 tw.f.mx, .slice tw.f.rq tw.f.rs.length tw.f.rc, .slice tw.f.kq tw.f.kl tw.f.kc] 28)) := (Below.refl _ _).alloc (Nat.le_refl _) _
  have SO := hide (sees6_new w9 tw.f)
  have XB := hide (chain (chain XB.out B9.out (Nat.le_refl _)) bA (Nat.le_refl _))
  have TOA := hide (TO.out.kept bA)
  generalize w9.heap.size = bo at SO ⊢
  generalize (w9.alloc (.cells #[.int .i64 tw.f.k, .int .i64 tw.f.n, .int .i64 tw.f.mn, .int .i64 tw.f.mx, .slice tw.f.rq tw.f.rs.length tw.f.rc, .slice tw.f.kq tw.f.kl tw.f.kc] 28)) = WA at SO XB TOA ⊢
  obtain ⟨⟨ml, m0, m1⟩, ⟨xl, x0, x1, x2, x3, x4, x5⟩, ⟨yl, y0, y1, y2, y3, y4, y5⟩⟩ := HM.out _ XB.out
  obtain ⟨ol, o0, o1, o2, o3, o4, o5⟩ := SO.out
  have bC : Below WA.heap.size WA (WA.alloc (.cells #[.int .i64 tx.f.k, .int .i64 tx.f.n, .int .i64 tx.f.mn, .int .i64 tx.f.mx, .slice tx.f.rq tx.f.rs.length tx.f.rc, .slice tx.f.kq tx.f.kl tx.f.kc, .int .i64 ty.f.k, .int .i64 ty.f.n, .int .i64 ty.f.mn, .int .i64 ty.f.mx, .slice ty.f.rq ty.f.rs.length ty.f.rc, .slice ty.f.kq ty.f.kl ty.f.kc] 28)).drew := ((Below.refl _ _).alloc (Nat.le_refl _) _).drew
  have NC : (WA.alloc (.cells #[.int .i64 tx.f.k, .int .i64 tx.f.n, .int .i64 tx.f.mn, .int .i64 tx.f.mx, .slice tx.f.rq tx.f.rs.length tx.f.rc, .slice tx.f.kq tx.f.kl tx.f.kc, .int .i64 ty.f.k, .int .i64 ty.f.n, .int .i64 ty.f.mn, .int .i64 ty.f.mx, .slice ty.f.rq ty.f.rs.length ty.f.rc, .slice ty.f.kq ty.f.kl ty.f.kc] 28)).drew.heap[WA.heap.size]? = some (.cells #[.int .i64 tx.f.k, .int .i64 tx.f.n, .int .i64 tx.f.mn, .int .i64 tx.f.mx, .slice tx.f.rq tx.f.rs.length tx.f.rc, .slice tx.f.kq tx.f.kl tx.f.kc, .int .i64 ty.f.k, .int .i64 ty.f.n, .int .i64 ty.f.mn, .int .i64 ty.f.mx, .slice ty.f.rq ty.f.rs.length ty.f.rc, .slice ty.f.kq ty.f.kl ty.f.kc] 28) := alloc_new WA _
  have AC := hide (alt_two NC ((ST.out.tx.kept XB.out).kept bC) ((ST.out.ty.kept XB.out).kept bC) (by rw [EX.out, EY.out, te_sz, te_sz]; omega))
  have BC := hide bC
  clear bC NC
  go_region_with first
    | (go_at_call 15; (with_reducible refine (AC.out).mono ?_); rintro e wB ⟨tB, rfl, h1, h2, h3, h4⟩; have bB := BC.out.trans (h4.mono BC.out.size); have XC := hide (chain XB.out bB (Nat.le_refl _)); obtain ⟨pl, p0, p1, p2, p3, p4, p5⟩ := SO.out.kept bB; have SMC := hide (same_yes8 (TOA.out.kept bB) h1 (by rw [EO.out, h2, EX.out, EY.out, orP_te hwa hwb]) (by rw [EO.out, te_sz]; exact hzo)); clear h1 h2 h3 h4 bB)
    | (go_at_call 14; (with_reducible refine (SMC.out).mono ?_); rintro e wD ⟨rfl, h1⟩; have XD := hide (chain XC.out h1 (Nat.le_refl _)); clear h1)
  all_goals (
    go_wp2
    go_ret
    exact ⟨by simp, chain ST.out.bel XD.out (Nat.le_refl _)⟩)
end Go.Proofs.YtpfdapnfkghgkaaGreatDoor
namespace Go.Proofs.YtpfdapnfkghgkaaGreatDoor
open Go Go.RowKit
attribute [local go_sem] ext_cell

set_option maxRecDepth 100000 in
set_option maxHeartbeats 4000000 in
theorem group_long {w : World} (hG : Glb w) (a b : ByteArray) (m : Md) (hsz : 900 < a.size + b.size) (hla : a.size ≤ 4611686018427387904) (hlb : b.size ≤ 4611686018427387903) :
    Calls Tryz.prog 4 #[.string a, .string b, .agg #[.bool m.c, .bool m.f]] w fun e w' => e = .returned (.bool true) ∧ Below w.heap.size w w' := by
  have BX : Hid (Below w.heap.size w (boxM9 w m)) := (Below.refl _ _).alloc (Nat.le_refl _) _
  have HE := hide (examples9_c (hG.kept BX.out))
  have n900 : (900 : Int) < (a.size : Int) + (b.size : Int) := by omega
  clear hG hsz
  go_enter Tryz.func4, Tryz.ntmps4
  go_wp2_with (go_at_call 8; (with_reducible refine (HE.out).mono ?_); rintro e w1 ⟨rfl, h1⟩; have X1 := hide (chain BX.out h1 (Nat.le_refl _)); clear h1)
  go_ret
  exact ⟨by simp, X1.out⟩
set_option maxRecDepth 100000 in
set_option maxHeartbeats 4000000 in
theorem group_bad1 {w : World} (hG : Glb w) (a b : ByteArray) (m : Md) (hsz : a.size + b.size ≤ 900) {c p : Nat} (ha : ∀ W, Below w.heap.size w W → PCall a m W (ParseErr W c p))
    (hb : (∃ c' p', ∀ W, Below w.heap.size w W → PCall b m W (ParseErr W c' p')) ∨ ∃ x, ∀ W, Below w.heap.size w W → PCall b m W (ParseOk W x)) :
    Calls Tryz.prog 4 #[.string a, .string b, .agg #[.bool m.c, .bool m.f]] w fun e w' => e = .returned (.bool true) ∧ Below w.heap.size w w' := by
  have BX : Hid (Below w.heap.size w (boxM9 w m)) := (Below.refl _ _).alloc (Nat.le_refl _) _
  have HE := hide (examples9_c (hG.kept BX.out))
  have HA := hide ha
  have M0 := hide (seesM_new w m)
  have n900 : ¬ (900 : Int) < (a.size : Int) + (b.size : Int) := by omega
  clear hG ha
  rcases hb with ⟨c', p', hb⟩ | ⟨x, hb⟩
  · have HB := hide hb
    clear hb
    go_enter Tryz.func4, Tryz.ntmps4
    go_wp2_with first
      | (go_at_call 8; (with_reducible refine (HE.out).mono ?_); rintro e w1 ⟨rfl, h1⟩; have X1 := hide (chain BX.out h1 (Nat.le_refl _)); have M1 := hide (M0.out.kept h1); obtain ⟨ml, m0, m1⟩ := M1.out; clear h1)
      | (go_at_call 9; (with_reducible refine (HB.out _ X2.out).mono ?_); rintro e w3 ⟨g3, h1, rfl, h2, h3⟩; have X3 := hide ((chain X2.out h3 (Nat.le_refl _)).alloc (Nat.le_trans X2.out.size h3.size) nodeZ); clear h1 h2 h3)
      | (go_at_call 9; (with_reducible refine (HA.out _ X1.out).mono ?_); rintro e w2 ⟨g2, h1, rfl, h2, h3⟩; have b2 := ((Below.refl w2.heap.size w2).alloc (Nat.le_refl _) nodeZ); have bb := chain h3 b2 (Nat.le_refl _); have X2 := hide (chain X1.out bb (Nat.le_refl _)); have M2 := hide (M1.out.kept bb); obtain ⟨ml, m0, m1⟩ := M2.out; clear h1 h2 h3 b2 bb)
    go_ret
    exact ⟨by simp, X3.out⟩
  · have HB := hide hb
    clear hb
    go_enter Tryz.func4, Tryz.ntmps4
    go_wp2_with first
      | (go_at_call 8; (with_reducible refine (HE.out).mono ?_); rintro e w1 ⟨rfl, h1⟩; have X1 := hide (chain BX.out h1 (Nat.le_refl _)); have M1 := hide (M0.out.kept h1); obtain ⟨ml, m0, m1⟩ := M1.out; clear h1)
      | (go_at_call 9; (with_reducible refine (HB.out _ X2.out).mono ?_); rintro e w3 ⟨ty, rfl, h1, h2, h3, h4⟩; have X3 := hide ((chain X2.out h4 (Nat.le_refl _)).alloc (Nat.le_trans X2.out.size h4.size) (.cells #[.int .i64 ty.f.k, .int .i64 ty.f.n, .int .i64 ty.f.mn, .int .i64 ty.f.mx, .slice ty.f.rq ty.f.rs.length ty.f.rc, .slice ty.f.kq ty.f.kl ty.f.kc] 28)); clear h1 h2 h3 h4)
      | (go_at_call 9; (with_reducible refine (HA.out _ X1.out).mono ?_); rintro e w2 ⟨g2, h1, rfl, h2, h3⟩; have b2 := ((Below.refl w2.heap.size w2).alloc (Nat.le_refl _) nodeZ); have bb := chain h3 b2 (Nat.le_refl _); have X2 := hide (chain X1.out bb (Nat.le_refl _)); have M2 := hide (M1.out.kept bb); obtain ⟨ml, m0, m1⟩ := M2.out; clear h1 h2 h3 b2 bb)
    go_ret
    exact ⟨by simp, X3.out⟩
set_option maxRecDepth 100000 in
set_option maxHeartbeats 4000000 in
theorem group_bad2 {w : World} (hG : Glb w) (a b : ByteArray) (m : Md) (hsz : a.size + b.size ≤ 900) {x : Ps} (ha : ∀ W, Below w.heap.size w W → PCall a m W (ParseOk W x)) {c p : Nat} (hb : ∀ W, Below w.heap.size w W → PCall b m W (ParseErr W c p)) :
    Calls Tryz.prog 4 #[.string a, .string b, .agg #[.bool m.c, .bool m.f]] w fun e w' => e = .returned (.bool true) ∧ Below w.heap.size w w' := by
  have BX : Hid (Below w.heap.size w (boxM9 w m)) := (Below.refl _ _).alloc (Nat.le_refl _) _
  have HE := hide (examples9_c (hG.kept BX.out))
  have HA := hide ha
  have HB := hide hb
  have M0 := hide (seesM_new w m)
  have n900 : ¬ (900 : Int) < (a.size : Int) + (b.size : Int) := by omega
  clear hG ha hb
  go_enter Tryz.func4, Tryz.ntmps4
  go_wp2_with first
    | (go_at_call 8; (with_reducible refine (HE.out).mono ?_); rintro e w1 ⟨rfl, h1⟩; have X1 := hide (chain BX.out h1 (Nat.le_refl _)); have M1 := hide (M0.out.kept h1); obtain ⟨ml, m0, m1⟩ := M1.out; clear h1)
    | (go_at_call 9; (with_reducible refine (HB.out _ X2.out).mono ?_); rintro e w3 ⟨g3, h1, rfl, h2, h3⟩; have X3 := hide ((chain X2.out h3 (Nat.le_refl _)).alloc (Nat.le_trans X2.out.size h3.size) nodeZ); clear h1 h2 h3)
    | (go_at_call 9; (with_reducible refine (HA.out _ X1.out).mono ?_); rintro e w2 ⟨tx, rfl, h1, h2, h3, h4⟩; have b2 := ((Below.refl w2.heap.size w2).alloc (Nat.le_refl _) (.cells #[.int .i64 tx.f.k, .int .i64 tx.f.n, .int .i64 tx.f.mn, .int .i64 tx.f.mx, .slice tx.f.rq tx.f.rs.length tx.f.rc, .slice tx.f.kq tx.f.kl tx.f.kc] 28)); have bb := chain h4 b2 (Nat.le_refl _); have X2 := hide (chain X1.out bb (Nat.le_refl _)); have M2 := hide (M1.out.kept bb); obtain ⟨ml, m0, m1⟩ := M2.out; clear h1 h2 h3 h4 b2 bb)
  go_ret
  exact ⟨by simp, X3.out⟩
theorem grpS_is (s : ByteArray) : (grpS s).data.toList = [92, 40] ++ s.data.toList ++ [92, 41] := by
  show ((⟨#[92, 40]⟩ ++ s ++ ⟨#[92, 41]⟩ : ByteArray)).data.toList = _
  rw [ByteArray.data_append, ByteArray.data_append, Array.toList_append, Array.toList_append]
theorem orS_is (a b : ByteArray) : (orS a b).data.toList = a.data.toList ++ [92, 124] ++ b.data.toList := by
  show ((a ++ ⟨#[92, 124]⟩ ++ b : ByteArray)).data.toList = _
  rw [ByteArray.data_append, ByteArray.data_append, Array.toList_append, Array.toList_append]
theorem law_group9 {w : World} (hG : Glb w) (a b : ByteArray) (m : Md) (hla : a.size ≤ 4611686018427387904) (hlb : b.size ≤ 4611686018427387903) :
    Calls Tryz.prog 4 #[.string a, .string b, .agg #[.bool m.c, .bool m.f]] w fun e w' => e = .returned (.bool true) ∧ Below w.heap.size w w' := by
  rcases Nat.lt_or_ge 900 (a.size + b.size) with hs | hs
  · exact group_long hG a b m hs hla hlb
  rcases parse_any hG a m with ⟨c, p, ha⟩ | ⟨x, T, ha⟩
  · refine group_bad1 hG a b m hs ha ?_
    rcases parse_any hG b m with ⟨c', p', hb⟩ | ⟨y, U, hb⟩
    · exact .inl ⟨c', p', hb⟩
    · exact .inr ⟨y, fun W hW => hb.calls (hG.kept hW)⟩
  · rcases parse_any hG b m with ⟨c', p', hb⟩ | ⟨y, U, hb⟩
    · exact group_bad2 hG a b m hs (fun W hW => ha.calls (hG.kept hW)) hb
    · have h1 := ha.small
      have h2 := hb.small
      have h3 : (orP x y).sz ≤ 2000 := by
        have q := (psz_bound _ (orP_wf ha.wf hb.wf)).1
        rw [orP_flat ha.wf hb.wf, List.length_append, List.length_cons, ha.pfl, hb.pfl, sgns_length, sgns_length] at q
        have := ha.len
        have := hb.len
        omega
      exact group_ok hG a b m hs ha.wf hb.wf (by omega) (by omega) h3 (fun W hW => ha.calls (hG.kept hW)) (fun W hW => hb.calls (hG.kept hW))
        (fun hn hd W hW => by obtain ⟨T', h⟩ := takes_group ha (grpS_is a) (by omega) hn hd; exact h.calls (hG.kept hW))
        (fun hn _ hd he W hW => by obtain ⟨T', h⟩ := takes_or ha hb (orS_is a b) hs hn hd he; exact h.calls (hG.kept hW))
end Go.Proofs.YtpfdapnfkghgkaaGreatDoor
namespace Go.Proofs.YtpfdapnfkghgkaaGreatDoor
open Go Go.RowKit
attribute [local go_sem] ext_cell

abbrev starS (a : ByteArray) : ByteArray := ⟨#[92, 40]⟩ ++ a ++ ⟨#[92, 41, 42]⟩
abbrev ivS (a DL DH : ByteArray) : ByteArray := ⟨#[92, 40]⟩ ++ a ++ ⟨#[92, 41, 92, 123]⟩ ++ DL ++ ⟨#[44]⟩ ++ DH ++ ⟨#[92, 125]⟩
set_option maxRecDepth 100000 in
set_option maxHeartbeats 8000000 in
theorem often_x0 {w : World} (hG : Glb w) (a : ByteArray) (lo hi : Int) (m : Md)  (h0 : 900 < a.size) :
    Calls Tryz.prog 5 #[.string a, .int .i64 lo, .int .i64 hi, .agg #[.bool m.c, .bool m.f]] w fun e w' => e = .returned (.bool true) ∧ Below w.heap.size w w' := by
  have BX : Hid (Below w.heap.size w (boxM9 w m)) := (Below.refl _ _).alloc (Nat.le_refl _) _
  have HE := hide (examples9_c (hG.kept BX.out))
  have M0 := hide (seesM_new w m)
  have d0 : (900 : Int) < (a.size : Int) := by omega
  clear hG h0
  go_enter Tryz.func5, Tryz.ntmps5
  go_wp2_with (go_at_call 8; (with_reducible refine (HE.out).mono ?_); rintro e w1 ⟨rfl, h1⟩; have X1 := hide (chain BX.out h1 (Nat.le_refl _)); have M1 := hide (M0.out.kept h1); obtain ⟨ml, m0, m1⟩ := M1.out; clear h1)
  go_ret
  exact ⟨by simp, X1.out⟩
set_option maxRecDepth 100000 in
set_option maxHeartbeats 8000000 in
theorem often_x1 {w : World} (hG : Glb w) (a : ByteArray) (lo hi : Int) (m : Md) (h0 : ¬ 900 < a.size) (h1 : lo < 0) :
    Calls Tryz.prog 5 #[.string a, .int .i64 lo, .int .i64 hi, .agg #[.bool m.c, .bool m.f]] w fun e w' => e = .returned (.bool true) ∧ Below w.heap.size w w' := by
  have BX : Hid (Below w.heap.size w (boxM9 w m)) := (Below.refl _ _).alloc (Nat.le_refl _) _
  have HE := hide (examples9_c (hG.kept BX.out))
  have M0 := hide (seesM_new w m)
  have d0 : ¬ (900 : Int) < (a.size : Int) := by omega
  have d1 : lo < 0 := by omega
  clear hG h0 h1
  go_enter Tryz.func5, Tryz.ntmps5
  go_wp2_with (go_at_call 8; (with_reducible refine (HE.out).mono ?_); rintro e w1 ⟨rfl, h1⟩; have X1 := hide (chain BX.out h1 (Nat.le_refl _)); have M1 := hide (M0.out.kept h1); obtain ⟨ml, m0, m1⟩ := M1.out; clear h1)
  go_ret
  exact ⟨by simp, X1.out⟩
set_option maxRecDepth 100000 in
set_option maxHeartbeats 8000000 in
theorem often_x2 {w : World} (hG : Glb w) (a : ByteArray) (lo hi : Int) (m : Md) (h0 : ¬ 900 < a.size) (h1 : ¬ lo < 0) (h2 : 255 < lo) :
    Calls Tryz.prog 5 #[.string a, .int .i64 lo, .int .i64 hi, .agg #[.bool m.c, .bool m.f]] w fun e w' => e = .returned (.bool true) ∧ Below w.heap.size w w' := by
  have BX : Hid (Below w.heap.size w (boxM9 w m)) := (Below.refl _ _).alloc (Nat.le_refl _) _
  have HE := hide (examples9_c (hG.kept BX.out))
  have M0 := hide (seesM_new w m)
  have d0 : ¬ (900 : Int) < (a.size : Int) := by omega
  have d1 : ¬ lo < 0 := by omega
  have d2 : 255 < lo := by omega
  clear hG h0 h1 h2
  go_enter Tryz.func5, Tryz.ntmps5
  go_wp2_with (go_at_call 8; (with_reducible refine (HE.out).mono ?_); rintro e w1 ⟨rfl, h1⟩; have X1 := hide (chain BX.out h1 (Nat.le_refl _)); have M1 := hide (M0.out.kept h1); obtain ⟨ml, m0, m1⟩ := M1.out; clear h1)
  go_ret
  exact ⟨by simp, X1.out⟩
set_option maxRecDepth 100000 in
set_option maxHeartbeats 8000000 in
theorem often_x3 {w : World} (hG : Glb w) (a : ByteArray) (lo hi : Int) (m : Md) (h0 : ¬ 900 < a.size) (h1 : ¬ lo < 0) (h2 : ¬ 255 < lo) (h3 : hi < lo) :
    Calls Tryz.prog 5 #[.string a, .int .i64 lo, .int .i64 hi, .agg #[.bool m.c, .bool m.f]] w fun e w' => e = .returned (.bool true) ∧ Below w.heap.size w w' := by
  have BX : Hid (Below w.heap.size w (boxM9 w m)) := (Below.refl _ _).alloc (Nat.le_refl _) _
  have HE := hide (examples9_c (hG.kept BX.out))
  have M0 := hide (seesM_new w m)
  have d0 : ¬ (900 : Int) < (a.size : Int) := by omega
  have d1 : ¬ lo < 0 := by omega
  have d2 : ¬ 255 < lo := by omega
  have d3 : hi < lo := by omega
  clear hG h0 h1 h2 h3
  go_enter Tryz.func5, Tryz.ntmps5
  go_wp2_with (go_at_call 8; (with_reducible refine (HE.out).mono ?_); rintro e w1 ⟨rfl, h1⟩; have X1 := hide (chain BX.out h1 (Nat.le_refl _)); have M1 := hide (M0.out.kept h1); obtain ⟨ml, m0, m1⟩ := M1.out; clear h1)
  go_ret
  exact ⟨by simp, X1.out⟩
set_option maxRecDepth 100000 in
set_option maxHeartbeats 8000000 in
theorem often_x4 {w : World} (hG : Glb w) (a : ByteArray) (lo hi : Int) (m : Md) (h0 : ¬ 900 < a.size) (h1 : ¬ lo < 0) (h2 : ¬ 255 < lo) (h3 : ¬ hi < lo) (h4 : 255 < hi) :
    Calls Tryz.prog 5 #[.string a, .int .i64 lo, .int .i64 hi, .agg #[.bool m.c, .bool m.f]] w fun e w' => e = .returned (.bool true) ∧ Below w.heap.size w w' := by
  have BX : Hid (Below w.heap.size w (boxM9 w m)) := (Below.refl _ _).alloc (Nat.le_refl _) _
  have HE := hide (examples9_c (hG.kept BX.out))
  have M0 := hide (seesM_new w m)
  have d0 : ¬ (900 : Int) < (a.size : Int) := by omega
  have d1 : ¬ lo < 0 := by omega
  have d2 : ¬ 255 < lo := by omega
  have d3 : ¬ hi < lo := by omega
  have d4 : 255 < hi := by omega
  clear hG h0 h1 h2 h3 h4
  go_enter Tryz.func5, Tryz.ntmps5
  go_wp2_with (go_at_call 8; (with_reducible refine (HE.out).mono ?_); rintro e w1 ⟨rfl, h1⟩; have X1 := hide (chain BX.out h1 (Nat.le_refl _)); have M1 := hide (M0.out.kept h1); obtain ⟨ml, m0, m1⟩ := M1.out; clear h1)
  go_ret
  exact ⟨by simp, X1.out⟩
set_option maxRecDepth 100000 in
set_option maxHeartbeats 8000000 in
theorem often_bad {w : World} (hG : Glb w) (a : ByteArray) (lo hi : Int) (m : Md) (h0 : ¬ 900 < a.size) (h1 : ¬ lo < 0) (h2 : ¬ 255 < lo) (h3 : ¬ hi < lo) (h4 : ¬ 255 < hi) {c p : Nat} (ha : ∀ W, Below w.heap.size w W → PCall (grpS a) m W (ParseErr W c p)) :
    Calls Tryz.prog 5 #[.string a, .int .i64 lo, .int .i64 hi, .agg #[.bool m.c, .bool m.f]] w fun e w' => e = .returned (.bool true) ∧ Below w.heap.size w w' := by
  have BX : Hid (Below w.heap.size w (boxM9 w m)) := (Below.refl _ _).alloc (Nat.le_refl _) _
  have HE := hide (examples9_c (hG.kept BX.out))
  have M0 := hide (seesM_new w m)
  have d0 : ¬ (900 : Int) < (a.size : Int) := by omega
  have d1 : ¬ lo < 0 := by omega
  have d2 : ¬ 255 < lo := by omega
  have d3 : ¬ hi < lo := by omega
  have d4 : ¬ 255 < hi := by omega
  have zs0 : ¬ 9223372036854775807 < 2 + a.size := by omega
  have zs1 : ¬ 9223372036854775807 < 2 + a.size + 2 := by omega
  have HA := hide ha
  clear hG ha h0 h1 h2 h3 h4
  go_enter Tryz.func5, Tryz.ntmps5
  go_wp2_with first
    | (go_at_call 8; (with_reducible refine (HE.out).mono ?_); rintro e w1 ⟨rfl, h1⟩; have X1 := hide (chain BX.out h1 (Nat.le_refl _)); have M1 := hide (M0.out.kept h1); obtain ⟨ml, m0, m1⟩ := M1.out; clear h1)
    | (go_at_call 9; (with_reducible refine (HA.out _ X1.out).mono ?_); rintro e w2 ⟨g2, h1, rfl, h2, h3⟩; have X2 := hide ((chain X1.out h3 (Nat.le_refl _)).alloc (Nat.le_trans X1.out.size h3.size) nodeZ); clear h1 h2 h3)
  go_ret
  exact ⟨by simp, X2.out⟩
set_option maxRecDepth 100000 in
set_option maxHeartbeats 8000000 in
theorem often_kind {w : World} (hG : Glb w) (a : ByteArray) (lo hi : Int) (m : Md) (h0 : ¬ 900 < a.size) (h1 : ¬ lo < 0) (h2 : ¬ 255 < lo) (h3 : ¬ hi < lo) (h4 : ¬ 255 < hi) {x : Ps} (hs2 : x.sz ≤ 2000) (hk : x.kd ≠ 7) (ha : ∀ W, Below w.heap.size w W → PCall (grpS a) m W (ParseOk W x)) :
    Calls Tryz.prog 5 #[.string a, .int .i64 lo, .int .i64 hi, .agg #[.bool m.c, .bool m.f]] w fun e w' => e = .returned (.bool true) ∧ Below w.heap.size w w' := by
  have BX : Hid (Below w.heap.size w (boxM9 w m)) := (Below.refl _ _).alloc (Nat.le_refl _) _
  have HE := hide (examples9_c (hG.kept BX.out))
  have M0 := hide (seesM_new w m)
  have d0 : ¬ (900 : Int) < (a.size : Int) := by omega
  have d1 : ¬ lo < 0 := by omega
  have d2 : ¬ 255 < lo := by omega
  have d3 : ¬ hi < lo := by omega
  have d4 : ¬ 255 < hi := by omega
  have zs0 : ¬ 9223372036854775807 < 2 + a.size := by omega
  have zs1 : ¬ 9223372036854775807 < 2 + a.size + 2 := by omega
  have HA := hide ha
  clear hG ha h0 h1 h2 h3 h4
  go_enter Tryz.func5, Tryz.ntmps5
  go_wp2_with first
    | (go_at_call 8; (with_reducible refine (HE.out).mono ?_); rintro e w1 ⟨rfl, h1⟩; have X1 := hide (chain BX.out h1 (Nat.le_refl _)); have M1 := hide (M0.out.kept h1); obtain ⟨ml, m0, m1⟩ := M1.out; clear h1)
    | (go_at_call 9; (with_reducible refine (HA.out _ X1.out).mono ?_); rintro e w2 ⟨tx, rfl, h1, h2, h3, h4⟩; have b2 := ((Below.refl w2.heap.size w2).alloc (Nat.le_refl _) (.cells #[.int .i64 tx.f.k, .int .i64 tx.f.n, .int .i64 tx.f.mn, .int .i64 tx.f.mx, .slice tx.f.rq tx.f.rs.length tx.f.rc, .slice tx.f.kq tx.f.kl tx.f.kc] 28)); have bb := chain h4 b2 (Nat.le_refl _); have X2 := hide (chain X1.out bb (Nat.le_refl _)); have M2 := hide (M1.out.kept bb); have TX := hide (h1.kept b2); have EX := hide h2; have kk : tx.f.k = x.kd := (by rw [← er_k, h2, te_k]); have k7 : (tx.f.k != 7) = true := (by rw [kk]; simpa using hk); have DP := hide (depth_of (h1.kept b2) h2 hs2); have SX2 := hide (sees6_new w2 tx.f); clear h1 h2 h3 h4 b2 bb kk)
  go_ret
  exact ⟨by simp, X2.out⟩
set_option maxRecDepth 100000 in
set_option maxHeartbeats 8000000 in
theorem often_deep {w : World} (hG : Glb w) (a : ByteArray) (lo hi : Int) (m : Md) (h0 : ¬ 900 < a.size) (h1 : ¬ lo < 0) (h2 : ¬ 255 < lo) (h3 : ¬ hi < lo) (h4 : ¬ 255 < hi) {x : Ps} (hs2 : x.sz ≤ 2000) (hk : x.kd = 7) (hd : ¬ x.dp ≤ 39) (ha : ∀ W, Below w.heap.size w W → PCall (grpS a) m W (ParseOk W x)) :
    Calls Tryz.prog 5 #[.string a, .int .i64 lo, .int .i64 hi, .agg #[.bool m.c, .bool m.f]] w fun e w' => e = .returned (.bool true) ∧ Below w.heap.size w w' := by
  have BX : Hid (Below w.heap.size w (boxM9 w m)) := (Below.refl _ _).alloc (Nat.le_refl _) _
  have HE := hide (examples9_c (hG.kept BX.out))
  have M0 := hide (seesM_new w m)
  have d0 : ¬ (900 : Int) < (a.size : Int) := by omega
  have d1 : ¬ lo < 0 := by omega
  have d2 : ¬ 255 < lo := by omega
  have d3 : ¬ hi < lo := by omega
  have d4 : ¬ 255 < hi := by omega
  have zs0 : ¬ 9223372036854775807 < 2 + a.size := by omega
  have zs1 : ¬ 9223372036854775807 < 2 + a.size + 2 := by omega
  have HA := hide ha
  have d39 : (39 : Int) < (x.dp : Int) := by omega
  clear hG ha h0 h1 h2 h3 h4
  go_enter Tryz.func5, Tryz.ntmps5
  go_wp2_with first
    | (go_at_call 8; (with_reducible refine (HE.out).mono ?_); rintro e w1 ⟨rfl, h1⟩; have X1 := hide (chain BX.out h1 (Nat.le_refl _)); have M1 := hide (M0.out.kept h1); obtain ⟨ml, m0, m1⟩ := M1.out; clear h1)
    | (go_at_call 9; (with_reducible refine (HA.out _ X1.out).mono ?_); rintro e w2 ⟨tx, rfl, h1, h2, h3, h4⟩; have b2 := ((Below.refl w2.heap.size w2).alloc (Nat.le_refl _) (.cells #[.int .i64 tx.f.k, .int .i64 tx.f.n, .int .i64 tx.f.mn, .int .i64 tx.f.mx, .slice tx.f.rq tx.f.rs.length tx.f.rc, .slice tx.f.kq tx.f.kl tx.f.kc] 28)); have bb := chain h4 b2 (Nat.le_refl _); have X2 := hide (chain X1.out bb (Nat.le_refl _)); have M2 := hide (M1.out.kept bb); have TX := hide (h1.kept b2); have EX := hide h2; have kk : tx.f.k = x.kd := (by rw [← er_k, h2, te_k]); have k7 : (tx.f.k != 7) = false := (by rw [kk, hk]; rfl); have DP := hide (depth_of (h1.kept b2) h2 hs2); have SX2 := hide (sees6_new w2 tx.f); clear h1 h2 h3 h4 b2 bb kk)
    | (go_at_call 13; (with_reducible refine (DP.out).mono ?_); rintro e w3 ⟨rfl, h1⟩; have X3 := hide (chain X2.out h1 (Nat.le_refl _)); clear h1)
  go_ret
  exact ⟨by simp, X3.out⟩
end Go.Proofs.YtpfdapnfkghgkaaGreatDoor
namespace Go.Proofs.YtpfdapnfkghgkaaGreatDoor
open Go Go.RowKit
attribute [local go_sem] ext_cell

/-- What holds all along: where the mode and the group's tree lie. -/
structure OfSt (w : World) (m : Md) (y : Tr) (bx : Nat) (W : World) : Prop where
  bel : Below w.heap.size w W
  md : SeesM W w.heap.size m
  tx : TA W y
  sx : Sees6 W bx y.f
theorem OfSt.kept {w : World} {m : Md} {tx : Tr} {bx : Nat} {W W' : World} (h : OfSt w m tx bx W) (hb : Below W.heap.size W W') : OfSt w m tx bx W' :=
  ⟨chain h.bel hb (Nat.le_refl _), h.md.kept hb, h.tx.kept hb, h.sx.kept hb⟩
/-- A tree in a box. -/
structure BoxT (W : World) (b : Nat) (t : Tr) (x : Er) : Prop where
  sx : Sees6 W b t.f
  ta : TA W t
  er : er t = x
theorem BoxT.kept {W W' : World} {b : Nat} {t : Tr} {x : Er} (h : BoxT W b t x) (hb : Below W.heap.size W W') : BoxT W' b t x := ⟨h.sx.kept hb, h.ta.kept hb, h.er⟩
theorem boxT_new {W : World} {t : Tr} {x : Er} (h : TA W t) (he : Go.Proofs.YtpfdapnfkghgkaaGreatDoor.er t = x) : BoxT (W.alloc (.cells #[.int .i64 t.f.k, .int .i64 t.f.n, .int .i64 t.f.mn, .int .i64 t.f.mx, .slice t.f.rq t.f.rs.length t.f.rc, .slice t.f.kq t.f.kl t.f.kc] 28)) W.heap.size t x :=
  ⟨sees6_new W t.f, h.kept ((Below.refl _ _).alloc (Nat.le_refl _) _), he⟩
def SJ (W V : World) : Prop := Below W.heap.size W V
theorem SJ.out {W V : World} (h : SJ W V) : Below W.heap.size W V := h
theorem SJ.drew (W : World) : SJ W W.drew := (Below.refl _ _).drew
theorem SJ.alloc {W V : World} (h : SJ W V) (o : Obj) : SJ W (V.alloc o) := Below.alloc h h.out.size o
theorem SJ.ad {W V : World} (h : SJ W V.drew) (o : Obj) : SJ W (V.alloc o).drew := SJ.alloc h o
theorem SJ.set {W V : World} (h : SJ W V) {b : Nat} (hb : W.heap.size ≤ b) (i : Nat) (v : Value) : SJ W (V.setCell ⟨b, i, none⟩ v) := Below.setCell h hb v
theorem SJ.call {W V V' : World} (h : SJ W V) (hb : Below V.heap.size V V') : SJ W V' := chain h.out hb (Nat.le_refl _)
theorem SJ.size {W V : World} (h : SJ W V) : W.heap.size ≤ V.heap.size := h.out.size
theorem new_d (V : World) (o : Obj) : (V.alloc o).drew.heap[V.heap.size]? = some o := alloc_new V o
theorem zkeep {V w6 : World} {k : Nat} {o : Obj} (zV : V.heap[k]? = some o) (g : Below V.heap.size V w6) : w6.heap[k]? = some o := (g.block _ (lt_of_heap zV)).trans zV
theorem zpair {V w6 : World} {t : Tr} {k : Nat} {o : Obj} (zV : V.heap[k]? = some o) (g : Below V.heap.size V w6) (hf : Foot (fun i => V.heap.size ≤ i) t) : w6.heap[k]? = some o ∧ Foot (fun i => k < i) t := ⟨zkeep zV g, hf.mono (fun _ hk => Nat.lt_of_lt_of_le (lt_of_heap zV) hk)⟩
theorem six6 {W : World} {b : Nat} {f : Fl} (h : Six W b 0 f) (hl : b < W.heap.size) : Sees6 W b f := by
  obtain ⟨c0, c1, c2, c3, c4, c5⟩ := h
  simp only [Nat.zero_add] at c1 c2 c3 c4 c5
  exact ⟨hl, c0, c1, c2, c3, c4, c5⟩
theorem cut_old {W w6 : World} {b : Nat} {t : Tr} {X : Er} (hS : SJ W w6) (hb : W.heap.size ≤ b) (z : w6.heap[b]? = some nodeZ ∧ Foot (fun i => b < i) t) (ht : TA w6 t) (hX : er t = X) : BoxT ((((((w6.setCell ⟨b, 0, none⟩ (.int .i64 t.f.k)).setCell ⟨b, 1, none⟩ (.int .i64 t.f.n)).setCell ⟨b, 2, none⟩ (.int .i64 t.f.mn)).setCell ⟨b, 3, none⟩ (.int .i64 t.f.mx)).setCell ⟨b, 4, none⟩ (.slice t.f.rq t.f.rs.length t.f.rc)).setCell ⟨b, 5, none⟩ (.slice t.f.kq t.f.kl t.f.kc)) b t X ∧ Below W.heap.size W ((((((w6.setCell ⟨b, 0, none⟩ (.int .i64 t.f.k)).setCell ⟨b, 1, none⟩ (.int .i64 t.f.n)).setCell ⟨b, 2, none⟩ (.int .i64 t.f.mn)).setCell ⟨b, 3, none⟩ (.int .i64 t.f.mx)).setCell ⟨b, 4, none⟩ (.slice t.f.rq t.f.rs.length t.f.rc)).setCell ⟨b, 5, none⟩ (.slice t.f.kq t.f.kl t.f.kc)) := by
  have L := laid_res ht z.2 z.1
  have h : BoxT (put6 w6 b 0 t.f) b t X ∧ Below W.heap.size W (put6 w6 b 0 t.f) := ⟨⟨six6 L.1 (Nat.lt_of_lt_of_le (lt_of_heap z.1) L.2.2.size), L.2.1, hX⟩, chainF hS.out (put6_fr w6 b 0 t.f) (Nat.le_refl _) (fun k e => by omega)⟩
  unfold put6 at h
  simpa only [Nat.zero_add] using h
theorem cut_new {W w6 : World} {t : Tr} {X : Er} (hS : SJ W w6) (ht : TA w6 t) (hX : er t = X) : BoxT (w6.alloc (.cells #[.int .i64 t.f.k, .int .i64 t.f.n, .int .i64 t.f.mn, .int .i64 t.f.mx, .slice t.f.rq t.f.rs.length t.f.rc, .slice t.f.kq t.f.kl t.f.kc] 28)) w6.heap.size t X ∧ Below W.heap.size W (w6.alloc (.cells #[.int .i64 t.f.k, .int .i64 t.f.n, .int .i64 t.f.mn, .int .i64 t.f.mx, .slice t.f.rq t.f.rs.length t.f.rc, .slice t.f.kq t.f.kl t.f.kc] 28)) :=
  ⟨boxT_new ht hX, (hS.alloc _).out⟩
set_option maxRecDepth 100000 in
set_option maxHeartbeats 8000000 in
theorem often_ok {w : World} (hG : Glb w) (a DL DH : ByteArray) (lo hi : Nat) (m : Md) (h0 : a.size ≤ 900) (h1 : lo ≤ hi) (h2 : hi ≤ 255) (zl : DL.size ≤ 19) (zh : DH.size ≤ 19)
    (hl : ∀ W, Calls Tryz.prog 16 #[.int .i64 (lo : Int)] W fun e w' => e = .returned (.string DL) ∧ Below W.heap.size W w') (hh : ∀ W, Calls Tryz.prog 16 #[.int .i64 (hi : Int)] W fun e w' => e = .returned (.string DH) ∧ Below W.heap.size W w')
    {x : Ps} (hs3 : x.sz + 1 ≤ 2000) (hk : x.kd = 7) (hd : x.dp ≤ 39) (ha : ∀ W, Below w.heap.size w W → PCall (grpS a) m W (ParseOk W x)) (hn : ∀ W, Below w.heap.size w W → PCall (ivS a DL DH) m W (ParseOk W (.rep lo hi x))) (hs : ∀ W, Below w.heap.size w W → PCall (starS a) m W (ParseOk W (.rep 0 (-1) x))) :
    Calls Tryz.prog 5 #[.string a, .int .i64 (lo : Int), .int .i64 (hi : Int), .agg #[.bool m.c, .bool m.f]] w fun e w' => e = .returned (.bool true) ∧ Below w.heap.size w w' := by
  have BX : Hid (Below w.heap.size w (boxM9 w m)) := (Below.refl _ _).alloc (Nat.le_refl _) _
  have HE := hide (examples9_c (hG.kept BX.out))
  have M0 := hide (seesM_new w m)
  have d0 : ¬ (900 : Int) < (a.size : Int) := by omega
  have d1 : ¬ (lo : Int) < 0 := by omega
  have d2 : ¬ (255 : Int) < (lo : Int) := by omega
  have d3 : ¬ (hi : Int) < (lo : Int) := by omega
  have d4 : ¬ (255 : Int) < (hi : Int) := by omega
  have d39 : ¬ (39 : Int) < (x.dp : Int) := by omega
  have zs0 : ¬ 9223372036854775807 < 2 + a.size := by omega
  have zs1 : ¬ 9223372036854775807 < 2 + a.size + 2 := by omega
  have zs2 : ¬ 9223372036854775807 < 2 + a.size + 3 := by omega
  have zs3 : ¬ 9223372036854775807 < 2 + a.size + 4 := by omega
  have zs4 : ¬ 9223372036854775807 < 2 + a.size + 4 + DL.size := by omega
  have zs5 : ¬ 9223372036854775807 < 2 + a.size + 4 + DL.size + 1 := by omega
  have zs6 : ¬ 9223372036854775807 < 2 + a.size + 4 + DL.size + 1 + DH.size := by omega
  have zs7 : ¬ 9223372036854775807 < 2 + a.size + 4 + DL.size + 1 + DH.size + 2 := by omega
  have bn1 : bndB (lo : Int) (hi : Int) = true := by
    unfold bndB
    rw [decide_eq_true (by omega : (0 : Int) ≤ (lo : Int)), decide_eq_true (by omega : (lo : Int) ≤ 255), decide_eq_true (by omega : (lo : Int) ≤ (hi : Int)), decide_eq_true (by omega : (hi : Int) ≤ 255)]
    simp
  have bn2 : bndB 0 (-1) = true := rfl
  have HA := hide ha
  have HN := hide hn
  have HS := hide hs
  have HL := hide hl
  have HH := hide hh
  clear hG ha h0 h1 h2 hn hs hl hh zl zh
  go_enter Tryz.func5, Tryz.ntmps5
  go_upto_region 7 with first
    | (go_at_call 8; (with_reducible refine (HE.out).mono ?_); rintro e w1 ⟨rfl, h1⟩; have X1 := hide (chain BX.out h1 (Nat.le_refl _)); have M1 := hide (M0.out.kept h1); obtain ⟨ml, m0, m1⟩ := M1.out; clear h1)
    | (go_at_call 9; (with_reducible refine (HA.out _ X1.out).mono ?_); rintro e w2 ⟨tx, rfl, h1, h2, h3, h4⟩; have b2 := ((Below.refl w2.heap.size w2).alloc (Nat.le_refl _) (.cells #[.int .i64 tx.f.k, .int .i64 tx.f.n, .int .i64 tx.f.mn, .int .i64 tx.f.mx, .slice tx.f.rq tx.f.rs.length tx.f.rc, .slice tx.f.kq tx.f.kl tx.f.kc] 28)); have bb := chain h4 b2 (Nat.le_refl _); have X2 := hide (chain X1.out bb (Nat.le_refl _)); have M2 := hide (M1.out.kept bb); have TX := hide (h1.kept b2); have EX := hide h2; have kk : tx.f.k = x.kd := (by rw [← er_k, h2, te_k]); have k7 : (tx.f.k != 7) = false := (by rw [kk, hk]; rfl); have DP := hide (depth_of (h1.kept b2) h2 (Nat.le_of_succ_le hs3)); have SX2 := hide (sees6_new w2 tx.f); have th : thingB tx.f.k = true := (by rw [kk, hk]; rfl); have ST := hide (OfSt.mk X2.out M2.out TX.out SX2.out); obtain ⟨ml, m0, m1⟩ := ST.out.md; obtain ⟨xl, x0, x1, x2, x3, x4, x5⟩ := ST.out.sx; clear h1 h2 h3 h4 b2 bb kk)
    | (go_at_call 13; (with_reducible refine (DP.out).mono ?_); rintro e w3 ⟨rfl, h1⟩; have ST := hide (ST.out.kept h1); obtain ⟨ml, m0, m1⟩ := ST.out.md; obtain ⟨xl, x0, x1, x2, x3, x4, x5⟩ := ST.out.sx; clear h1)
  clear X1 M1 X2 M2 TX DP SX2
  go_cut [12, 13] (fun u v wx => ∃ B tn, u = .pointer (some ⟨B, 0, none⟩) ∧ v = .nilIface ∧ BoxT wx B tn (te (.rep lo hi x)) ∧ Below w3.heap.size w3 wx)
  case first =>
    have rm0 : ∀ V : World, SJ w3 V → V.cell? ⟨w.heap.size, 0, none⟩ = some (.bool m.c) := fun V h => (ST.out.kept h).md.2.1
    have rm1 : ∀ V : World, SJ w3 V → V.cell? ⟨w.heap.size, 1, none⟩ = some (.bool m.f) := fun V h => (ST.out.kept h).md.2.2
    go_region_held (fun V => SJ w3 V) ((first | with_reducible assumption | with_reducible exact SJ.drew _ | with_reducible exact SJ.alloc (by assumption) _ | with_reducible exact SJ.ad (by assumption) _ | with_reducible exact (((((S6.set (by omega) _ _).set (by omega) _ _).set (by omega) _ _).set (by omega) _ _).set (by omega) _ _).set (by omega) _ _)) (first
      | (go_at_call 16; (with_reducible refine (HL.out _).mono ?_); rintro e w4 ⟨rfl, g⟩; have S4 : SJ w3 w4 := SJ.call (by with_reducible assumption) g; have l4 := S4.size; first | (have Z4 : w4.heap[w3.heap.size]? = some nodeZ := (by with_reducible exact zkeep (new_d _ _) g)) | skip; clear g)
      | (go_at_call 16; (with_reducible refine (HH.out _).mono ?_); rintro e w5 ⟨rfl, g⟩; have S5 : SJ w3 w5 := SJ.call (by with_reducible assumption) g; have l5 := S5.size; first | (have Z5 : w5.heap[w3.heap.size]? = some nodeZ := (by with_reducible exact zkeep Z4 g)) | (have Z5 : w5.heap[w4.heap.size]? = some nodeZ := (by with_reducible exact zkeep (alloc_new _ _) g)) | skip; clear g)
      | (go_at_call 9; (with_reducible refine (HN.out _ (chain ST.out.bel (SJ.out (by with_reducible assumption)) (Nat.le_refl _))).mono ?_); rintro e w6 ⟨tn, rfl, g1, g2, g3, g4⟩; have T6 := hide g1; have X6 := hide g2; have S6 : SJ w3 w6 := SJ.call (by with_reducible assumption) g4; first | (have Z6 : w6.heap[w3.heap.size]? = some nodeZ ∧ Foot (fun i => w3.heap.size < i) tn := (by with_reducible exact zpair Z5 g4 g3); have zf := fun z => frz_row Z6.1 z; have z0 := cell_row Z6.1 (i := 0) rfl; have z1 := cell_row Z6.1 (i := 1) rfl; have z2 := cell_row Z6.1 (i := 2) rfl; have z3 := cell_row Z6.1 (i := 3) rfl; have z4 := cell_row Z6.1 (i := 4) rfl; have z5 := cell_row Z6.1 (i := 5) rfl) | (have Z6 : w6.heap[w4.heap.size]? = some nodeZ ∧ Foot (fun i => w4.heap.size < i) tn := (by with_reducible exact zpair Z5 g4 g3); have zf := fun z => frz_row Z6.1 z; have z0 := cell_row Z6.1 (i := 0) rfl; have z1 := cell_row Z6.1 (i := 1) rfl; have z2 := cell_row Z6.1 (i := 2) rfl; have z3 := cell_row Z6.1 (i := 3) rfl; have z4 := cell_row Z6.1 (i := 4) rfl; have z5 := cell_row Z6.1 (i := 5) rfl) | (have Z6 : w6.heap[w5.heap.size]? = some nodeZ ∧ Foot (fun i => w5.heap.size < i) tn := (by with_reducible exact zpair (alloc_new _ _) g4 g3); have zf := fun z => frz_row Z6.1 z; have z0 := cell_row Z6.1 (i := 0) rfl; have z1 := cell_row Z6.1 (i := 1) rfl; have z2 := cell_row Z6.1 (i := 2) rfl; have z3 := cell_row Z6.1 (i := 3) rfl; have z4 := cell_row Z6.1 (i := 4) rfl; have z5 := cell_row Z6.1 (i := 5) rfl) | skip; clear g1 g2 g3 g4))
    all_goals go_wp2_with fail
    all_goals go_meet
    all_goals first | (with_reducible exact ⟨_, _, rfl, rfl, cut_old S6 (by omega) Z6 T6.out X6.out⟩) | (with_reducible exact ⟨_, _, rfl, rfl, cut_new S6 T6.out X6.out⟩)
  case rest =>
  obtain ⟨bn, tn, rfl, rfl, hnew, hbl⟩ := hcut
  have ST := hide (ST.out.kept hbl)
  have BN := hide hnew
  clear hbl hnew
  obtain ⟨ml, m0, m1⟩ := ST.out.md; obtain ⟨xl, x0, x1, x2, x3, x4, x5⟩ := ST.out.sx
  go_wp2_with first
    | (go_at_call 17; (with_reducible refine (rep_c9 ST.out.tx (by rw [← er_sz, EX.out, te_sz]; omega) (lo : Int) (hi : Int) th bn1).mono ?_); rintro e w7 ⟨tm, rfl, h1, h2, h4⟩; have b2 := ((Below.refl w7.heap.size w7).alloc (Nat.le_refl _) (.cells #[.int .i64 tm.f.k, .int .i64 tm.f.n, .int .i64 tm.f.mn, .int .i64 tm.f.mx, .slice tm.f.rq tm.f.rs.length tm.f.rc, .slice tm.f.kq tm.f.kl tm.f.kc] 28)); have bb := chain h4 b2 (Nat.le_refl _); have ST := hide (ST.out.kept bb); obtain ⟨ml, m0, m1⟩ := ST.out.md; obtain ⟨xl, x0, x1, x2, x3, x4, x5⟩ := ST.out.sx; have BN := hide (BN.out.kept bb); have BM := hide (boxT_new h1 h2); clear h1 h2 h4 b2 bb)
    | (go_at_call 9; (with_reducible refine (HS.out _ ST.out.bel).mono ?_); rintro e w8 ⟨ts, rfl, h1, h2, h3, h4⟩; have b2 := ((Below.refl w8.heap.size w8).alloc (Nat.le_refl _) (.cells #[.int .i64 ts.f.k, .int .i64 ts.f.n, .int .i64 ts.f.mn, .int .i64 ts.f.mx, .slice ts.f.rq ts.f.rs.length ts.f.rc, .slice ts.f.kq ts.f.kl ts.f.kc] 28)); have bb := chain h4 b2 (Nat.le_refl _); have ST := hide (ST.out.kept bb); obtain ⟨ml, m0, m1⟩ := ST.out.md; obtain ⟨xl, x0, x1, x2, x3, x4, x5⟩ := ST.out.sx; have BN := hide (BN.out.kept bb); have BM := hide (BM.out.kept bb); have BS := hide (boxT_new h1 h2); clear h1 h2 h3 h4 b2 bb)
    | (go_at_call 17; (with_reducible refine (rep_c9 ST.out.tx (by rw [← er_sz, EX.out, te_sz]; omega) 0 (-1) th bn2).mono ?_); rintro e w9 ⟨tt, rfl, h1, h2, h4⟩; have b2 := ((Below.refl w9.heap.size w9).alloc (Nat.le_refl _) (.cells #[.int .i64 tt.f.k, .int .i64 tt.f.n, .int .i64 tt.f.mn, .int .i64 tt.f.mx, .slice tt.f.rq tt.f.rs.length tt.f.rc, .slice tt.f.kq tt.f.kl tt.f.kc] 28)); have bb := chain h4 b2 (Nat.le_refl _); have ST := hide (ST.out.kept bb); obtain ⟨ml, m0, m1⟩ := ST.out.md; obtain ⟨xl, x0, x1, x2, x3, x4, x5⟩ := ST.out.sx; have BN := hide (BN.out.kept bb); have BM := hide (BM.out.kept bb); have BS := hide (BS.out.kept bb); have BT := hide (boxT_new h1 h2); obtain ⟨nl, n0, n1, n2, n3, n4, n5⟩ := BN.out.sx; obtain ⟨pl, p0, p1, p2, p3, p4, p5⟩ := BM.out.sx; obtain ⟨ql, q0, q1, q2, q3, q4, q5⟩ := BS.out.sx; obtain ⟨rl, r0, r1, r2, r3, r4, r5⟩ := BT.out.sx; clear h1 h2 h4 b2 bb)
    | (go_at_call 14; (with_reducible refine (same_yes8 BN.out.ta BM.out.ta ?_ ?_).mono ?_); (rw [BN.out.er, BM.out.er, EX.out, te]); (rw [BN.out.er, te_sz, Ps.sz]; exact hs3); rintro e wA ⟨rfl, bb⟩; have ST := hide (ST.out.kept bb); have BS := hide (BS.out.kept bb); have BT := hide (BT.out.kept bb); obtain ⟨ql, q0, q1, q2, q3, q4, q5⟩ := BS.out.sx; obtain ⟨rl, r0, r1, r2, r3, r4, r5⟩ := BT.out.sx; clear bb)
    | (go_at_call 14; (with_reducible refine (same_yes8 BS.out.ta BT.out.ta ?_ ?_).mono ?_); (rw [BS.out.er, BT.out.er, EX.out, te]); (rw [BS.out.er, te_sz, Ps.sz]; exact hs3); rintro e wB ⟨rfl, bb⟩; have ST := hide (ST.out.kept bb); clear bb)
  go_ret
  exact ⟨by simp, ST.out.bel⟩
end Go.Proofs.YtpfdapnfkghgkaaGreatDoor
namespace Go.Proofs.YtpfdapnfkghgkaaGreatDoor
open Go Go.RowKit
attribute [local go_sem] ext_cell

theorem kd_grp {x : Ps} (h : wf x) (hk : x.kd = 7) : ∃ n k, x = .grp n k := by
  cases x with
  | grp n k => exact ⟨n, k, rfl⟩
  | lf k q => rw [wf] at h; rw [Ps.kd] at hk; omega
  | row l => rw [Ps.kd] at hk; split at hk <;> omega
  | _ => simp [Ps.kd] at hk
theorem starS_is (a : ByteArray) : (starS a).data.toList = (grpS a).data.toList ++ [42] := by
  rw [grpS_is]
  show ((⟨#[92, 40]⟩ ++ a ++ ⟨#[92, 41, 42]⟩ : ByteArray)).data.toList = _
  rw [ByteArray.data_append, ByteArray.data_append, Array.toList_append, Array.toList_append, List.append_assoc _ _ [42]]
  rfl
theorem ivS_is (a : ByteArray) (lo hi : Nat) : (ivS a (ofL (natD lo)) (ofL (natD hi))).data.toList = (grpS a).data.toList ++ ([92, 123] ++ natD lo ++ [44] ++ natD hi ++ [92, 125]) := by
  rw [grpS_is]
  show ((⟨#[92, 40]⟩ ++ a ++ ⟨#[92, 41, 92, 123]⟩ ++ ofL (natD lo) ++ ⟨#[44]⟩ ++ ofL (natD hi) ++ ⟨#[92, 125]⟩ : ByteArray)).data.toList = _
  simp [ByteArray.data_append, Array.toList_append, ofL]
theorem law_often9 {w : World} (hG : Glb w) (a : ByteArray) (lo hi : Int) (m : Md) :
    Calls Tryz.prog 5 #[.string a, .int .i64 lo, .int .i64 hi, .agg #[.bool m.c, .bool m.f]] w fun e w' => e = .returned (.bool true) ∧ Below w.heap.size w w' := by
  by_cases h0 : 900 < a.size
  · exact often_x0 hG a lo hi m h0
  by_cases h1 : lo < 0
  · exact often_x1 hG a lo hi m h0 h1
  by_cases h2 : 255 < lo
  · exact often_x2 hG a lo hi m h0 h1 h2
  by_cases h3 : hi < lo
  · exact often_x3 hG a lo hi m h0 h1 h2 h3
  by_cases h4 : 255 < hi
  · exact often_x4 hG a lo hi m h0 h1 h2 h3 h4
  rcases parse_any hG (grpS a) m with ⟨c, p, ha⟩ | ⟨x, T, ha⟩
  · exact often_bad hG a lo hi m h0 h1 h2 h3 h4 ha
  have hc : ∀ W, Below w.heap.size w W → PCall (grpS a) m W (ParseOk W x) := fun W hW => ha.calls (hG.kept hW)
  by_cases hk : x.kd = 7
  · by_cases hd : x.dp ≤ 39
    · obtain ⟨n, k, rfl⟩ := kd_grp ha.wf hk
      obtain ⟨l, rfl⟩ : ∃ l : Nat, lo = l := ⟨lo.toNat, by omega⟩
      obtain ⟨u, rfl⟩ : ∃ u : Nat, hi = u := ⟨hi.toNat, by omega⟩
      have p1 := natD_le (n := l) (by omega)
      have p2 := natD_le (n := u) (by omega)
      obtain ⟨T1, t1⟩ := takes_sign ha (grpS_is a) (starS_is a) (by simp) (by omega) (by simp) (tok_star (starS_is a)) hd
      obtain ⟨T2, t2⟩ := takes_sign ha (grpS_is a) (ivS_is a l u) (by simp) (by omega) (by simp; omega) (tok_intv (by omega) (by omega) (ivS_is a l u)) hd
      exact often_ok hG a (ofL (natD l)) (ofL (natD u)) l u m (by omega) (by omega) (by omega) (by rw [ofL_size]; omega) (by rw [ofL_size]; omega) (fun W => digits_nat l l (Nat.le_refl _) (by omega) W) (fun W => digits_nat u u (Nat.le_refl _) (by omega) W)
        (by have := t1.sz; rwa [Ps.sz] at this) hk hd hc (fun W hW => t2.calls (hG.kept hW)) (fun W hW => t1.calls (hG.kept hW))
    · exact often_deep hG a lo hi m h0 h1 h2 h3 h4 ha.sz hk hd hc
  · exact often_kind hG a lo hi m h0 h1 h2 h3 h4 ha.sz hk hc
end Go.Proofs.YtpfdapnfkghgkaaGreatDoor
