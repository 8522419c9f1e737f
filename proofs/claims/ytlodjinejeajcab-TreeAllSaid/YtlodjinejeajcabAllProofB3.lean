/-
  still: a tree is as it was. A tree laid out, as mathematics: its nodes in their order, each with what the document's list says of it.
-/
import Derived.Test.YtlodjinejeajcabAllProofB2
import Derived.Test.YtlodjinejeajcabC0
import Derived.Test.YtlodjinejeajcabC2
namespace Go.Proofs.Ytlodjinejeajcab
open Go Go.RowKit
attribute [local go_sem] ext_cell

set_option maxRecDepth 100000 in
set_option maxHeartbeats 8000000 in
theorem still_m : ∀ (m : Nat) (x n : Tr) (N : Nat → Prop) (w : World), x.sz ≤ m → TA w x → Sent N w x → TA w n → er x = er n →
    Calls Try.prog 27 #[.agg #[.int .i64 x.f.k, .int .i64 x.f.n, .int .i64 x.f.mn, .int .i64 x.f.mx, .slice x.f.rq x.f.rs.length x.f.rc, .slice x.f.kq x.f.kl x.f.kc], .agg #[.int .i64 n.f.k, .int .i64 n.f.n, .int .i64 n.f.mn, .int .i64 n.f.mx, .slice n.f.rq n.f.rs.length n.f.rc, .slice n.f.kq n.f.kl n.f.kc]] w fun e w' => e = .returned (.bool true) ∧ Below w.heap.size w w' := by
  intro m
  induction m with
  | zero => intro x n N w hm; exact absurd (sz_pos x) (by omega)
  | succ m ih =>
    intro x n N w hm hx hs hn he
    have IH := hide ih
    have HM := hide hm
    have HXX := hide hx
    have HSS := hide hs
    have HNN := hide hn
    obtain ⟨h1, h2, h3, h4, h5, h6⟩ := (er_iff x n).1 he
    have hxk := hx.node.kl
    have hnk := hn.node.kl
    have hln := hx.node.len
    obtain ⟨X, g, s1, s2, s3, s4, s5, -, -, s8⟩ := ((every_eq _).1 hs).1
    have hlen : x.ks.length = n.ks.length := by have := congrArg List.length h6; simpa using this
    obtain ⟨xq, xcap, xv, x1, x2, x3⟩ := hx.node.k.slice
    obtain ⟨nq, ncap, nv, n1, n2, n3⟩ := hn.node.k.slice
    injection nv with nq1 _ nc1
    injection xv with xq1 _ xc1
    obtain ⟨xf, xks⟩ := x
    obtain ⟨nf, nks⟩ := n
    obtain ⟨fk, fn, fmn, fmx, L, q, cap, kq, kl, kc⟩ := xf
    obtain ⟨gk, gn, gmn, gmx, L2, q2, cap2, kq2, kl2, kc2⟩ := nf
    have hxk' : kl = xks.length := hxk
    have hnk' : kl2 = nks.length := hnk
    have h1' : fk = gk := h1
    have h2' : fn = gn := h2
    have h3' : fmn = gmn := h3
    have h4' : fmx = gmx := h4
    have h5' : L = L2 := h5
    have s1' : q = some ⟨X, 0, none⟩ := s1
    have s2' : cap = L.length + 1 := s2
    have s3' : kq = some ⟨g, 0, none⟩ := s3
    have s4' : kc = xks.length + 1 := s4
    have hln' : L.length + 3 ≤ 8796093022208 := hln
    have HX3 := hide x3
    have HN3 := hide n3
    have nq1' : kq2 = nq := nq1
    have xq1' : kq = xq := xq1
    have X5 : Hid (XAt w X L) := s5
    have g8 : w.cell? ⟨g, xks.length * 6, none⟩ = some (.int .i64 (-7)) := s8
    have G8 := hide g8
    have hlen' : xks.length = nks.length := hlen
    have HLEN := hide hlen'
    have H6 : Hid (xks.map er = nks.map er) := h6
    have hkm : xks.length ≤ 9223372036854775806 := by
      have : xks.length ≤ maxLen := x1
      have h2 : xks.length ≤ xcap := x2
      have e : xks.length + 1 = xcap := by rw [← s4']; exact xc1
      have hk := hx.node.k
      rcases hk with ⟨p0, c0, e0, e1, -⟩ | ⟨g0, o0, c0, e0, -, -, hc, -⟩
      · have : xks = [] := e1
        rw [this]; simp
      · have e0' : Value.slice kq kl kc = .slice (some ⟨g0, o0, none⟩) xks.length c0 := e0
        injection e0' with _ _ e3
        have hc' : c0 ≤ maxLen := hc
        unfold maxLen at hc'
        omega
    subst hxk' hnk' h1' h2' h3' h4' h5' s1' s2' s3' s4' nq1'
    have NA := hide hx.node.r
    have NB := hide hn.node.r
    clear ih hm hx hs hn he h1 h2 h3 h4 h5 h6 hxk hnk hln s1 s2 s3 s4 s5 s8 hlen x1 x2 x3 n1 n2 n3 nq1 nc1 xq1 xc1 g8 hlen'
    subst xq1'
    dsimp only [Tr.f]
    have B1 : Hid (Below w.heap.size w ((w.alloc (.cells #[.int .i64 fk, .int .i64 fn, .int .i64 fmn, .int .i64 fmx, .slice (some ⟨X, 0, none⟩) L.length (L.length + 1), .slice (some ⟨g, 0, none⟩) xks.length (xks.length + 1)] 25)).alloc (.cells #[.int .i64 fk, .int .i64 fn, .int .i64 fmn, .int .i64 fmx, .slice q2 L.length cap2, .slice kq2 nks.length kc2] 25))) := ((Below.refl _ _).alloc (Nat.le_refl _) _).alloc (by simp) _
    have NX : Hid (BoxN ((w.alloc (.cells #[.int .i64 fk, .int .i64 fn, .int .i64 fmn, .int .i64 fmx, .slice (some ⟨X, 0, none⟩) L.length (L.length + 1), .slice (some ⟨g, 0, none⟩) xks.length (xks.length + 1)] 25)).alloc (.cells #[.int .i64 fk, .int .i64 fn, .int .i64 fmn, .int .i64 fmx, .slice q2 L.length cap2, .slice kq2 nks.length kc2] 25)) w.heap.size ⟨fk, fn, fmn, fmx, L, some ⟨X, 0, none⟩, L.length + 1, some ⟨g, 0, none⟩, xks.length, xks.length + 1⟩) := (Below.heap_alloc _ _ _ (by simp)).trans (alloc_new w _)
    have NN : Hid (BoxN ((w.alloc (.cells #[.int .i64 fk, .int .i64 fn, .int .i64 fmn, .int .i64 fmx, .slice (some ⟨X, 0, none⟩) L.length (L.length + 1), .slice (some ⟨g, 0, none⟩) xks.length (xks.length + 1)] 25)).alloc (.cells #[.int .i64 fk, .int .i64 fn, .int .i64 fmn, .int .i64 fmx, .slice q2 L.length cap2, .slice kq2 nks.length kc2] 25)) (w.heap.size + 1) ⟨fk, fn, fmn, fmx, L, q2, cap2, kq2, nks.length, kc2⟩) := (by
      have := alloc_new (w.alloc (.cells #[.int .i64 fk, .int .i64 fn, .int .i64 fmn, .int .i64 fmx, .slice (some ⟨X, 0, none⟩) L.length (L.length + 1), .slice (some ⟨g, 0, none⟩) xks.length (xks.length + 1)] 25)) (.cells #[.int .i64 fk, .int .i64 fn, .int .i64 fmn, .int .i64 fmx, .slice q2 L.length cap2, .slice kq2 nks.length kc2] 25)
      rwa [World.size_alloc] at this)
    go_enter Try.func27, Try.ntmps27
    go_upto_region 1 with fail
    generalize ((w.alloc (.cells #[.int .i64 fk, .int .i64 fn, .int .i64 fmn, .int .i64 fmx, .slice (some ⟨X, 0, none⟩) L.length (L.length + 1), .slice (some ⟨g, 0, none⟩) xks.length (xks.length + 1)] 25)).alloc (.cells #[.int .i64 fk, .int .i64 fn, .int .i64 fmn, .int .i64 fmx, .slice q2 L.length cap2, .slice kq2 nks.length kc2] 25)) = W1 at B1 NX NN ⊢
    generalize w.heap.size + 1 = bb at NN ⊢
    have c4 : W1.cell? ⟨w.heap.size, 4, none⟩ = some (.slice (some ⟨X, 0, none⟩) L.length (L.length + 1)) := NX.out.six.2.2.2.2.1
    have d4 : W1.cell? ⟨bb, 4, none⟩ = some (.slice q2 L.length cap2) := NN.out.six.2.2.2.2.1
    have AK : Hid (Calls Try.prog 26 #[.slice (some ⟨X, 0, none⟩) L.length (L.length + 1), .slice q2 L.length cap2] W1 fun e w' => e = .returned (.bool true) ∧ Below W1.heap.size W1 w') := (by
      have h := alike_c (NA.out.kept B1.out) (NB.out.kept B1.out)
      rw [decide_eq_true (show (Tr.mk ⟨fk, fn, fmn, fmx, L, some ⟨X, 0, none⟩, L.length + 1, some ⟨g, 0, none⟩, xks.length, xks.length + 1⟩ xks).f.rs = (Tr.mk ⟨fk, fn, fmn, fmx, L, q2, cap2, kq2, nks.length, kc2⟩ nks).f.rs from rfl)] at h
      exact h)
    go_upto_region 2 with (go_at_call 26; (with_reducible refine (AK.out).mono ?_); rintro e W2 ⟨rfl, h2⟩; have B2 := hide h2; clear h2)
    have B3 := hide (chain B1.out B2.out (Nat.le_refl _))
    have NX2 := hide ((B2.out.block _ (lt_of_heap NX.out)).trans NX.out)
    have NN2 := hide ((B2.out.block _ (lt_of_heap NN.out)).trans NN.out)
    obtain ⟨x0, x1, x2, x3, x4, x5⟩ := (show BoxN W2 w.heap.size ⟨fk, fn, fmn, fmx, L, some ⟨X, 0, none⟩, L.length + 1, some ⟨g, 0, none⟩, xks.length, xks.length + 1⟩ from NX2.out).six
    obtain ⟨n0, n1, n2, n3, n4, n5⟩ := (show BoxN W2 bb ⟨fk, fn, fmn, fmx, L, q2, cap2, kq2, nks.length, kc2⟩ from NN2.out).six
    simp only [Nat.zero_add] at x1 x2 x3 x4 x5 n1 n2 n3 n4 n5
    have X6 := X5.out.kept B3.out
    have hmm := X6.get (i := L.length) (r := (-7, 7)) (by simp)
    have mm1 := hmm.1
    have mm2 := hmm.2
    rw [Nat.mul_comm] at mm1 mm2
    have lg : g < w.heap.size := by
      rcases Nat.lt_or_ge g w.heap.size with k | k
      · exact k
      · have h0 : w.heap[g]? = none := Array.getElem?_eq_none k
        have := G8.out
        simp [World.cell?, h0] at this
    have g9 : W2.cell? ⟨g, xks.length * 6, none⟩ = some (.int .i64 (-7)) := (B3.out.cell (p := ⟨g, xks.length * 6, none⟩) lg).trans G8.out
    have ek : (fk != fk) = false := by simp
    have el : ((xks.length : Int) != (nks.length : Int)) = false := by have := HLEN.out; simp; omega
    have i0 : (0 : Int) ≤ (L.length : Int) := by omega
    have i1 : (L.length : Int) < (L.length : Int) + 1 := by omega
    have k0 : (0 : Int) ≤ (xks.length : Int) := by omega
    have k1 : (xks.length : Int) < (xks.length : Int) + 1 := by omega
    have b7 : ((-7 : Int) == -7) = true := rfl
    have b8 : ((7 : Int) == 7) = true := rfl
    have wn : IntKind.wrap .i64 ((L.length : Int) + 1) = (L.length : Int) + 1 := by rw [IntKind.wrap_i64]; omega
    have wk : IntKind.wrap .i64 ((xks.length : Int) + 1) = (xks.length : Int) + 1 := by rw [IntKind.wrap_i64]; omega
    clear c4 d4 AK NX NN B2 B1 X6 hmm
    go_upto_region 9 with fail
    clear mm1 mm2 g9 x0 x1 x2 x3 x4 x5 n0 n1 n2 n3 n4 n5
    go_loopw [8] (fun i wr => ∃ j : Nat, j ≤ nks.length ∧ i = .int .i64 (j : Int) ∧ Below W2.heap.size W2 wr) (fun i _ => nks.length - (intOf i).toNat)
    case atStart => exact ⟨0, Nat.zero_le _, rfl, Below.refl _ _⟩
    case round =>
      obtain ⟨j, hj, rfl, hbw⟩ := hrel
      have BW := hide (chain B3.out hbw (Nat.le_refl _))
      have NX3 : BoxN wr w.heap.size ⟨fk, fn, fmn, fmx, L, some ⟨X, 0, none⟩, L.length + 1, some ⟨g, 0, none⟩, xks.length, xks.length + 1⟩ := (hbw.block _ (lt_of_heap NX2.out)).trans NX2.out
      have NN3 : BoxN wr bb ⟨fk, fn, fmn, fmx, L, q2, cap2, kq2, nks.length, kc2⟩ := (hbw.block _ (lt_of_heap NN2.out)).trans NN2.out
      have x5 : wr.cell? ⟨w.heap.size, 5, none⟩ = some (.slice (some ⟨g, 0, none⟩) xks.length (xks.length + 1)) := NX3.six.2.2.2.2.2
      have n5 : wr.cell? ⟨bb, 5, none⟩ = some (.slice kq2 nks.length kc2) := NN3.six.2.2.2.2.2
      have lx := lt_of_heap NX3
      have lb := lt_of_heap NN3
      have HBW := hide hbw
      clear hbw NX3 NN3
      by_cases hjl : j < nks.length
      · have j0 : (j : Int) < (nks.length : Int) := by omega
        have j1 : (j : Int) < (xks.length : Int) := by have := HLEN.out; omega
        obtain ⟨u, hu⟩ : ∃ u, nks[j]? = some u := ⟨_, List.getElem?_eq_getElem hjl⟩
        obtain ⟨v, hv⟩ : ∃ v, xks[j]? = some v := ⟨_, List.getElem?_eq_getElem (by have := HLEN.out; omega)⟩
        have hev : er v = er u := by
          have := congrArg (fun l => l[j]?) H6.out
          simp only [List.getElem?_map, hu, hv, Option.map_some] at this
          injection this
        obtain ⟨g2, off2, hq2, hg2, hs2⟩ := HN3.out j u hu
        obtain ⟨g3, off3, hq3, hg3, hs3⟩ := HX3.out j v hv
        subst hq2
        injection hq3 with hq3
        injection hq3 with e1 e2
        subst e1 e2
        obtain ⟨u0, u1, u2, u3, u4, u5⟩ := hs2.ck (CK.of_below BW.out) hg2
        obtain ⟨v0, v1, v2, v3, v4, v5⟩ := hs3.ck (CK.of_below BW.out) hg3
        simp only [Nat.zero_add] at v0 v1 v2 v3 v4 v5
        have lg2 : g2 < wr.heap.size := Nat.lt_of_lt_of_le hg2 BW.out.size
        have lg3 : g < wr.heap.size := Nat.lt_of_lt_of_le hg3 BW.out.size
        have hvi : v ∈ (Tr.mk ⟨fk, fn, fmn, fmx, L, some ⟨X, 0, none⟩, L.length + 1, some ⟨g, 0, none⟩, xks.length, xks.length + 1⟩ xks).ks := List.mem_of_getElem? hv
        have hui : u ∈ (Tr.mk ⟨fk, fn, fmn, fmx, L, q2, cap2, some ⟨g2, off2, none⟩, nks.length, kc2⟩ nks).ks := List.mem_of_getElem? hu
        have IU : Hid (∀ z : Ext wr, Calls Try.prog 27 #[.agg #[.int .i64 v.f.k, .int .i64 v.f.n, .int .i64 v.f.mn, .int .i64 v.f.mx, .slice v.f.rq v.f.rs.length v.f.rc, .slice v.f.kq v.f.kl v.f.kc], .agg #[.int .i64 u.f.k, .int .i64 u.f.n, .int .i64 u.f.mn, .int .i64 u.f.mx, .slice u.f.rq u.f.rs.length u.f.rc, .slice u.f.kq u.f.kl u.f.kc]] z.val fun e w'' => e = .returned (.bool true) ∧ ∃ y : Ext wr, w'' = y.val) := fun z => ext_call (IH.out v u N z.val (by have := sz_kid hvi; have := HM.out; omega) (((HXX.out.kid hvi).kept BW.out).kept (ext_below z)) ((Sent.kept (every_kid HSS.out hvi) BW.out).kept (ext_below z)) (((HNN.out.kid hui).kept BW.out).kept (ext_below z)) hev)
        clear hu hv hev hs2 hs3 hg2 hg3 hvi hui
        go_upto_region 11 with fail
        refine wp_region_ext (by kernel_rfl) (by kernel_rfl) ?_
        repeat (go_big_quiet_step (first | exact rfl | (go_at_call 27; with_reducible exact IU.out _)))
        refine wpQuiet_nil ?_
        intro w6 hw
        have B6 := hide (chain HBW.out (ext_of hw) (by have := HBW.out.size; omega))
        clear hw
        go_wp2
        go_roundw
        case rel => exact ⟨j + 1, by omega, by go_num, B6.out⟩
        case measure => simp only [intOf]; omega
      · have j0 : ¬ (j : Int) < (nks.length : Int) := by omega
        go_wp2
        go_ret
        exact ⟨rfl, BW.out⟩
end Go.Proofs.Ytlodjinejeajcab
namespace Go.Proofs.Ytlodjinejeajcab
open Go Go.RowKit

abbrev Zl := El × Nat
def arP : Way → Int | [] => 0 | (par, _) :: _ => par.f.k
def fiP : Way → Bool | [] => true | (_, i) :: _ => (i : Int) == 0
def laP : Way → Bool | [] => true | (par, i) :: _ => (i : Int) == (par.ks.length : Int) - 1
def brP : Way → Bool | [] => true | (par, _) :: r => if par.f.k = 7 ∨ par.f.k = 6 then true else if par.f.k = 5 then brP r else false
/-- A place's twelve cells. -/
def zc (z : Zl) : List Value := z.1.2.f.cells ++ [.int .i64 ((z.1.1.length : Int) + 1), .int .i64 (arP z.1.1), .bool (fiP z.1.1), .bool (laP z.1.1), .bool (brP z.1.1), .int .i64 (z.2 : Int)]
theorem zc_len (z : Zl) : (zc z).length = 12 := by simp [zc, Fl.cells]
def cellsZ (l : List Zl) : List Value := l.flatMap zc
theorem cellsZ_cons (z : Zl) (l : List Zl) : cellsZ (z :: l) = zc z ++ cellsZ l := by simp [cellsZ]
theorem cellsZ_append (a b : List Zl) : cellsZ (a ++ b) = cellsZ a ++ cellsZ b := by simp [cellsZ]
theorem cellsZ_length (l : List Zl) : (cellsZ l).length = l.length * 12 := by
  induction l with
  | nil => rfl
  | cons z l ih => rw [cellsZ_cons, List.length_append, ih, zc_len, List.length_cons]; omega
theorem cellsZ_get : ∀ (l : List Zl) (i j : Nat) (z : Zl), l[i]? = some z → j < 12 → (cellsZ l)[i * 12 + j]? = (zc z)[j]?
  | y :: l, 0, j, z, h, hj => by
    simp at h
    subst h
    rw [cellsZ_cons, Nat.zero_mul, Nat.zero_add, List.getElem?_append_left (by rw [zc_len]; exact hj)]
  | y :: l, i + 1, j, z, h, hj => by
    have ih := cellsZ_get l i j z (by simpa using h) hj
    rw [cellsZ_cons, List.getElem?_append_right (by rw [zc_len]; omega), ← ih, zc_len]
    congr 1
    omega
theorem cellsZ_set : ∀ (l : List Zl) (i : Nat) (x : El) (a b : Nat), l[i]? = some (x, a) → (cellsZ l).set (i * 12 + 11) (.int .i64 (b : Int)) = cellsZ (l.set i (x, b))
  | y :: l, 0, x, a, b, h => by
    simp at h
    subst h
    rw [List.set_cons_zero, cellsZ_cons, cellsZ_cons, Nat.zero_mul, Nat.zero_add, List.set_append_left _ _ (by rw [zc_len]; omega)]
    congr 1
  | y :: l, i + 1, x, a, b, h => by
    have ih := cellsZ_set l i x a b (by simpa using h)
    rw [List.set_cons_succ, cellsZ_cons, cellsZ_cons, List.set_append_right _ _ (by rw [zc_len]; omega), ← ih, zc_len]
    congr 2
    omega
/-- The nodes behind a place, each with where it ends. -/
def tl (most : Nat) : Nat → List El → List Zl
  | _, [] => []
  | k, x :: r => (x, min (k + x.2.sz) most) :: tl most (k + 1) r
theorem tl_append (most : Nat) : ∀ (a b : List El) (k : Nat), tl most k (a ++ b) = tl most k a ++ tl most (k + a.length) b
  | [], b, k => rfl
  | x :: a, b, k => by
    rw [List.cons_append, tl, tl, tl_append most a b (k + 1), List.cons_append, List.length_cons]
    congr 3
    omega
theorem tl_length (most : Nat) : ∀ (a : List El) (k : Nat), (tl most k a).length = a.length
  | [], k => rfl
  | x :: a, k => by rw [tl, List.length_cons, tl_length most a, List.length_cons]
theorem tl_map (most : Nat) : ∀ (a : List El) (k : Nat), (tl most k a).map (·.1) = a
  | [], k => rfl
  | x :: a, k => by rw [tl, List.map_cons, tl_map most a]
/-- What lay makes of a list. -/
def layS (most : Nat) (E : List Zl) (x : El) : List Zl := E ++ (tl most E.length (pp x.1 x.2)).take (most - E.length)
/-- How lay's loop stands. -/
def layI (most : Nat) (E : List Zl) (p : Way) (t : Tr) (j : Nat) : List Zl := E ++ (((p, t), 0) :: tl most (E.length + 1) (pps t p 0 (t.ks.take j))).take (most - E.length)
theorem layI_nil {most : Nat} {E : List Zl} {p : Way} {t : Tr} (h : E.length < most) : layI most E p t 0 = E ++ [((p, t), 0)] := by
  unfold layI
  rw [List.take_zero, pps_nil]
  congr 1
  rw [show most - E.length = (most - E.length - 1) + 1 by omega, List.take_succ_cons]
  simp [tl]
theorem layI_len {most : Nat} {E : List Zl} {p : Way} {t : Tr} {j : Nat} (h : E.length < most) : E.length < (layI most E p t j).length ∧ (layI most E p t j).length ≤ most ∧ (layI most E p t j).length = E.length + min (most - E.length) (1 + (pps t p 0 (t.ks.take j)).length) := by
  have : (layI most E p t j).length = E.length + min (most - E.length) (1 + (pps t p 0 (t.ks.take j)).length) := by
    unfold layI
    rw [List.length_append, List.length_take, List.length_cons, tl_length]
    congr 2
    omega
  refine ⟨?_, ?_, this⟩
  · rw [this]; omega
  · rw [this]; omega
theorem layI_head {most : Nat} {E : List Zl} {p : Way} {t : Tr} {j : Nat} (h : E.length < most) : (layI most E p t j)[E.length]? = some ((p, t), 0) := by
  unfold layI
  rw [List.getElem?_append_right (Nat.le_refl _), Nat.sub_self, show most - E.length = (most - E.length - 1) + 1 by omega, List.take_succ_cons]
  rfl
theorem take_next8 (most : Nat) (E : List Zl) (z : Zl) (A B : List El) (hf : E.length + (1 + A.length) < most) :
    (E ++ (z :: tl most (E.length + 1) A)) ++ (tl most (E.length + (1 + A.length)) B).take (most - (E.length + (1 + A.length))) = E ++ (z :: tl most (E.length + 1) (A ++ B)).take (most - E.length) := by
  rw [tl_append, List.append_assoc, ← List.cons_append]
  congr 1
  have hl : (z :: tl most (E.length + 1) A).length = 1 + A.length := by rw [List.length_cons, tl_length]; omega
  have h1 : ((z :: tl most (E.length + 1) A) ++ tl most (E.length + 1 + A.length) B).take (most - E.length) = (z :: tl most (E.length + 1) A) ++ (tl most (E.length + 1 + A.length) B).take (most - E.length - (1 + A.length)) := by
    rw [List.take_append, List.take_of_length_le (by rw [hl]; omega), hl]
  rw [h1, show E.length + 1 + A.length = E.length + (1 + A.length) by omega, show most - E.length - (1 + A.length) = most - (E.length + (1 + A.length)) by omega]
theorem layI_next {most : Nat} {E : List Zl} {p : Way} {t u : Tr} {j : Nat} (h : E.length < most) (hu : t.ks[j]? = some u) (hl : (layI most E p t j).length < most) : layS most (layI most E p t j) ((t, j) :: p, u) = layI most E p t (j + 1) := by
  have hlen := (layI_len (p := p) (t := t) (j := j) h).2.2
  have e1 : layI most E p t j = E ++ (((p, t), 0) :: tl most (E.length + 1) (pps t p 0 (t.ks.take j))) := by
    unfold layI
    rw [List.take_of_length_le (by rw [List.length_cons, tl_length]; omega)]
  have hfull : (layI most E p t j).length = E.length + (1 + (pps t p 0 (t.ks.take j)).length) := by omega
  have e2 : layI most E p t (j + 1) = E ++ (((p, t), 0) :: tl most (E.length + 1) (pps t p 0 (t.ks.take j) ++ pp ((t, j) :: p) u)).take (most - E.length) := by
    unfold layI
    rw [pps_take hu]
  rw [e2]
  unfold layS
  rw [hfull, ← take_next8 most E _ _ _ (by omega), ← e1]
theorem layI_full {most : Nat} {E : List Zl} {p : Way} {t : Tr} {j : Nat} (h : E.length < most) (hl : ¬ (layI most E p t j).length < most) : layI most E p t j = layI most E p t t.ks.length := by
  have hlen := layI_len (p := p) (t := t) (j := j) h
  have hbig : most - E.length ≤ 1 + (pps t p 0 (t.ks.take j)).length := by omega
  unfold layI
  congr 1
  have hp : pps t p 0 (t.ks.take j) <+: pps t p 0 (t.ks.take t.ks.length) := by
    rw [List.take_length]
    exact pps_pre j
  obtain ⟨r, hr⟩ := hp
  rw [← hr, tl_append, ← List.cons_append, List.take_append_of_le_length (by rw [List.length_cons, tl_length]; omega)]
theorem layI_end {most : Nat} {E : List Zl} {p : Way} {t : Tr} (h : E.length < most) : (layI most E p t t.ks.length).set E.length ((p, t), (layI most E p t t.ks.length).length) = layS most E (p, t) := by
  have hlen := (layI_len (p := p) (t := t) (j := t.ks.length) h).2.2
  have hsz : 1 + (pps t p 0 (t.ks.take t.ks.length)).length = t.sz := by
    have := pp_len t p
    rw [pp_eq, List.length_cons] at this
    rw [List.take_length]
    omega
  rw [hlen, hsz]
  unfold layI layS
  rw [List.set_append_right _ _ (Nat.le_refl _), Nat.sub_self, show most - E.length = (most - E.length - 1) + 1 by omega, List.take_succ_cons, List.set_cons_zero]
  congr 1
  show _ = (tl most E.length (pp p t)).take _
  rw [pp_eq, tl, List.take_succ_cons, List.take_length]
  congr 2
  show _ = min (E.length + t.sz) most
  omega
end Go.Proofs.Ytlodjinejeajcab
