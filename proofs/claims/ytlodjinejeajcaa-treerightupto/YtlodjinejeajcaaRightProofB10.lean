/-
  still: a tree is as it was. The document's answer: Same. large, lent, kept; what a tree is decides how many nodes it has, how deep it is, how many groups.
-/
import Derived.Test.YtlodjinejeajcaaRightProofB9
import Derived.Test.YtlodjinejeajcaaC0
import Derived.Test.YtlodjinejeajcaaRightProofB7
import Derived.Test.YtlodjinejeajcaaC1
import Derived.Test.YtlodjinejeajcaaRightProofB3
import Derived.Test.YtlodjinejeajcaaRightProofB8
namespace Go.Proofs.Ytlodjinejeajcaa
open Go Go.RowKit
attribute [local go_sem] ext_cell

set_option maxRecDepth 100000 in
set_option maxHeartbeats 8000000 in
theorem still_m : ∀ (m : Nat) (x n : Tr) (N : Nat → Prop) (w : World), x.sz ≤ m → TA w x → Sent N w x → TA w n → er x = er n →
    Calls Try.prog 40 #[.agg #[.int .i64 x.f.k, .int .i64 x.f.n, .int .i64 x.f.mn, .int .i64 x.f.mx, .slice x.f.rq x.f.rs.length x.f.rc, .slice x.f.kq x.f.kl x.f.kc], .agg #[.int .i64 n.f.k, .int .i64 n.f.n, .int .i64 n.f.mn, .int .i64 n.f.mx, .slice n.f.rq n.f.rs.length n.f.rc, .slice n.f.kq n.f.kl n.f.kc]] w fun e w' => e = .returned (.bool true) ∧ Below w.heap.size w w' := by
  intro m
  induction m with
  | zero => intro x n N w hm; exact absurd (sz_pos x) (by omega)
  | succ m ih =>
    intro x n N w hm hx hs hn he
    have IH := hide ih
    have HM := hide hm
    have HXX := hide hx
    have HSS := hide hs
    have HNN := hide hn
    obtain ⟨h1, h2, h3, h4, h5, h6⟩ := (er_iff x n).1 he
    have hxk := hx.node.kl
    have hnk := hn.node.kl
    have hln := hx.node.len
    obtain ⟨X, g, s1, s2, s3, s4, s5, -, -, s8⟩ := ((every_eq _).1 hs).1
    have hlen : x.ks.length = n.ks.length := by have := congrArg List.length h6; simpa using this
    obtain ⟨xq, xcap, xv, x1, x2, x3⟩ := hx.node.k.slice
    obtain ⟨nq, ncap, nv, n1, n2, n3⟩ := hn.node.k.slice
    injection nv with nq1 _ nc1
    injection xv with xq1 _ xc1
    obtain ⟨xf, xks⟩ := x
    obtain ⟨nf, nks⟩ := n
    obtain ⟨fk, fn, fmn, fmx, L, q, cap, kq, kl, kc⟩ := xf
    obtain ⟨gk, gn, gmn, gmx, L2, q2, cap2, kq2, kl2, kc2⟩ := nf
    have hxk' : kl = xks.length := hxk
    have hnk' : kl2 = nks.length := hnk
    have h1' : fk = gk := h1
    have h2' : fn = gn := h2
    have h3' : fmn = gmn := h3
    have h4' : fmx = gmx := h4
    have h5' : L = L2 := h5
    have s1' : q = some ⟨X, 0, none⟩ := s1
    have s2' : cap = L.length + 1 := s2
    have s3' : kq = some ⟨g, 0, none⟩ := s3
    have s4' : kc = xks.length + 1 := s4
    have hln' : L.length + 3 ≤ 8796093022208 := hln
    have HX3 := hide x3
    have HN3 := hide n3
    have nq1' : kq2 = nq := nq1
    have xq1' : kq = xq := xq1
    have X5 : Hid (XAt w X L) := s5
    have g8 : w.cell? ⟨g, xks.length * 6, none⟩ = some (.int .i64 (-7)) := s8
    have G8 := hide g8
    have hlen' : xks.length = nks.length := hlen
    have HLEN := hide hlen'
    have H6 : Hid (xks.map er = nks.map er) := h6
    have hkm : xks.length ≤ 9223372036854775806 := by
      have : xks.length ≤ maxLen := x1
      have h2 : xks.length ≤ xcap := x2
      have e : xks.length + 1 = xcap := by rw [← s4']; exact xc1
      have hk := hx.node.k
      rcases hk with ⟨p0, c0, e0, e1, -⟩ | ⟨g0, o0, c0, e0, -, -, hc, -⟩
      · have : xks = [] := e1
        rw [this]; simp
      · have e0' : Value.slice kq kl kc = .slice (some ⟨g0, o0, none⟩) xks.length c0 := e0
        injection e0' with _ _ e3
        have hc' : c0 ≤ maxLen := hc
        unfold maxLen at hc'
        omega
    subst hxk' hnk' h1' h2' h3' h4' h5' s1' s2' s3' s4' nq1'
    have NA := hide hx.node.r
    have NB := hide hn.node.r
    clear ih hm hx hs hn he h1 h2 h3 h4 h5 h6 hxk hnk hln s1 s2 s3 s4 s5 s8 hlen x1 x2 x3 n1 n2 n3 nq1 nc1 xq1 xc1 g8 hlen'
    subst xq1'
    dsimp only [Tr.f]
    have B1 : Hid (Below w.heap.size w ((w.alloc (.cells #[.int .i64 fk, .int .i64 fn, .int .i64 fmn, .int .i64 fmx, .slice (some ⟨X, 0, none⟩) L.length (L.length + 1), .slice (some ⟨g, 0, none⟩) xks.length (xks.length + 1)] 25)).alloc (.cells #[.int .i64 fk, .int .i64 fn, .int .i64 fmn, .int .i64 fmx, .slice q2 L.length cap2, .slice kq2 nks.length kc2] 25))) := ((Below.refl _ _).alloc (Nat.le_refl _) _).alloc (by simp) _
    have NX : Hid (BoxN ((w.alloc (.cells #[.int .i64 fk, .int .i64 fn, .int .i64 fmn, .int .i64 fmx, .slice (some ⟨X, 0, none⟩) L.length (L.length + 1), .slice (some ⟨g, 0, none⟩) xks.length (xks.length + 1)] 25)).alloc (.cells #[.int .i64 fk, .int .i64 fn, .int .i64 fmn, .int .i64 fmx, .slice q2 L.length cap2, .slice kq2 nks.length kc2] 25)) w.heap.size ⟨fk, fn, fmn, fmx, L, some ⟨X, 0, none⟩, L.length + 1, some ⟨g, 0, none⟩, xks.length, xks.length + 1⟩) := (Below.heap_alloc _ _ _ (by simp)).trans (alloc_new w _)
    have NN : Hid (BoxN ((w.alloc (.cells #[.int .i64 fk, .int .i64 fn, .int .i64 fmn, .int .i64 fmx, .slice (some ⟨X, 0, none⟩) L.length (L.length + 1), .slice (some ⟨g, 0, none⟩) xks.length (xks.length + 1)] 25)).alloc (.cells #[.int .i64 fk, .int .i64 fn, .int .i64 fmn, .int .i64 fmx, .slice q2 L.length cap2, .slice kq2 nks.length kc2] 25)) (w.heap.size + 1) ⟨fk, fn, fmn, fmx, L, q2, cap2, kq2, nks.length, kc2⟩) := (by
      have := alloc_new (w.alloc (.cells #[.int .i64 fk, .int .i64 fn, .int .i64 fmn, .int .i64 fmx, .slice (some ⟨X, 0, none⟩) L.length (L.length + 1), .slice (some ⟨g, 0, none⟩) xks.length (xks.length + 1)] 25)) (.cells #[.int .i64 fk, .int .i64 fn, .int .i64 fmn, .int .i64 fmx, .slice q2 L.length cap2, .slice kq2 nks.length kc2] 25)
      rwa [World.size_alloc] at this)
    go_enter Try.func40, Try.ntmps40
    go_upto_region 1 with fail
    generalize ((w.alloc (.cells #[.int .i64 fk, .int .i64 fn, .int .i64 fmn, .int .i64 fmx, .slice (some ⟨X, 0, none⟩) L.length (L.length + 1), .slice (some ⟨g, 0, none⟩) xks.length (xks.length + 1)] 25)).alloc (.cells #[.int .i64 fk, .int .i64 fn, .int .i64 fmn, .int .i64 fmx, .slice q2 L.length cap2, .slice kq2 nks.length kc2] 25)) = W1 at B1 NX NN ⊢
    generalize w.heap.size + 1 = bb at NN ⊢
    have c4 : W1.cell? ⟨w.heap.size, 4, none⟩ = some (.slice (some ⟨X, 0, none⟩) L.length (L.length + 1)) := NX.out.six.2.2.2.2.1
    have d4 : W1.cell? ⟨bb, 4, none⟩ = some (.slice q2 L.length cap2) := NN.out.six.2.2.2.2.1
    have AK : Hid (Calls Try.prog 43 #[.slice (some ⟨X, 0, none⟩) L.length (L.length + 1), .slice q2 L.length cap2] W1 fun e w' => e = .returned (.bool true) ∧ Below W1.heap.size W1 w') := (by
      have h := alike_c (NA.out.kept B1.out) (NB.out.kept B1.out)
      rw [decide_eq_true (show (Tr.mk ⟨fk, fn, fmn, fmx, L, some ⟨X, 0, none⟩, L.length + 1, some ⟨g, 0, none⟩, xks.length, xks.length + 1⟩ xks).f.rs = (Tr.mk ⟨fk, fn, fmn, fmx, L, q2, cap2, kq2, nks.length, kc2⟩ nks).f.rs from rfl)] at h
      exact h)
    go_upto_region 2 with (go_at_call 43; (with_reducible refine (AK.out).mono ?_); rintro e W2 ⟨rfl, h2⟩; have B2 := hide h2; clear h2)
    have B3 := hide (chain B1.out B2.out (Nat.le_refl _))
    have NX2 := hide ((B2.out.block _ (lt_of_heap NX.out)).trans NX.out)
    have NN2 := hide ((B2.out.block _ (lt_of_heap NN.out)).trans NN.out)
    obtain ⟨x0, x1, x2, x3, x4, x5⟩ := (show BoxN W2 w.heap.size ⟨fk, fn, fmn, fmx, L, some ⟨X, 0, none⟩, L.length + 1, some ⟨g, 0, none⟩, xks.length, xks.length + 1⟩ from NX2.out).six
    obtain ⟨n0, n1, n2, n3, n4, n5⟩ := (show BoxN W2 bb ⟨fk, fn, fmn, fmx, L, q2, cap2, kq2, nks.length, kc2⟩ from NN2.out).six
    simp only [Nat.zero_add] at x1 x2 x3 x4 x5 n1 n2 n3 n4 n5
    have X6 := X5.out.kept B3.out
    have hmm := X6.get (i := L.length) (r := (-7, 7)) (by simp)
    have mm1 := hmm.1
    have mm2 := hmm.2
    rw [Nat.mul_comm] at mm1 mm2
    have lg : g < w.heap.size := by
      rcases Nat.lt_or_ge g w.heap.size with k | k
      · exact k
      · have h0 : w.heap[g]? = none := Array.getElem?_eq_none k
        have := G8.out
        simp [World.cell?, h0] at this
    have g9 : W2.cell? ⟨g, xks.length * 6, none⟩ = some (.int .i64 (-7)) := (B3.out.cell (p := ⟨g, xks.length * 6, none⟩) lg).trans G8.out
    have ek : (fk != fk) = false := by simp
    have el : ((xks.length : Int) != (nks.length : Int)) = false := by have := HLEN.out; simp; omega
    have i0 : (0 : Int) ≤ (L.length : Int) := by omega
    have i1 : (L.length : Int) < (L.length : Int) + 1 := by omega
    have k0 : (0 : Int) ≤ (xks.length : Int) := by omega
    have k1 : (xks.length : Int) < (xks.length : Int) + 1 := by omega
    have b7 : ((-7 : Int) == -7) = true := rfl
    have b8 : ((7 : Int) == 7) = true := rfl
    have wn : IntKind.wrap .i64 ((L.length : Int) + 1) = (L.length : Int) + 1 := by rw [IntKind.wrap_i64]; omega
    have wk : IntKind.wrap .i64 ((xks.length : Int) + 1) = (xks.length : Int) + 1 := by rw [IntKind.wrap_i64]; omega
    clear c4 d4 AK NX NN B2 B1 X6 hmm
    go_upto_region 9 with fail
    clear mm1 mm2 g9 x0 x1 x2 x3 x4 x5 n0 n1 n2 n3 n4 n5
    go_loopw [8] (fun i wr => ∃ j : Nat, j ≤ nks.length ∧ i = .int .i64 (j : Int) ∧ Below W2.heap.size W2 wr) (fun i _ => nks.length - (intOf i).toNat)
    case atStart => exact ⟨0, Nat.zero_le _, rfl, Below.refl _ _⟩
    case round =>
      obtain ⟨j, hj, rfl, hbw⟩ := hrel
      have BW := hide (chain B3.out hbw (Nat.le_refl _))
      have NX3 : BoxN wr w.heap.size ⟨fk, fn, fmn, fmx, L, some ⟨X, 0, none⟩, L.length + 1, some ⟨g, 0, none⟩, xks.length, xks.length + 1⟩ := (hbw.block _ (lt_of_heap NX2.out)).trans NX2.out
      have NN3 : BoxN wr bb ⟨fk, fn, fmn, fmx, L, q2, cap2, kq2, nks.length, kc2⟩ := (hbw.block _ (lt_of_heap NN2.out)).trans NN2.out
      have x5 : wr.cell? ⟨w.heap.size, 5, none⟩ = some (.slice (some ⟨g, 0, none⟩) xks.length (xks.length + 1)) := NX3.six.2.2.2.2.2
      have n5 : wr.cell? ⟨bb, 5, none⟩ = some (.slice kq2 nks.length kc2) := NN3.six.2.2.2.2.2
      have lx := lt_of_heap NX3
      have lb := lt_of_heap NN3
      have HBW := hide hbw
      clear hbw NX3 NN3
      by_cases hjl : j < nks.length
      · have j0 : (j : Int) < (nks.length : Int) := by omega
        have j1 : (j : Int) < (xks.length : Int) := by have := HLEN.out; omega
        obtain ⟨u, hu⟩ : ∃ u, nks[j]? = some u := ⟨_, List.getElem?_eq_getElem hjl⟩
        obtain ⟨v, hv⟩ : ∃ v, xks[j]? = some v := ⟨_, List.getElem?_eq_getElem (by have := HLEN.out; omega)⟩
        have hev : er v = er u := by
          have := congrArg (fun l => l[j]?) H6.out
          simp only [List.getElem?_map, hu, hv, Option.map_some] at this
          injection this
        obtain ⟨g2, off2, hq2, hg2, hs2⟩ := HN3.out j u hu
        obtain ⟨g3, off3, hq3, hg3, hs3⟩ := HX3.out j v hv
        subst hq2
        injection hq3 with hq3
        injection hq3 with e1 e2
        subst e1 e2
        obtain ⟨u0, u1, u2, u3, u4, u5⟩ := hs2.ck (CK.of_below BW.out) hg2
        obtain ⟨v0, v1, v2, v3, v4, v5⟩ := hs3.ck (CK.of_below BW.out) hg3
        simp only [Nat.zero_add] at v0 v1 v2 v3 v4 v5
        have lg2 : g2 < wr.heap.size := Nat.lt_of_lt_of_le hg2 BW.out.size
        have lg3 : g < wr.heap.size := Nat.lt_of_lt_of_le hg3 BW.out.size
        have hvi : v ∈ (Tr.mk ⟨fk, fn, fmn, fmx, L, some ⟨X, 0, none⟩, L.length + 1, some ⟨g, 0, none⟩, xks.length, xks.length + 1⟩ xks).ks := List.mem_of_getElem? hv
        have hui : u ∈ (Tr.mk ⟨fk, fn, fmn, fmx, L, q2, cap2, some ⟨g2, off2, none⟩, nks.length, kc2⟩ nks).ks := List.mem_of_getElem? hu
        have IU : Hid (∀ z : Ext wr, Calls Try.prog 40 #[.agg #[.int .i64 v.f.k, .int .i64 v.f.n, .int .i64 v.f.mn, .int .i64 v.f.mx, .slice v.f.rq v.f.rs.length v.f.rc, .slice v.f.kq v.f.kl v.f.kc], .agg #[.int .i64 u.f.k, .int .i64 u.f.n, .int .i64 u.f.mn, .int .i64 u.f.mx, .slice u.f.rq u.f.rs.length u.f.rc, .slice u.f.kq u.f.kl u.f.kc]] z.val fun e w'' => e = .returned (.bool true) ∧ ∃ y : Ext wr, w'' = y.val) := fun z => ext_call (IH.out v u N z.val (by have := sz_kid hvi; have := HM.out; omega) (((HXX.out.kid hvi).kept BW.out).kept (ext_below z)) ((Sent.kept (every_kid HSS.out hvi) BW.out).kept (ext_below z)) (((HNN.out.kid hui).kept BW.out).kept (ext_below z)) hev)
        clear hu hv hev hs2 hs3 hg2 hg3 hvi hui
        go_upto_region 11 with fail
        refine wp_region_ext (by kernel_rfl) (by kernel_rfl) ?_
        repeat (go_big_quiet_step (first | exact rfl | (go_at_call 40; with_reducible exact IU.out _)))
        refine wpQuiet_nil ?_
        intro w6 hw
        have B6 := hide (chain HBW.out (ext_of hw) (by have := HBW.out.size; omega))
        clear hw
        go_wp2
        go_roundw
        case rel => exact ⟨j + 1, by omega, by go_num, B6.out⟩
        case measure => simp only [intOf]; omega
      · have j0 : ¬ (j : Int) < (nks.length : Int) := by omega
        go_wp2
        go_ret
        exact ⟨rfl, BW.out⟩
end Go.Proofs.Ytlodjinejeajcaa
namespace Go.Proofs.Ytlodjinejeajcaa
open Go Go.RowKit

abbrev Sg := Int × Int × Int × Int × List (Int × Int) × Nat
def sig (t : Tr) : Sg := (t.f.k, t.f.n, t.f.mn, t.f.mx, t.f.rs, t.ks.length)
def sgs (l : List El) : List Sg := l.map fun x => sig x.2
theorem sgs_append (a b : List El) : sgs (a ++ b) = sgs a ++ sgs b := by simp [sgs]
theorem sig_of {a b : Tr} (h : er a = er b) : sig a = sig b := by
  obtain ⟨h1, h2, h3, h4, h5, h6⟩ := (er_iff a b).1 h
  have := congrArg List.length h6
  rw [List.length_map, List.length_map] at this
  unfold sig
  rw [h1, h2, h3, h4, h5, this]
/-- The nodes' words in the tree's order are the tree. -/
theorem sgs_inj (a : Tr) : ∀ (b : Tr) (p q : Way) (X Y : List Sg), sgs (pp p a) ++ X = sgs (pp q b) ++ Y → er a = er b ∧ X = Y := by
  refine Tr.ind (P := fun a => ∀ (b : Tr) (p q : Way) (X Y : List Sg), sgs (pp p a) ++ X = sgs (pp q b) ++ Y → er a = er b ∧ X = Y) (fun a ih b p q X Y h => ?_) a
  have key : ∀ (ks js : List Tr) (i i' : Nat) (X Y : List Sg), (∀ u ∈ ks, u ∈ a.ks) → ks.length = js.length → sgs (pps a p i ks) ++ X = sgs (pps b q i' js) ++ Y → ks.map er = js.map er ∧ X = Y := by
    intro ks
    induction ks with
    | nil =>
      intro js i i' X Y _ hl h
      cases js with
      | nil => rw [pps_nil, pps_nil] at h; exact ⟨rfl, h⟩
      | cons v js => cases hl
    | cons u ks ihk =>
      intro js i i' X Y hm hl h
      cases js with
      | nil => cases hl
      | cons v js =>
        rw [pps_cons, pps_cons, sgs_append, sgs_append, List.append_assoc, List.append_assoc] at h
        obtain ⟨h1, h2⟩ := ih u (hm u List.mem_cons_self) v _ _ _ _ h
        obtain ⟨h3, h4⟩ := ihk js _ _ X Y (fun z hz => hm z (List.mem_cons_of_mem _ hz)) (by simpa using hl) h2
        rw [List.map_cons, List.map_cons, h1, h3]
        exact ⟨rfl, h4⟩
  rw [pp_eq, pp_eq] at h
  simp only [sgs, List.map_cons, List.cons_append] at h
  injection h with h1 h2
  obtain ⟨h5, h6⟩ := key a.ks b.ks 0 0 X Y (fun _ z => z) (congrArg (fun s : Sg => s.2.2.2.2.2) h1) h2
  refine ⟨(er_iff a b).2 ⟨congrArg (fun s : Sg => s.1) h1, congrArg (fun s : Sg => s.2.1) h1, congrArg (fun s : Sg => s.2.2.1) h1, congrArg (fun s : Sg => s.2.2.2.1) h1, congrArg (fun s : Sg => s.2.2.2.2.1) h1, h5⟩, h6⟩
theorem sgs_of (a : Tr) : ∀ (b : Tr) (p q : Way), er a = er b → sgs (pp p a) = sgs (pp q b) := by
  refine Tr.ind (P := fun a => ∀ (b : Tr) (p q : Way), er a = er b → sgs (pp p a) = sgs (pp q b)) (fun a ih b p q h => ?_) a
  have hs := sig_of h
  obtain ⟨-, -, -, -, -, h6⟩ := (er_iff a b).1 h
  have key : ∀ (ks js : List Tr) (i i' : Nat), (∀ u ∈ ks, u ∈ a.ks) → ks.map er = js.map er → sgs (pps a p i ks) = sgs (pps b q i' js) := by
    intro ks
    induction ks with
    | nil =>
      intro js i i' _ hl
      cases js with
      | nil => rw [pps_nil, pps_nil]
      | cons v js => cases hl
    | cons u ks ihk =>
      intro js i i' hm hl
      cases js with
      | nil => cases hl
      | cons v js =>
        rw [List.map_cons, List.map_cons] at hl
        injection hl with h1 h2
        rw [pps_cons, pps_cons, sgs_append, sgs_append, ih u (hm u List.mem_cons_self) v _ _ h1, ihk js _ _ (fun z hz => hm z (List.mem_cons_of_mem _ hz)) h2]
  rw [pp_eq, pp_eq]
  have := key a.ks b.ks 0 0 (fun _ z => z) h6
  simp only [sgs, List.map_cons] at this ⊢
  rw [hs, this]
theorem same_sgs (a b : Tr) : sameB (er a) (er b) = true ↔ sgs (pp [] a) = sgs (pp [] b) := by
  rw [sameB_iff]
  refine ⟨sgs_of a b [] [], fun h => (sgs_inj a b [] [] [] [] (by rw [h])).1⟩
theorem sgs_len (a b : Tr) (h : sgs (pp [] a) = sgs (pp [] b)) : (pp [] a).length = (pp [] b).length := by
  have := congrArg List.length h
  simpa [sgs] using this
/-- What the document's Same answers. -/
noncomputable def rsB (a b : Tr) : Bool := !decide (2000 < (pp [] a).length) && !decide (2000 < (pp [] b).length) && sameB (er a) (er b)
theorem rsB_no {a b : Tr} (h : cntT a ≠ cntT b ∨ 2000 < cntT a) : rsB a b = false := by
  unfold rsB cntT at *
  cases hs : sameB (er a) (er b) with
  | false => rw [Bool.and_false]
  | true =>
    have hl := sgs_len a b ((same_sgs a b).1 hs)
    rw [decide_eq_true (show 2000 < (pp [] a).length by omega)]
    rfl
theorem rsB_eq {a b : Tr} (h1 : cntT a = cntT b) (h2 : ¬ 2000 < cntT a) : rsB a b = sameB (er a) (er b) ∧ (pp [] a).length ≤ 2000 ∧ (pp [] b).length ≤ 2000 := by
  unfold rsB cntT at *
  have l1 : (pp [] a).length ≤ 2000 := by omega
  have l2 : (pp [] b).length ≤ 2000 := by omega
  rw [decide_eq_false (by omega), decide_eq_false (by omega)]
  exact ⟨rfl, l1, l2⟩
theorem at_kl {w : World} {t : Tr} (h : TA w t) {x : El} (hx : x ∈ pp [] t) : x.2.f.kl = x.2.ks.length := (h.at hx).node.kl
set_option maxRecDepth 100000 in
set_option maxHeartbeats 8000000 in
theorem rsame8 {w : World} {a b : Tr} (ha : TA w a) (hb : TA w b) : Calls Try.prog 26 #[.agg #[.int .i64 a.f.k, .int .i64 a.f.n, .int .i64 a.f.mn, .int .i64 a.f.mx, .slice a.f.rq a.f.rs.length a.f.rc, .slice a.f.kq a.f.kl a.f.kc], .agg #[.int .i64 b.f.k, .int .i64 b.f.n, .int .i64 b.f.mn, .int .i64 b.f.mx, .slice b.f.rq b.f.rs.length b.f.rc, .slice b.f.kq b.f.kl b.f.kc]] w fun e w' => e = .returned (.bool (rsB a b)) ∧ Below w.heap.size w w' := by
  have B1 : Hid (Below w.heap.size w ((w.alloc (.cells #[.int .i64 a.f.k, .int .i64 a.f.n, .int .i64 a.f.mn, .int .i64 a.f.mx, .slice a.f.rq a.f.rs.length a.f.rc, .slice a.f.kq a.f.kl a.f.kc] 25)).alloc (.cells #[.int .i64 b.f.k, .int .i64 b.f.n, .int .i64 b.f.mn, .int .i64 b.f.mx, .slice b.f.rq b.f.rs.length b.f.rc, .slice b.f.kq b.f.kl b.f.kc] 25))) := ((Below.refl _ _).alloc (Nat.le_refl _) _).alloc (by simp) _
  have NA1 : Hid (BoxN ((w.alloc (.cells #[.int .i64 a.f.k, .int .i64 a.f.n, .int .i64 a.f.mn, .int .i64 a.f.mx, .slice a.f.rq a.f.rs.length a.f.rc, .slice a.f.kq a.f.kl a.f.kc] 25)).alloc (.cells #[.int .i64 b.f.k, .int .i64 b.f.n, .int .i64 b.f.mn, .int .i64 b.f.mx, .slice b.f.rq b.f.rs.length b.f.rc, .slice b.f.kq b.f.kl b.f.kc] 25)) w.heap.size a.f) := (Below.heap_alloc _ _ _ (by simp)).trans (alloc_new w _)
  have NB1 : Hid (BoxN ((w.alloc (.cells #[.int .i64 a.f.k, .int .i64 a.f.n, .int .i64 a.f.mn, .int .i64 a.f.mx, .slice a.f.rq a.f.rs.length a.f.rc, .slice a.f.kq a.f.kl a.f.kc] 25)).alloc (.cells #[.int .i64 b.f.k, .int .i64 b.f.n, .int .i64 b.f.mn, .int .i64 b.f.mx, .slice b.f.rq b.f.rs.length b.f.rc, .slice b.f.kq b.f.kl b.f.kc] 25)) (w.heap.size + 1) b.f) := (by
    have := alloc_new (w.alloc (.cells #[.int .i64 a.f.k, .int .i64 a.f.n, .int .i64 a.f.mn, .int .i64 a.f.mx, .slice a.f.rq a.f.rs.length a.f.rc, .slice a.f.kq a.f.kl a.f.kc] 25)) (.cells #[.int .i64 b.f.k, .int .i64 b.f.n, .int .i64 b.f.mn, .int .i64 b.f.mx, .slice b.f.rq b.f.rs.length b.f.rc, .slice b.f.kq b.f.kl b.f.kc] 25)
    rwa [World.size_alloc] at this)
  have HA := hide ha
  have HB := hide hb
  obtain ⟨R, hR⟩ : ∃ R, rsB a b = R := ⟨_, rfl⟩
  rw [hR]
  have HR := hide hR
  clear ha hb hR
  go_enter Try.func26, Try.ntmps26
  go_upto_region 1 with fail
  generalize ((w.alloc (.cells #[.int .i64 a.f.k, .int .i64 a.f.n, .int .i64 a.f.mn, .int .i64 a.f.mx, .slice a.f.rq a.f.rs.length a.f.rc, .slice a.f.kq a.f.kl a.f.kc] 25)).alloc (.cells #[.int .i64 b.f.k, .int .i64 b.f.n, .int .i64 b.f.mn, .int .i64 b.f.mx, .slice b.f.rq b.f.rs.length b.f.rc, .slice b.f.kq b.f.kl b.f.kc] 25)) = W1 at B1 NA1 NB1 ⊢
  generalize w.heap.size + 1 = bb at NB1 ⊢
  obtain ⟨c0, c1, c2, c3, c4, c5⟩ := NA1.out.six
  simp only [Nat.zero_add] at c1 c2 c3 c4 c5
  have LA := hide (laid_c (w := W1) 2001 (by omega) (HA.out.kept B1.out))
  have hza := laidL_len8 a
  have HMA := hide (laidL_map 2001 a)
  generalize laidL 2001 a = ZA at LA hza HMA
  have HZA := hide hza
  clear hza
  go_upto_region 2 with (go_at_call 41; refine (LA.out).mono ?_; rintro e w5 ⟨q5, k5, rfl, h51, h52⟩; have Z5 := hide h51; have B5 := hide h52; clear h51 h52)
  clear c0 c1 c2 c3 c4 c5 LA
  obtain ⟨c0, c1, c2, c3, c4, c5⟩ := (show BoxN w5 bb b.f from (B5.out.block _ (lt_of_heap NB1.out)).trans NB1.out).six
  simp only [Nat.zero_add] at c1 c2 c3 c4 c5
  have B6 := hide (chain B1.out B5.out (Nat.le_refl _))
  have LB := hide (laid_c (w := w5) 2001 (by omega) (HB.out.kept B6.out))
  have hzb := laidL_len8 b
  have HMB := hide (laidL_map 2001 b)
  generalize laidL 2001 b = ZB at LB hzb HMB
  have HZB := hide hzb
  clear hzb
  go_upto_region 3 with (go_at_call 41; refine (LB.out).mono ?_; rintro e w7 ⟨q7, k7, rfl, h51, h52⟩; have Z7 := hide h51; have B7 := hide h52; clear h51 h52)
  have Y7 : Hid (ZR W1.heap.size w7 (.slice q5 ZA.length k5) ZA) := ownsRow_fr Z5.out (Fr.of_below (S := fun _ => False) B7.out) (fun _ _ z => z)
  have B8 := hide (chain B6.out B7.out (Nat.le_refl _))
  have hua : cntT a ≤ 2001 := Nat.min_le_right _ _
  have hub : cntT b ≤ 2001 := Nat.min_le_right _ _
  have hal : ZA.length ≤ 2001 := by rw [HZA.out]; exact hua
  have hbl : ZB.length ≤ 2001 := by rw [HZB.out]; exact hub
  clear c0 c1 c2 c3 c4 c5 LB B1 B5 B6 B7 Z5 NA1 NB1 hua hub
  by_cases hne : ZA.length = ZB.length
  · have e0 : ((ZA.length : Int) != (ZB.length : Int)) = false := by simp; omega
    by_cases hbig : 2000 < ZA.length
    · have e1 : (2000 : Int) < (ZA.length : Int) := by omega
      have HF := hide (HR.out.symm.trans (rsB_no (.inr (by rw [← HZA.out]; exact hbig))))
      clear hne hbig
      go_wp2
      go_ret
      exact ⟨by rw [HF.out]; rfl, B8.out⟩
    · have e1 : ¬ (2000 : Int) < (ZA.length : Int) := by omega
      obtain ⟨h1, h2, h3⟩ := rsB_eq (a := a) (b := b) (by rw [← HZA.out, ← HZB.out]; exact hne) (by rw [← HZA.out]; exact hbig)
      have HQ := hide (HR.out.symm.trans h1)
      have HEA := hide (show ZA.map (·.1) = pp [] a by rw [HMA.out, List.take_of_length_le (by omega)])
      have HEB := hide (show ZB.map (·.1) = pp [] b by rw [HMB.out, List.take_of_length_le (by omega)])
      have HNE := hide hne
      clear h1 h2 h3 hbig HMA HMB HZA HZB
      go_upto_region 6 with fail
      go_loopw [7] (fun i wr => ∃ j : Nat, j ≤ ZA.length ∧ i = .int .i64 (j : Int) ∧ Below w7.heap.size w7 wr ∧ (sgs (pp [] a)).take j = (sgs (pp [] b)).take j) (fun i _ => ZA.length - (intOf i).toNat)
      case atStart => exact ⟨0, Nat.zero_le _, rfl, Below.refl _ _, rfl⟩
      case round =>
        obtain ⟨j, hj, rfl, hbw, hsg⟩ := hrel
        have HBW := hide hbw
        have HSG := hide hsg
        clear hbw hsg
        by_cases hjl : j < ZA.length
        · have i0 : (j : Int) < (ZA.length : Int) := by omega
          have i1 : (j : Int) < (ZB.length : Int) := by omega
          obtain ⟨x, hx⟩ : ∃ x, ZA[j]? = some x := ⟨_, List.getElem?_eq_getElem hjl⟩
          obtain ⟨y, hy⟩ : ∃ y, ZB[j]? = some y := ⟨_, List.getElem?_eq_getElem (by omega)⟩
          obtain ⟨ga, ca, hqa⟩ := ownsRow_some Y7.out (by omega)
          obtain ⟨gb, cb, hqb⟩ := ownsRow_some Z7.out (by omega)
          injection hqa with hqa1 _ hqa2
          injection hqb with hqb1 _ hqb2
          subst hqa1 hqa2 hqb1 hqb2
          have YA : ZR W1.heap.size wr (.slice (some ⟨ga, 0, none⟩) ZA.length k5) ZA := ownsRow_fr Y7.out (Fr.of_below (S := fun _ => False) HBW.out) (fun _ _ z => z)
          have YB : ZR w5.heap.size wr (.slice (some ⟨gb, 0, none⟩) ZB.length k7) ZB := ownsRow_fr Z7.out (Fr.of_below (S := fun _ => False) HBW.out) (fun _ _ z => z)
          have x0 : wr.cell? ⟨ga, j * 12, none⟩ = some (.int .i64 x.1.2.f.k) := YA.cells hx (j := 0) rfl
          have x1 : wr.cell? ⟨ga, j * 12 + 1, none⟩ = some (.int .i64 x.1.2.f.n) := YA.cells hx (j := 1) rfl
          have x2 : wr.cell? ⟨ga, j * 12 + 2, none⟩ = some (.int .i64 x.1.2.f.mn) := YA.cells hx (j := 2) rfl
          have x3 : wr.cell? ⟨ga, j * 12 + 3, none⟩ = some (.int .i64 x.1.2.f.mx) := YA.cells hx (j := 3) rfl
          have x4 : wr.cell? ⟨ga, j * 12 + 4, none⟩ = some (.slice x.1.2.f.rq x.1.2.f.rs.length x.1.2.f.rc) := YA.cells hx (j := 4) rfl
          have x5 : wr.cell? ⟨ga, j * 12 + 5, none⟩ = some (.slice x.1.2.f.kq x.1.2.f.kl x.1.2.f.kc) := YA.cells hx (j := 5) rfl
          have y0 : wr.cell? ⟨gb, j * 12, none⟩ = some (.int .i64 y.1.2.f.k) := YB.cells hy (j := 0) rfl
          have y1 : wr.cell? ⟨gb, j * 12 + 1, none⟩ = some (.int .i64 y.1.2.f.n) := YB.cells hy (j := 1) rfl
          have y2 : wr.cell? ⟨gb, j * 12 + 2, none⟩ = some (.int .i64 y.1.2.f.mn) := YB.cells hy (j := 2) rfl
          have y3 : wr.cell? ⟨gb, j * 12 + 3, none⟩ = some (.int .i64 y.1.2.f.mx) := YB.cells hy (j := 3) rfl
          have y4 : wr.cell? ⟨gb, j * 12 + 4, none⟩ = some (.slice y.1.2.f.rq y.1.2.f.rs.length y.1.2.f.rc) := YB.cells hy (j := 4) rfl
          have y5 : wr.cell? ⟨gb, j * 12 + 5, none⟩ = some (.slice y.1.2.f.kq y.1.2.f.kl y.1.2.f.kc) := YB.cells hy (j := 5) rfl
          have hxa : (pp [] a)[j]? = some x.1 := by rw [← HEA.out, List.getElem?_map, hx]; rfl
          have hyb : (pp [] b)[j]? = some y.1 := by rw [← HEB.out, List.getElem?_map, hy]; rfl
          have lga : ga < wr.heap.size := (ownsRow_at YA (g := ga) rfl).2.1
          have lgb : gb < wr.heap.size := (ownsRow_at YB (g := gb) rfl).2.1
          have BW := chain B8.out HBW.out (Nat.le_refl _)
          have TX := (HA.out.at (List.mem_of_getElem? hxa)).node.ck (CK.of_below BW)
          have TY := (HB.out.at (List.mem_of_getElem? hyb)).node.ck (CK.of_below BW)
          have klx := TX.kl
          have kly := TY.kl
          have SN : Hid (sig x.1.2 = sig y.1.2 → (sgs (pp [] a)).take (j + 1) = (sgs (pp [] b)).take (j + 1)) := fun h => (by
            rw [List.take_add_one, List.take_add_one, HSG.out]
            simp only [sgs, List.getElem?_map, hxa, hyb, Option.map_some]
            rw [h])
          have SD : Hid (sig x.1.2 ≠ sig y.1.2 → R = false) := fun h => (by
            rw [HQ.out]
            cases hs : sameB (er a) (er b) with
            | false => rfl
            | true =>
              exfalso
              have := (same_sgs a b).1 hs
              have h2 := congrArg (fun l => l[j]?) this
              simp only [sgs, List.getElem?_map, hxa, hyb, Option.map_some] at h2
              injection h2 with h2
              exact h h2)
          have SG := hide (show sig x.1.2 = sig y.1.2 ↔ x.1.2.f.k = y.1.2.f.k ∧ x.1.2.f.n = y.1.2.f.n ∧ x.1.2.f.mn = y.1.2.f.mn ∧ x.1.2.f.mx = y.1.2.f.mx ∧ x.1.2.f.rs = y.1.2.f.rs ∧ x.1.2.f.kl = y.1.2.f.kl by
            unfold sig
            rw [klx, kly]
            simp [Prod.ext_iff])
          obtain ⟨⟨wa, ta⟩, oa⟩ := x
          obtain ⟨⟨wb, tb⟩, ob⟩ := y
          dsimp only at *
          have TX' := hide TX
          have TY' := hide TY
          clear hx hy hxa hyb YA YB TX TY klx kly BW
          go_upto_region 10 with fail
          have K2 : Below wr.heap.size wr ((wr.alloc (.cells #[.int .i64 ta.f.k, .int .i64 ta.f.n, .int .i64 ta.f.mn, .int .i64 ta.f.mx, .slice ta.f.rq ta.f.rs.length ta.f.rc, .slice ta.f.kq ta.f.kl ta.f.kc] 25)).alloc (.cells #[.int .i64 tb.f.k, .int .i64 tb.f.n, .int .i64 tb.f.mn, .int .i64 tb.f.mx, .slice tb.f.rq tb.f.rs.length tb.f.rc, .slice tb.f.kq tb.f.kl tb.f.kc] 25)) := ((Below.refl _ _).alloc (Nat.le_refl _) _).alloc (by simp) _
          have N8 : Hid (BoxN ((wr.alloc (.cells #[.int .i64 ta.f.k, .int .i64 ta.f.n, .int .i64 ta.f.mn, .int .i64 ta.f.mx, .slice ta.f.rq ta.f.rs.length ta.f.rc, .slice ta.f.kq ta.f.kl ta.f.kc] 25)).alloc (.cells #[.int .i64 tb.f.k, .int .i64 tb.f.n, .int .i64 tb.f.mn, .int .i64 tb.f.mx, .slice tb.f.rq tb.f.rs.length tb.f.rc, .slice tb.f.kq tb.f.kl tb.f.kc] 25)) wr.heap.size ta.f) := (Below.heap_alloc _ _ _ (by simp)).trans (alloc_new wr _)
          have N9 : Hid (BoxN ((wr.alloc (.cells #[.int .i64 ta.f.k, .int .i64 ta.f.n, .int .i64 ta.f.mn, .int .i64 ta.f.mx, .slice ta.f.rq ta.f.rs.length ta.f.rc, .slice ta.f.kq ta.f.kl ta.f.kc] 25)).alloc (.cells #[.int .i64 tb.f.k, .int .i64 tb.f.n, .int .i64 tb.f.mn, .int .i64 tb.f.mx, .slice tb.f.rq tb.f.rs.length tb.f.rc, .slice tb.f.kq tb.f.kl tb.f.kc] 25)) (wr.heap.size + 1) tb.f) := (by
            have := alloc_new (wr.alloc (.cells #[.int .i64 ta.f.k, .int .i64 ta.f.n, .int .i64 ta.f.mn, .int .i64 ta.f.mx, .slice ta.f.rq ta.f.rs.length ta.f.rc, .slice ta.f.kq ta.f.kl ta.f.kc] 25)) (.cells #[.int .i64 tb.f.k, .int .i64 tb.f.n, .int .i64 tb.f.mn, .int .i64 tb.f.mx, .slice tb.f.rq tb.f.rs.length tb.f.rc, .slice tb.f.kq tb.f.kl tb.f.kc] 25)
            rwa [World.size_alloc] at this)
          have AK := hide (alike_c (TX'.out.ck (CK.of_below K2)).r (TY'.out.ck (CK.of_below K2)).r)
          have HK2 := hide K2
          clear K2
          generalize ((wr.alloc (.cells #[.int .i64 ta.f.k, .int .i64 ta.f.n, .int .i64 ta.f.mn, .int .i64 ta.f.mx, .slice ta.f.rq ta.f.rs.length ta.f.rc, .slice ta.f.kq ta.f.kl ta.f.kc] 25)).alloc (.cells #[.int .i64 tb.f.k, .int .i64 tb.f.n, .int .i64 tb.f.mn, .int .i64 tb.f.mx, .slice tb.f.rq tb.f.rs.length tb.f.rc, .slice tb.f.kq tb.f.kl tb.f.kc] 25)) = W2 at N8 N9 AK HK2 ⊢
          generalize wr.heap.size + 1 = b9 at N9 ⊢
          obtain ⟨b8, hb8⟩ : ∃ b8, wr.heap.size = b8 := ⟨_, rfl⟩
          rw [hb8] at N8 ⊢
          clear hb8
          have a4 : W2.cell? ⟨b8, 4, none⟩ = some (.slice ta.f.rq ta.f.rs.length ta.f.rc) := N8.out.six.2.2.2.2.1
          have d4 : W2.cell? ⟨b9, 4, none⟩ = some (.slice tb.f.rq tb.f.rs.length tb.f.rc) := N9.out.six.2.2.2.2.1
          obtain ⟨rr, hrr⟩ : ∃ rr, decide (ta.f.rs = tb.f.rs) = rr := ⟨_, rfl⟩
          rw [hrr] at AK
          have HRR := hide hrr
          clear hrr x0 x1 x2 x3 x4 x5 y0 y1 y2 y3 y4 y5
          go_upto_region 11 with (go_at_call 43; (with_reducible refine (AK.out).mono ?_); rintro e W3 ⟨rfl, h3⟩; have B3 := hide h3; have N8' := hide ((h3.block _ (lt_of_heap N8.out)).trans N8.out); have N9' := hide ((h3.block _ (lt_of_heap N9.out)).trans N9.out); clear h3)
          have HB4 := hide (chain HBW.out (chain HK2.out B3.out (Nat.le_refl _)) (by have := HBW.out.size; omega))
          obtain ⟨x0, x1, x2, x3, x4, x5⟩ := (show BoxN W3 b8 ta.f from N8'.out).six
          obtain ⟨y0, y1, y2, y3, y4, y5⟩ := (show BoxN W3 b9 tb.f from N9'.out).six
          simp only [Nat.zero_add] at x1 x2 x3 x4 x5 y1 y2 y3 y4 y5
          clear a4 d4 N8 N9 AK HK2 B3 N8' N9'
          obtain ⟨S, hS⟩ : ∃ S : Bool, (S = true ↔ sig ta = sig tb) := by
            by_cases h : sig ta = sig tb
            · exact ⟨true, ⟨fun _ => h, fun _ => rfl⟩⟩
            · exact ⟨false, ⟨fun z => (by cases z), fun z => absurd z h⟩⟩
          have HSS := hide hS
          clear hS
          go_cut [84] (fun u wx => u = .bool (!S) ∧ wx = W3)
          case first =>
            by_cases hk : ta.f.k = tb.f.k
            case neg =>
              have ek : (ta.f.k != tb.f.k) = true := by simpa using hk
              have HF := hide (show S = false from Bool.eq_false_iff.2 fun z0 => (fun z => hk ((SG.out.1 z).1)) (HSS.out.1 z0))
              clear hk
              go_wp2
              go_meet
              exact ⟨by rw [HF.out]; rfl, rfl⟩
            have ek : (ta.f.k != tb.f.k) = false := by simpa using hk
            have Hk9 := hide hk
            clear hk
            by_cases hn : ta.f.n = tb.f.n
            case neg =>
              have en : (ta.f.n != tb.f.n) = true := by simpa using hn
              have HF := hide (show S = false from Bool.eq_false_iff.2 fun z0 => (fun z => hn ((SG.out.1 z).2.1)) (HSS.out.1 z0))
              clear hn
              go_wp2
              go_meet
              exact ⟨by rw [HF.out]; rfl, rfl⟩
            have en : (ta.f.n != tb.f.n) = false := by simpa using hn
            have Hn9 := hide hn
            clear hn
            by_cases hm : ta.f.mn = tb.f.mn
            case neg =>
              have em : (ta.f.mn != tb.f.mn) = true := by simpa using hm
              have HF := hide (show S = false from Bool.eq_false_iff.2 fun z0 => (fun z => hm ((SG.out.1 z).2.2.1)) (HSS.out.1 z0))
              clear hm
              go_wp2
              go_meet
              exact ⟨by rw [HF.out]; rfl, rfl⟩
            have em : (ta.f.mn != tb.f.mn) = false := by simpa using hm
            have Hm9 := hide hm
            clear hm
            by_cases hx : ta.f.mx = tb.f.mx
            case neg =>
              have ex : (ta.f.mx != tb.f.mx) = true := by simpa using hx
              have HF := hide (show S = false from Bool.eq_false_iff.2 fun z0 => (fun z => hx ((SG.out.1 z).2.2.2.1)) (HSS.out.1 z0))
              clear hx
              go_wp2
              go_meet
              exact ⟨by rw [HF.out]; rfl, rfl⟩
            have ex : (ta.f.mx != tb.f.mx) = false := by simpa using hx
            have Hx9 := hide hx
            clear hx
            cases rr with
            | false =>
              have HF := hide (show S = false from Bool.eq_false_iff.2 fun z0 => (fun z => (of_decide_eq_false HRR.out) ((SG.out.1 z).2.2.2.2.1)) (HSS.out.1 z0))
              go_wp2
              go_meet
              exact ⟨by rw [HF.out]; rfl, rfl⟩
            | true =>
              by_cases hl : ta.f.kl = tb.f.kl
              · have el : ((ta.f.kl : Int) != (tb.f.kl : Int)) = false := by simp; omega
                have HF := hide (show S = true from HSS.out.2 (SG.out.2 ⟨Hk9.out, Hn9.out, Hm9.out, Hx9.out, of_decide_eq_true HRR.out, hl⟩))
                clear hl
                go_wp2
                go_meet
                exact ⟨by rw [HF.out]; rfl, rfl⟩
              · have el : ((ta.f.kl : Int) != (tb.f.kl : Int)) = true := by simp; omega
                have HF := hide (show S = false from Bool.eq_false_iff.2 fun z0 => (fun z => hl ((SG.out.1 z).2.2.2.2.2)) (HSS.out.1 z0))
                clear hl
                go_wp2
                go_meet
                exact ⟨by rw [HF.out]; rfl, rfl⟩
          case rest =>
            obtain ⟨rfl, hW⟩ := hcut
            subst hW
            cases S with
            | true =>
              have HN := hide (SN.out (HSS.out.1 rfl))
              go_wp2
              go_roundw
              case rel => exact ⟨j + 1, by omega, by go_num, HB4.out, HN.out⟩
              case measure => simp only [intOf]; omega
            | false =>
              have HF := hide (SD.out fun z => by have := HSS.out.2 z; cases this)
              go_wp2
              go_ret
              exact ⟨by rw [HF.out]; rfl, chain B8.out HB4.out (Nat.le_refl _)⟩
        · have i0 : ¬ (j : Int) < (ZA.length : Int) := by omega
          have HF := hide (show R = true by
            rw [HQ.out]
            refine (same_sgs a b).2 ?_
            have h := HSG.out
            have la : (sgs (pp [] a)).length = ZA.length := by rw [← HEA.out]; simp [sgs]
            have lb : (sgs (pp [] b)).length = ZB.length := by rw [← HEB.out]; simp [sgs]
            have := HNE.out
            rwa [List.take_of_length_le (by omega), List.take_of_length_le (by omega)] at h)
          go_wp2
          go_ret
          exact ⟨by rw [HF.out]; rfl, chain B8.out HBW.out (Nat.le_refl _)⟩
  · have e0 : ((ZA.length : Int) != (ZB.length : Int)) = true := by simp; omega
    have HF := hide (HR.out.symm.trans (rsB_no (.inl (by rw [← HZA.out, ← HZB.out]; exact hne))))
    clear hne
    go_wp2
    go_ret
    exact ⟨by rw [HF.out]; rfl, B8.out⟩
end Go.Proofs.Ytlodjinejeajcaa
namespace Go.Proofs.Ytlodjinejeajcaa
open Go Go.RowKit

/-- How deep, and what: of each node. -/
def dsg (x : El) : Nat × Sg := (x.1.length, sig x.2)
theorem dsg_of (a : Tr) : ∀ (b : Tr) (p q : Way), p.length = q.length → er a = er b → (pp p a).map dsg = (pp q b).map dsg := by
  refine Tr.ind (P := fun a => ∀ (b : Tr) (p q : Way), p.length = q.length → er a = er b → (pp p a).map dsg = (pp q b).map dsg) (fun a ih b p q hp h => ?_) a
  have hs := sig_of h
  obtain ⟨-, -, -, -, -, h6⟩ := (er_iff a b).1 h
  have key : ∀ (ks js : List Tr) (i i' : Nat), (∀ u ∈ ks, u ∈ a.ks) → ks.map er = js.map er → (pps a p i ks).map dsg = (pps b q i' js).map dsg := by
    intro ks
    induction ks with
    | nil =>
      intro js i i' _ hl
      cases js with
      | nil => rw [pps_nil, pps_nil]
      | cons v js => cases hl
    | cons u ks ihk =>
      intro js i i' hm hl
      cases js with
      | nil => cases hl
      | cons v js =>
        rw [List.map_cons, List.map_cons] at hl
        injection hl with h1 h2
        rw [pps_cons, pps_cons, List.map_append, List.map_append, ih u (hm u List.mem_cons_self) v ((a, i) :: p) ((b, i') :: q) (by rw [List.length_cons, List.length_cons, hp]) h1, ihk js _ _ (fun z hz => hm z (List.mem_cons_of_mem _ hz)) h2]
  rw [pp_eq, pp_eq, List.map_cons, List.map_cons, key a.ks b.ks 0 0 (fun _ z => z) h6]
  congr 1
  unfold dsg
  rw [hp, hs]
theorem deep_congr : ∀ {l m : List El}, l.map dsg = m.map dsg → deepM l = deepM m ∧ grpM l = grpM m
  | [], [], _ => ⟨rfl, rfl⟩
  | [], _ :: _, h => by cases h
  | _ :: _, [], h => by cases h
  | x :: l, y :: m, h => by
    rw [List.map_cons, List.map_cons] at h
    injection h with h1 h2
    obtain ⟨e1, e2⟩ := deep_congr h2
    have a1 : x.1.length = y.1.length := congrArg (fun z : Nat × Sg => z.1) h1
    have a2 : x.2.f.k = y.2.f.k := congrArg (fun z : Nat × Sg => z.2.1) h1
    simp only [deepM, grpM]
    rw [e1, e2, a1, a2]
    exact ⟨rfl, rfl⟩
theorem er_len {a b : Tr} (h : er a = er b) : (pp [] a).length = (pp [] b).length := by rw [pp_len, pp_len, ← er_sz, ← er_sz, h]
theorem er_deep {a b : Tr} (h : er a = er b) : deepM (pp [] a) = deepM (pp [] b) ∧ grpM (pp [] a) = grpM (pp [] b) := deep_congr (dsg_of a b [] [] rfl h)
def bigB (t : Tr) : Bool := decide (2000 < cntT t)
set_option maxHeartbeats 2000000 in
theorem large_c {w : World} {t : Tr} (hta : TA w t) : Calls Try.prog 38 #[.agg #[.int .i64 t.f.k, .int .i64 t.f.n, .int .i64 t.f.mn, .int .i64 t.f.mx, .slice t.f.rq t.f.rs.length t.f.rc, .slice t.f.kq t.f.kl t.f.kc]] w fun e w' => e = .returned (.bool (bigB t)) ∧ Below w.heap.size w w' := by
  have B1 : Hid (Below w.heap.size w (w.alloc (.cells #[.int .i64 t.f.k, .int .i64 t.f.n, .int .i64 t.f.mn, .int .i64 t.f.mx, .slice t.f.rq t.f.rs.length t.f.rc, .slice t.f.kq t.f.kl t.f.kc] 25))) := (Below.refl _ _).alloc (Nat.le_refl _) _
  have N1 : BoxN (w.alloc (.cells #[.int .i64 t.f.k, .int .i64 t.f.n, .int .i64 t.f.mn, .int .i64 t.f.mx, .slice t.f.rq t.f.rs.length t.f.rc, .slice t.f.kq t.f.kl t.f.kc] 25)) w.heap.size t.f := alloc_new w _
  obtain ⟨c0, c1, c2, c3, c4, c5⟩ := N1.six
  simp only [Nat.zero_add] at c1 c2 c3 c4 c5
  have RC := hide (rcount8 (hta.kept B1.out))
  obtain ⟨R, hR⟩ : ∃ R, bigB t = R := ⟨_, rfl⟩
  rw [hR]
  have HR := hide hR
  obtain ⟨C, hC⟩ : ∃ C, cntT t = C := ⟨_, rfl⟩
  rw [hC] at RC
  have e0 : decide ((2000 : Int) < (C : Int)) = R := by
    rw [← hR]
    unfold bigB
    rw [hC]
    exact decide_eq_decide.2 (by omega)
  cases R with
  | true =>
    have e1 : (2000 : Int) < (C : Int) := of_decide_eq_true e0
    clear N1 hta hR hC e0
    go_enter Try.func38, Try.ntmps38
    go_wp2_with (go_at_call 23; (with_reducible refine (RC.out).mono ?_); rintro e w5 ⟨rfl, h5⟩; have B5 := hide h5; clear h5)
    go_ret
    exact ⟨rfl, chain B1.out B5.out (Nat.le_refl _)⟩
  | false =>
    have e1 : ¬ (2000 : Int) < (C : Int) := of_decide_eq_false e0
    clear N1 hta hR hC e0
    go_enter Try.func38, Try.ntmps38
    go_wp2_with (go_at_call 23; (with_reducible refine (RC.out).mono ?_); rintro e w5 ⟨rfl, h5⟩; have B5 := hide h5; clear h5)
    go_ret
    refine ⟨?_, chain B1.out B5.out (Nat.le_refl _)⟩
    show Ending.returned (.bool (decide ((2000 : Int) < (C : Int)))) = _
    rw [decide_eq_false (by omega)]
theorem big_sz {t : Tr} (h : bigB t = false) : t.sz ≤ 2000 := by
  unfold bigB cntT at h
  rw [decide_eq_false_iff_not, pp_len] at h
  omega
theorem ret_lent {R : Ending → World → Prop} {a : Act} {W : World} {b : Nat} {f : Fl} (h : Six W b 0 f) (ha : a.tmps[2]?.getD undef = .pointer (some ⟨b, 0, none⟩)) (hd : a.defers = []) (hR : R (.returned (.agg #[.int .i64 f.k, .int .i64 f.n, .int .i64 f.mn, .int .i64 f.mx, .slice f.rq f.rs.length f.rc, .slice f.kq f.kl f.kc])) W) : bodyPost Try.prog Try.f20 R .ret a W := by
  obtain ⟨z0, z1, z2, z3, z4, z5⟩ := h
  simp only [Nat.zero_add] at z1 z2 z3 z4 z5
  refine bodyPost_ret (v := .agg #[.int .i64 f.k, .int .i64 f.n, .int .i64 f.mn, .int .i64 f.mx, .slice f.rq f.rs.length f.rc, .slice f.kq f.kl f.kc]) ?_ hd hR
  simp [results, Try.results20, go_sem, ha, z0, z1, z2, z3, z4, z5]
/-- A tree that is handed in. -/
structure LentIs (N : Nat → Prop) (W : World) (x n : Tr) : Prop where
  ta : TA W x
  er : er x = er n
  sent : bigB n = false → Sent N W x
theorem LentIs.kept {N : Nat → Prop} {W W' : World} {x n : Tr} (h : LentIs N W x n) (hb : Below W.heap.size W W') : LentIs N W' x n := ⟨h.ta.kept hb, h.er, fun z => (h.sent z).kept hb⟩
set_option maxRecDepth 100000 in
set_option maxHeartbeats 4000000 in
theorem lent8 {w : World} {t : Tr} (hta : TA w t) : Calls Try.prog 20 #[.agg #[.int .i64 t.f.k, .int .i64 t.f.n, .int .i64 t.f.mn, .int .i64 t.f.mx, .slice t.f.rq t.f.rs.length t.f.rc, .slice t.f.kq t.f.kl t.f.kc]] w fun e w' => ∃ x, e = .returned (.agg #[.int .i64 x.f.k, .int .i64 x.f.n, .int .i64 x.f.mn, .int .i64 x.f.mx, .slice x.f.rq x.f.rs.length x.f.rc, .slice x.f.kq x.f.kl x.f.kc]) ∧ LentIs (fun k => w.heap.size ≤ k) w' x t ∧ Below w.heap.size w w' := by
  have B0 : Hid (Below w.heap.size w ((w.alloc (.cells #[.int .i64 t.f.k, .int .i64 t.f.n, .int .i64 t.f.mn, .int .i64 t.f.mx, .slice t.f.rq t.f.rs.length t.f.rc, .slice t.f.kq t.f.kl t.f.kc] 25)).alloc (.cells #[.int .i64 0, .int .i64 0, .int .i64 0, .int .i64 0, .slice none 0 0, .slice none 0 0] 25))) := ((Below.refl _ _).alloc (Nat.le_refl _) _).alloc (by simp) _
  have N0 : Hid (BoxN ((w.alloc (.cells #[.int .i64 t.f.k, .int .i64 t.f.n, .int .i64 t.f.mn, .int .i64 t.f.mx, .slice t.f.rq t.f.rs.length t.f.rc, .slice t.f.kq t.f.kl t.f.kc] 25)).alloc (.cells #[.int .i64 0, .int .i64 0, .int .i64 0, .int .i64 0, .slice none 0 0, .slice none 0 0] 25)) w.heap.size t.f) := (Below.heap_alloc _ _ _ (by simp)).trans (alloc_new w _)
  have R0 : Hid (((w.alloc (.cells #[.int .i64 t.f.k, .int .i64 t.f.n, .int .i64 t.f.mn, .int .i64 t.f.mx, .slice t.f.rq t.f.rs.length t.f.rc, .slice t.f.kq t.f.kl t.f.kc] 25)).alloc (.cells #[.int .i64 0, .int .i64 0, .int .i64 0, .int .i64 0, .slice none 0 0, .slice none 0 0] 25)).heap[w.heap.size + 1]? = some (.cells #[.int .i64 0, .int .i64 0, .int .i64 0, .int .i64 0, .slice none 0 0, .slice none 0 0] 25 (0, 0))) := (by
    have := alloc_new (w.alloc (.cells #[.int .i64 t.f.k, .int .i64 t.f.n, .int .i64 t.f.mn, .int .i64 t.f.mx, .slice t.f.rq t.f.rs.length t.f.rc, .slice t.f.kq t.f.kl t.f.kc] 25)) (.cells #[.int .i64 0, .int .i64 0, .int .i64 0, .int .i64 0, .slice none 0 0, .slice none 0 0] 25)
    rwa [World.size_alloc] at this)
  have HTA := hide hta
  clear hta
  go_enter Try.func20, Try.ntmps20
  go_upto_region 1 with fail
  generalize ((w.alloc (.cells #[.int .i64 t.f.k, .int .i64 t.f.n, .int .i64 t.f.mn, .int .i64 t.f.mx, .slice t.f.rq t.f.rs.length t.f.rc, .slice t.f.kq t.f.kl t.f.kc] 25)).alloc (.cells #[.int .i64 0, .int .i64 0, .int .i64 0, .int .i64 0, .slice none 0 0, .slice none 0 0] 25)) = W0 at B0 N0 R0 ⊢
  obtain ⟨bz, hbz⟩ : ∃ bz, w.heap.size + 1 = bz := ⟨_, rfl⟩
  rw [hbz] at R0 ⊢
  have hwz : w.heap.size ≤ bz := by omega
  obtain ⟨c0, c1, c2, c3, c4, c5⟩ := N0.out.six
  simp only [Nat.zero_add] at c1 c2 c3 c4 c5
  have LC := hide (large_c (HTA.out.kept B0.out))
  obtain ⟨R, hR⟩ : ∃ R, bigB t = R := ⟨_, rfl⟩
  rw [hR] at LC
  have HR := hide hR
  clear hR hbz
  go_upto_region 2 with (go_at_call 38; (with_reducible refine (LC.out).mono ?_); rintro e w5 ⟨rfl, h5⟩; have B5 := hide h5; clear h5)
  have N5 := hide ((B5.out.block _ (lt_of_heap N0.out)).trans N0.out)
  have R5 := hide ((B5.out.block _ (lt_of_heap R0.out)).trans R0.out)
  have B6 : Hid (Below w.heap.size w w5) := chain B0.out B5.out (Nat.le_refl _)
  clear c0 c1 c2 c3 c4 c5
  obtain ⟨c0, c1, c2, c3, c4, c5⟩ := (show BoxN w5 w.heap.size t.f from N5.out).six
  simp only [Nat.zero_add] at c1 c2 c3 c4 c5
  cases R with
  | true =>
    have RS := R5.out
    have r0 := cell_row RS (i := 0) rfl
    have r1 := cell_row RS (i := 1) rfl
    have r2 := cell_row RS (i := 2) rfl
    have r3 := cell_row RS (i := 3) rfl
    have r4 := cell_row RS (i := 4) rfl
    have r5 := cell_row RS (i := 5) rfl
    have rz := fun z => frz_row RS z
    have P9 := hide (put6_fr w5 bz 0 t.f)
    have X9 := hide (put6_six (b := bz) (o := 0) (f := ⟨0, 0, 0, 0, [], none, 0, none, 0, 0⟩) (g := t.f) ⟨r0, r1, r2, r3, r4, r5⟩)
    have B9 : Hid (Below w.heap.size w (put6 w5 bz 0 t.f)) := chainF B6.out P9.out (Nat.le_refl _) (fun k e => by omega)
    have T9 := hide (HTA.out.kept B9.out)
    unfold put6 at P9 X9
    clear RS
    go_wp2
    refine ret_lent X9.out rfl rfl ?_
    exact ⟨t, rfl, ⟨T9.out, rfl, fun z => by rw [HR.out] at z; cases z⟩, B9.out⟩
  | false =>
    have CP := hide (cpd_m t.sz t w5 (Nat.le_refl _) (by have := big_sz HR.out; omega) (HTA.out.kept B6.out))
    have LZ := lt_of_heap R5.out
    go_upto_region 5 with (go_at_call 39; (with_reducible refine (CP.out).mono ?_); rintro e w7 ⟨t7, rfl, h71, h72, h73, h74⟩; have R7 : w7.heap[bz]? = some (.cells #[.int .i64 0, .int .i64 0, .int .i64 0, .int .i64 0, .slice none 0 0, .slice none 0 0] 25 (0, 0)) := (h74.block _ LZ).trans R5.out; have r0 := cell_row R7 (i := 0) rfl; have r1 := cell_row R7 (i := 1) rfl; have r2 := cell_row R7 (i := 2) rfl; have r3 := cell_row R7 (i := 3) rfl; have r4 := cell_row R7 (i := 4) rfl; have r5 := cell_row R7 (i := 5) rfl; have rz := fun z => frz_row R7 z; have L9 := hide (laid_res h71 (h72.foot.mono (fun k hk => Nat.lt_of_lt_of_le LZ hk)) R7); have K9 := hide ((h72.mono (fun k hk => (⟨Nat.lt_of_lt_of_le LZ hk, hk⟩ : bz < k ∧ w5.heap.size ≤ k))).ck (L9.out.2.2.ckeep (fun k e z => by omega))); have X9 := hide L9.out.1; unfold put6 at X9; have Q7 := hide (⟨h73, chain B6.out h74 (Nat.le_refl _)⟩ : er t7 = er t ∧ Below w.heap.size w w7); clear h71 h72 h73 h74)
    refine ret_lent X9.out rfl rfl ?_
    exact ⟨t7, rfl, ⟨L9.out.2.1, Q7.out.1, fun _ => K9.out.mono (fun k hk => by have := B6.out.size; omega)⟩, chainF Q7.out.2 L9.out.2.2 (Nat.le_refl _) (fun k e => by omega)⟩
set_option maxRecDepth 100000 in
set_option maxHeartbeats 4000000 in
theorem kept8 {w : World} {x n : Tr} {N : Nat → Prop} (hx : LentIs N w x n) (hn : TA w n) : Calls Try.prog 21 #[.agg #[.int .i64 x.f.k, .int .i64 x.f.n, .int .i64 x.f.mn, .int .i64 x.f.mx, .slice x.f.rq x.f.rs.length x.f.rc, .slice x.f.kq x.f.kl x.f.kc], .agg #[.int .i64 n.f.k, .int .i64 n.f.n, .int .i64 n.f.mn, .int .i64 n.f.mx, .slice n.f.rq n.f.rs.length n.f.rc, .slice n.f.kq n.f.kl n.f.kc]] w fun e w' => e = .returned (.bool true) ∧ Below w.heap.size w w' := by
  have B1 : Hid (Below w.heap.size w ((w.alloc (.cells #[.int .i64 x.f.k, .int .i64 x.f.n, .int .i64 x.f.mn, .int .i64 x.f.mx, .slice x.f.rq x.f.rs.length x.f.rc, .slice x.f.kq x.f.kl x.f.kc] 25)).alloc (.cells #[.int .i64 n.f.k, .int .i64 n.f.n, .int .i64 n.f.mn, .int .i64 n.f.mx, .slice n.f.rq n.f.rs.length n.f.rc, .slice n.f.kq n.f.kl n.f.kc] 25))) := ((Below.refl _ _).alloc (Nat.le_refl _) _).alloc (by simp) _
  have NX : Hid (BoxN ((w.alloc (.cells #[.int .i64 x.f.k, .int .i64 x.f.n, .int .i64 x.f.mn, .int .i64 x.f.mx, .slice x.f.rq x.f.rs.length x.f.rc, .slice x.f.kq x.f.kl x.f.kc] 25)).alloc (.cells #[.int .i64 n.f.k, .int .i64 n.f.n, .int .i64 n.f.mn, .int .i64 n.f.mx, .slice n.f.rq n.f.rs.length n.f.rc, .slice n.f.kq n.f.kl n.f.kc] 25)) w.heap.size x.f) := (Below.heap_alloc _ _ _ (by simp)).trans (alloc_new w _)
  have NN : Hid (BoxN ((w.alloc (.cells #[.int .i64 x.f.k, .int .i64 x.f.n, .int .i64 x.f.mn, .int .i64 x.f.mx, .slice x.f.rq x.f.rs.length x.f.rc, .slice x.f.kq x.f.kl x.f.kc] 25)).alloc (.cells #[.int .i64 n.f.k, .int .i64 n.f.n, .int .i64 n.f.mn, .int .i64 n.f.mx, .slice n.f.rq n.f.rs.length n.f.rc, .slice n.f.kq n.f.kl n.f.kc] 25)) (w.heap.size + 1) n.f) := (by
    have := alloc_new (w.alloc (.cells #[.int .i64 x.f.k, .int .i64 x.f.n, .int .i64 x.f.mn, .int .i64 x.f.mx, .slice x.f.rq x.f.rs.length x.f.rc, .slice x.f.kq x.f.kl x.f.kc] 25)) (.cells #[.int .i64 n.f.k, .int .i64 n.f.n, .int .i64 n.f.mn, .int .i64 n.f.mx, .slice n.f.rq n.f.rs.length n.f.rc, .slice n.f.kq n.f.kl n.f.kc] 25)
    rwa [World.size_alloc] at this)
  have HX := hide hx
  have HN := hide hn
  clear hx hn
  go_enter Try.func21, Try.ntmps21
  go_upto_region 1 with fail
  generalize ((w.alloc (.cells #[.int .i64 x.f.k, .int .i64 x.f.n, .int .i64 x.f.mn, .int .i64 x.f.mx, .slice x.f.rq x.f.rs.length x.f.rc, .slice x.f.kq x.f.kl x.f.kc] 25)).alloc (.cells #[.int .i64 n.f.k, .int .i64 n.f.n, .int .i64 n.f.mn, .int .i64 n.f.mx, .slice n.f.rq n.f.rs.length n.f.rc, .slice n.f.kq n.f.kl n.f.kc] 25)) = W1 at B1 NX NN ⊢
  generalize w.heap.size + 1 = bb at NN ⊢
  obtain ⟨c0, c1, c2, c3, c4, c5⟩ := NN.out.six
  simp only [Nat.zero_add] at c1 c2 c3 c4 c5
  have LC := hide (large_c (HN.out.kept B1.out))
  obtain ⟨R, hR⟩ : ∃ R, bigB n = R := ⟨_, rfl⟩
  rw [hR] at LC
  have HR := hide hR
  clear hR
  go_upto_region 2 with (go_at_call 38; (with_reducible refine (LC.out).mono ?_); rintro e w5 ⟨rfl, h5⟩; have B5 := hide h5; clear h5)
  have B6 : Hid (Below w.heap.size w w5) := chain B1.out B5.out (Nat.le_refl _)
  clear c0 c1 c2 c3 c4 c5
  obtain ⟨c0, c1, c2, c3, c4, c5⟩ := (show BoxN w5 bb n.f from (B5.out.block _ (lt_of_heap NN.out)).trans NN.out).six
  obtain ⟨d0, d1, d2, d3, d4, d5⟩ := (show BoxN w5 w.heap.size x.f from (B5.out.block _ (lt_of_heap NX.out)).trans NX.out).six
  simp only [Nat.zero_add] at c1 c2 c3 c4 c5 d1 d2 d3 d4 d5
  cases R with
  | true =>
    go_wp2
    go_ret
    exact ⟨rfl, B6.out⟩
  | false =>
    have ST := hide (still_m x.sz x n N w5 (Nat.le_refl _) (HX.out.ta.kept B6.out) ((HX.out.sent HR.out).kept B6.out) (HN.out.kept B6.out) HX.out.er)
    go_wp2_with (go_at_call 40; (with_reducible refine (ST.out).mono ?_); rintro e w7 ⟨rfl, h7⟩; have B7 := hide h7; clear h7)
    go_ret
    exact ⟨rfl, chain B6.out B7.out (Nat.le_refl _)⟩
end Go.Proofs.Ytlodjinejeajcaa
