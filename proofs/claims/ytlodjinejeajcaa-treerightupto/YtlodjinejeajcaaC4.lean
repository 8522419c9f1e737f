/-
  joined: the node of some Kids. What the checker asks of where a node stands.
-/
import Derived.Test.YtlodjinejeajcaaC3
import Derived.Test.YtlodjinejeajcaaC2
namespace Go.Proofs.Ytlodjinejeajcaa
open Go Go.RowKit

def joinE (k : Int) (l : List Er) (no : Er) : Er := match l with | [] => no | [x] => x | x :: y :: r => .mk k 0 0 0 [] (x :: y :: r)
def bare (k : Int) : Fl := ⟨k, 0, 0, 0, [], none, 0, none, 0, 0⟩
theorem bare_ta (W : World) (k : Int) : TA W (.mk (bare k) []) := (every_eq _).2 ⟨⟨.inl ⟨none, 0, rfl, rfl, fun _ => rfl⟩, .inl ⟨none, 0, rfl, rfl, fun _ => rfl⟩, fit_nil, by simp [Tr.f, bare]⟩, (everyL_iff _).2 fun u hu => by cases hu⟩
theorem bare_foot (N : Nat → Prop) (k : Int) : Foot N (.mk (bare k) []) := (every_eq _).2 ⟨⟨fun a e => (by cases e), fun a e => (by cases e)⟩, (everyL_iff _).2 fun u hu => by cases hu⟩
theorem ret_joined {R : Ending → World → Prop} {a : Act} {W : World} {b : Nat} {f : Fl} (h : Six W b 0 f) (ha : a.tmps[6]?.getD undef = .pointer (some ⟨b, 0, none⟩)) (hd : a.defers = []) (hR : R (.returned (.agg #[.int .i64 f.k, .int .i64 f.n, .int .i64 f.mn, .int .i64 f.mx, .slice f.rq f.rs.length f.rc, .slice f.kq f.kl f.kc])) W) : bodyPost Try.prog Try.f34 R .ret a W := by
  obtain ⟨z0, z1, z2, z3, z4, z5⟩ := h
  simp only [Nat.zero_add] at z1 z2 z3 z4 z5
  refine bodyPost_ret (v := .agg #[.int .i64 f.k, .int .i64 f.n, .int .i64 f.mn, .int .i64 f.mx, .slice f.rq f.rs.length f.rc, .slice f.kq f.kl f.kc]) ?_ hd hR
  simp [results, Try.results34, go_sem, ha, z0, z1, z2, z3, z4, z5]
/-- A tree that has been made is laid into the result's place. -/
theorem laid_res {W : World} {bz : Nat} {t : Tr} (ht : TA W t) (hf : Foot (fun k => bz < k) t) (hr : W.heap[bz]? = some (.cells #[.int .i64 0, .int .i64 0, .int .i64 0, .int .i64 0, .slice none 0 0, .slice none 0 0] 25 (0, 0))) :
    Six (put6 W bz 0 t.f) bz 0 t.f ∧ TA (put6 W bz 0 t.f) t ∧ Fr (fun z => z = bz) W (put6 W bz 0 t.f) := by
  have F := put6_fr W bz 0 t.f
  refine ⟨put6_six (f := ⟨0, 0, 0, 0, [], none, 0, none, 0, 0⟩) ⟨cell_row hr (i := 0) rfl, cell_row hr (i := 1) rfl, cell_row hr (i := 2) rfl, cell_row hr (i := 3) rfl, cell_row hr (i := 4) rfl, cell_row hr (i := 5) rfl⟩, ht.ckN hf (F.ckeep (fun k e z => by omega)), F⟩

set_option maxRecDepth 100000 in
set_option maxHeartbeats 4000000 in
theorem joined_c {w : World} (kind k0 : Int) {q : Option Addr} {c : Nat} {ks : List Tr} (h : ArgK w (.slice q ks.length c) ks) (hta : ∀ u ∈ ks, TA w u) (hsz : szs ks < 1000000) :
    Calls Try.prog 34 #[.int .i64 kind, .slice q ks.length c, .agg #[.int .i64 k0, .int .i64 0, .int .i64 0, .int .i64 0, .slice none 0 0, .slice none 0 0]] w (Makes w (joinE kind (ks.map er) (.mk k0 0 0 0 [] []))) := by
  have B0 : Hid (Below w.heap.size w ((w.alloc (.cells #[.int .i64 k0, .int .i64 0, .int .i64 0, .int .i64 0, .slice none 0 0, .slice none 0 0] 25)).alloc (.cells #[.int .i64 0, .int .i64 0, .int .i64 0, .int .i64 0, .slice none 0 0, .slice none 0 0] 25))) := ((Below.refl _ _).alloc (Nat.le_refl _) _).alloc (by simp) _
  have N0 : Hid (BoxN ((w.alloc (.cells #[.int .i64 k0, .int .i64 0, .int .i64 0, .int .i64 0, .slice none 0 0, .slice none 0 0] 25)).alloc (.cells #[.int .i64 0, .int .i64 0, .int .i64 0, .int .i64 0, .slice none 0 0, .slice none 0 0] 25)) w.heap.size (bare k0)) := (Below.heap_alloc _ _ _ (by simp)).trans (alloc_new w _)
  have R0 : Hid (((w.alloc (.cells #[.int .i64 k0, .int .i64 0, .int .i64 0, .int .i64 0, .slice none 0 0, .slice none 0 0] 25)).alloc (.cells #[.int .i64 0, .int .i64 0, .int .i64 0, .int .i64 0, .slice none 0 0, .slice none 0 0] 25)).heap[w.heap.size + 1]? = some (.cells #[.int .i64 0, .int .i64 0, .int .i64 0, .int .i64 0, .slice none 0 0, .slice none 0 0] 25 (0, 0))) := (by
    have := alloc_new (w.alloc (.cells #[.int .i64 k0, .int .i64 0, .int .i64 0, .int .i64 0, .slice none 0 0, .slice none 0 0] 25)) (.cells #[.int .i64 0, .int .i64 0, .int .i64 0, .int .i64 0, .slice none 0 0, .slice none 0 0] 25)
    rwa [World.size_alloc] at this)
  obtain ⟨X, hX⟩ : ∃ X, joinE kind (ks.map er) (.mk k0 0 0 0 [] []) = X := ⟨_, rfl⟩
  rw [hX]
  have HX := hide hX
  have HH := hide h
  have HT := hide hta
  clear hX h hta
  go_enter Try.func34, Try.ntmps34
  go_upto_region 1 with fail
  generalize ((w.alloc (.cells #[.int .i64 k0, .int .i64 0, .int .i64 0, .int .i64 0, .slice none 0 0, .slice none 0 0] 25)).alloc (.cells #[.int .i64 0, .int .i64 0, .int .i64 0, .int .i64 0, .slice none 0 0, .slice none 0 0] 25)) = W0 at B0 N0 R0 ⊢
  obtain ⟨bz, hbz⟩ : ∃ bz, w.heap.size + 1 = bz := ⟨_, rfl⟩
  rw [hbz] at R0 ⊢
  have LZ := lt_of_heap R0.out
  match ks, HH, HT, hsz, HX with
  | [], HH, HT, hsz, HX =>
    obtain ⟨n0, n1, n2, n3, n4, n5⟩ := N0.out.six
    simp only [Nat.zero_add, bare, List.length_nil] at n0 n1 n2 n3 n4 n5
    have r0 := cell_row R0.out (i := 0) rfl
    have r1 := cell_row R0.out (i := 1) rfl
    have r2 := cell_row R0.out (i := 2) rfl
    have r3 := cell_row R0.out (i := 3) rfl
    have r4 := cell_row R0.out (i := 4) rfl
    have r5 := cell_row R0.out (i := 5) rfl
    have fz := fun z => frz_row R0.out z
    have L9 := hide (laid_res (bare_ta W0 k0) (bare_foot (fun k => bz < k) k0) R0.out)
    have X9 := hide L9.out.1
    have P9 := hide L9.out.2.2
    unfold put6 at X9 P9
    simp only [Tr.f, bare] at X9 P9
    go_wp2
    refine ret_joined X9.out rfl rfl ?_
    exact ⟨.mk (bare k0) [], rfl, L9.out.2.1, bare_foot _ _, by rw [← HX.out, er_eq]; rfl, chainF B0.out P9.out (Nat.le_refl _) (fun k e => by omega)⟩
  | [u], HH, HT, hsz, HX =>
    obtain ⟨q', c', e, -, -, hx⟩ := HH.out.slice
    injection e with e1 _ e3
    subst e1 e3
    obtain ⟨g, off, rfl, hg, six⟩ := hx 0 u rfl
    obtain ⟨c0, c1, c2, c3, c4, c5⟩ := six.ck (CK.of_below B0.out) hg
    simp only [Nat.zero_mul, Nat.add_zero] at c0 c1 c2 c3 c4 c5
    have CP := hide (copied8_c ((HT.out u (by simp)).kept B0.out) (by rw [szs_cons, szs_nil] at hsz; omega))
    simp only [List.length_cons, List.length_nil, Nat.zero_add]
    clear six hx
    go_wp2_with (go_at_call 46; (with_reducible refine (CP.out).mono ?_); rintro e w5 ⟨t5, rfl, h51, h52, h53, h54⟩; have R5 : w5.heap[bz]? = some (.cells #[.int .i64 0, .int .i64 0, .int .i64 0, .int .i64 0, .slice none 0 0, .slice none 0 0] 25 (0, 0)) := (h54.block _ LZ).trans R0.out; have r0 := cell_row R5 (i := 0) rfl; have r1 := cell_row R5 (i := 1) rfl; have r2 := cell_row R5 (i := 2) rfl; have r3 := cell_row R5 (i := 3) rfl; have r4 := cell_row R5 (i := 4) rfl; have r5 := cell_row R5 (i := 5) rfl; have fz := fun z => frz_row R5 z; have L9 := hide (laid_res h51 (h52.mono (fun k hk => Nat.lt_of_lt_of_le LZ hk)) R5); have X9 := hide L9.out.1; have P9 := hide L9.out.2.2; unfold put6 at X9 P9; have Q5 := hide (⟨h52, h53, chain B0.out h54 (Nat.le_refl _)⟩ : Foot (fun k => W0.heap.size ≤ k) t5 ∧ er t5 = _ ∧ Below w.heap.size w w5); clear h51 h52 h53 h54)
    refine ret_joined X9.out rfl rfl ?_
    exact ⟨t5, rfl, L9.out.2.1, Q5.out.1.mono (fun k hk => Nat.le_trans B0.out.size hk), by rw [Q5.out.2.1, ← HX.out]; rfl, chainF Q5.out.2.2 P9.out (Nat.le_refl _) (fun k e => by omega)⟩
  | u :: v :: r, HH, HT, hsz, HX =>
    have TT : TA W0 (.mk ⟨kind, 0, 0, 0, [], none, 0, q, (u :: v :: r).length, c⟩ (u :: v :: r)) := (every_eq _).2 ⟨⟨.inl ⟨none, 0, rfl, rfl, fun _ => rfl⟩, HH.out.ck (CK.of_below B0.out), fit_nil, by simp [Tr.f]⟩, (everyL_iff _).2 fun y hy => (HT.out y hy).kept B0.out⟩
    have CP := hide (copied8_c TT (by rw [sz_eq]; exact hsz))
    simp only [Tr.f, List.length_nil] at CP
    obtain ⟨n, hn⟩ : ∃ n, (u :: v :: r).length = n := ⟨_, rfl⟩
    rw [hn] at CP ⊢
    have h0 : ((n : Int) == 0) = false := by simp at hn ⊢; omega
    have h1 : ((n : Int) == 1) = false := by simp at hn ⊢; omega
    clear hn TT
    go_wp2_with (go_at_call 46; (with_reducible refine (CP.out).mono ?_); rintro e w5 ⟨t5, rfl, h51, h52, h53, h54⟩; have R5 : w5.heap[bz]? = some (.cells #[.int .i64 0, .int .i64 0, .int .i64 0, .int .i64 0, .slice none 0 0, .slice none 0 0] 25 (0, 0)) := (h54.block _ LZ).trans R0.out; have r0 := cell_row R5 (i := 0) rfl; have r1 := cell_row R5 (i := 1) rfl; have r2 := cell_row R5 (i := 2) rfl; have r3 := cell_row R5 (i := 3) rfl; have r4 := cell_row R5 (i := 4) rfl; have r5 := cell_row R5 (i := 5) rfl; have fz := fun z => frz_row R5 z; have L9 := hide (laid_res h51 (h52.mono (fun k hk => Nat.lt_of_lt_of_le LZ hk)) R5); have X9 := hide L9.out.1; have P9 := hide L9.out.2.2; unfold put6 at X9 P9; have Q5 := hide (⟨h52, h53, chain B0.out h54 (Nat.le_refl _)⟩ : Foot (fun k => W0.heap.size ≤ k) t5 ∧ er t5 = _ ∧ Below w.heap.size w w5); clear h51 h52 h53 h54)
    refine ret_joined X9.out rfl rfl ?_
    exact ⟨t5, rfl, L9.out.2.1, Q5.out.1.mono (fun k hk => Nat.le_trans B0.out.size hk), by rw [Q5.out.2.1, ← HX.out, er_eq]; rfl, chainF Q5.out.2.2 P9.out (Nat.le_refl _) (fun k e => by omega)⟩
end Go.Proofs.Ytlodjinejeajcaa
namespace Go.Proofs.Ytlodjinejeajcaa
open Go Go.RowKit
attribute [local go_sem] ext_cell

/-- May a node of a kind stand within one, as its Kid of that number? -/
def standB (pk : Int) (seen : Int) (kl : Nat) (k : Int) : Bool :=
  if pk = 5 then thingB k || (k == 3 && seen == 0) || (k == 4 && seen == (kl : Int) - 1)
  else if pk = 9 then thingB k
  else if pk = 6 then kindB k && k != 6
  else kindB k

set_option maxRecDepth 100000 in
set_option maxHeartbeats 4000000 in
theorem mayStand_c {w : World} {b : Nat} {c f : Bool} {ah gr : Int} {A : Nat → Spot} (h : CB w b c f ah gr A) {d : Nat} (hd : d < 41) (k : Int) (hkl : (A d).f.kl ≤ 9223372036854775807) :
    Calls Try.prog 49 #[.pointer (some ⟨b, 0, none⟩), .int .i64 ((d : Int) + 1), .int .i64 k] w fun e w' => e = .returned (.bool (standB (A d).f.k (A d).s (A d).f.kl k)) ∧ Below w.heap.size w w' := by
  obtain ⟨⟨k0, k1, k2, k3, k4, k5⟩, k6⟩ := h.sp d hd
  have hlt := h.lt
  have e1 : ((d : Int) + 1) - 1 = (d : Int) := by omega
  have e2 : (d : Int) < 41 := by omega
  have B1 : Hid (Below w.heap.size w (w.alloc (.cells #[.int .i64 (A d).f.k, .int .i64 (A d).f.n, .int .i64 (A d).f.mn, .int .i64 (A d).f.mx, .slice (A d).f.rq (A d).f.rs.length (A d).f.rc, .slice (A d).f.kq (A d).f.kl (A d).f.kc, .int .i64 (A d).s] 47))) := (Below.refl _ _).alloc (Nat.le_refl _) _
  have N1 := alloc_new w (.cells #[.int .i64 (A d).f.k, .int .i64 (A d).f.n, .int .i64 (A d).f.mn, .int .i64 (A d).f.mx, .slice (A d).f.rq (A d).f.rs.length (A d).f.rc, .slice (A d).f.kq (A d).f.kl (A d).f.kc, .int .i64 (A d).s] 47)
  obtain ⟨r, hr⟩ : ∃ r, standB (A d).f.k (A d).s (A d).f.kl k = r := ⟨_, rfl⟩
  rw [hr]
  have HR := hide hr
  clear hr
  go_enter Try.func49, Try.ntmps49
  go_upto_region 2 with fail
  have m0 : (w.alloc (.cells #[.int .i64 (A d).f.k, .int .i64 (A d).f.n, .int .i64 (A d).f.mn, .int .i64 (A d).f.mx, .slice (A d).f.rq (A d).f.rs.length (A d).f.rc, .slice (A d).f.kq (A d).f.kl (A d).f.kc, .int .i64 (A d).s] 47)).cell? ⟨w.heap.size, 0, none⟩ = some (.int .i64 (A d).f.k) := cell_row N1 (i := 0) rfl
  have m5 : (w.alloc (.cells #[.int .i64 (A d).f.k, .int .i64 (A d).f.n, .int .i64 (A d).f.mn, .int .i64 (A d).f.mx, .slice (A d).f.rq (A d).f.rs.length (A d).f.rc, .slice (A d).f.kq (A d).f.kl (A d).f.kc, .int .i64 (A d).s] 47)).cell? ⟨w.heap.size, 5, none⟩ = some (.slice (A d).f.kq (A d).f.kl (A d).f.kc) := cell_row N1 (i := 5) rfl
  have m6 : (w.alloc (.cells #[.int .i64 (A d).f.k, .int .i64 (A d).f.n, .int .i64 (A d).f.mn, .int .i64 (A d).f.mx, .slice (A d).f.rq (A d).f.rs.length (A d).f.rc, .slice (A d).f.kq (A d).f.kl (A d).f.kc, .int .i64 (A d).s] 47)).cell? ⟨w.heap.size, 6, none⟩ = some (.int .i64 (A d).s) := cell_row N1 (i := 6) rfl
  have hlw := lt_of_heap N1
  generalize (w.alloc (.cells #[.int .i64 (A d).f.k, .int .i64 (A d).f.n, .int .i64 (A d).f.mn, .int .i64 (A d).f.mx, .slice (A d).f.rq (A d).f.rs.length (A d).f.rc, .slice (A d).f.kq (A d).f.kl (A d).f.kc, .int .i64 (A d).s] 47)) = W1 at B1 m0 m5 m6 hlw ⊢
  clear N1 k0 k1 k2 k3 k4 k5 k6 hlt e1 e2 h hd
  generalize (A d).f.k = pk at m0 HR ⊢
  generalize (A d).f.kl = kl at m5 HR hkl ⊢
  generalize (A d).s = se at m6 HR ⊢
  cases h5 : (pk == 5) with
  | true =>
    obtain rfl : pk = 5 := by simpa using h5
    go_upto_region 4 with fail
    refine wp_region_ext (by kernel_rfl) (by kernel_rfl) ?_
    repeat (go_big_quiet_step (first | exact rfl))
    refine wpQuiet_nil ?_
    intro w2 hw
    have B2 : Hid (Below w.heap.size w w2) := chain B1.out (ext_of hw) (Nat.le_refl _)
    clear hw B1
    have RR0 : r = (thingB k || (k == 3 && se == 0) || (k == 4 && se == (kl : Int) - 1)) := by rw [← HR.out]; simp [standB]
    have HK := hide (mayRepeat_c k)
    obtain ⟨tb, htb⟩ : ∃ tb, thingB k = tb := ⟨_, rfl⟩
    rw [htb] at HK RR0
    obtain ⟨b1, hb1⟩ : ∃ b1, (se == 0) = b1 := ⟨_, rfl⟩
    obtain ⟨b2, hb2⟩ : ∃ b2, (se == (kl : Int) - 1) = b2 := ⟨_, rfl⟩
    rw [hb1, hb2] at RR0
    rw [hb1, hb2]
    have RRX := hide RR0
    clear htb hb1 hb2 m0 m5 m6 RR0
    cases tb
    · cases h3 : (k == 3)
      · cases h4 : (k == 4)
        · go_wp2_with (go_at_call 44; (with_reducible refine (HK.out _).mono ?_); rintro e w5 ⟨rfl, h5⟩; subst w5)
          go_ret
          exact ⟨by rw [RRX.out, h3, h4]; rfl, B2.out⟩
        · go_wp2_with (go_at_call 44; (with_reducible refine (HK.out _).mono ?_); rintro e w5 ⟨rfl, h5⟩; subst w5)
          go_ret
          exact ⟨by rw [RRX.out, h3, h4]; simp, B2.out⟩
      · obtain rfl : k = 3 := by simpa using h3
        cases b1
        all_goals
          go_wp2_with (go_at_call 44; (with_reducible refine (HK.out _).mono ?_); rintro e w5 ⟨rfl, h5⟩; subst w5)
          go_ret
          exact ⟨by rw [RRX.out]; rfl, B2.out⟩
    · go_wp2_with (go_at_call 44; (with_reducible refine (HK.out _).mono ?_); rintro e w5 ⟨rfl, h5⟩; subst w5)
      go_ret
      exact ⟨by rw [RRX.out]; rfl, B2.out⟩
  | false =>
    cases h9 : (pk == 9) with
    | true =>
      obtain rfl : pk = 9 := by simpa using h9
      go_wp2_with (go_at_call 44; (with_reducible refine (mayRepeat_c _ _).mono ?_); rintro e w5 ⟨rfl, h5⟩; subst w5)
      go_ret
      exact ⟨by rw [← HR.out]; simp [standB], B1.out⟩
    | false =>
      cases h6 : (pk == 6) with
      | true =>
        obtain rfl : pk = 6 := by simpa using h6
        obtain ⟨kb, hkb⟩ : ∃ kb, kindB k = kb := ⟨_, rfl⟩
        have HK := hide (isKind_c k)
        rw [hkb] at HK
        have R2 : r = (kb && k != 6) := by rw [← HR.out, ← hkb]; simp [standB]
        clear hkb
        cases kb with
        | true =>
          go_wp2_with (go_at_call 66; (with_reducible refine (HK.out _).mono ?_); rintro e w5 ⟨rfl, h5⟩; subst w5)
          go_ret
          exact ⟨by rw [R2, Bool.true_and]; rfl, B1.out⟩
        | false =>
          go_wp2_with (go_at_call 66; (with_reducible refine (HK.out _).mono ?_); rintro e w5 ⟨rfl, h5⟩; subst w5)
          go_ret
          exact ⟨by rw [R2, Bool.false_and]; rfl, B1.out⟩
      | false =>
        have R2 : kindB k = r := by rw [← HR.out]; simp at h5 h9 h6; simp [standB, h5, h9, h6]
        go_wp2_with (go_at_call 66; (with_reducible refine (isKind_c _ _).mono ?_); rintro e w5 ⟨rfl, h5⟩; subst w5)
        go_ret
        exact ⟨by rw [← R2]; rfl, B1.out⟩
end Go.Proofs.Ytlodjinejeajcaa
