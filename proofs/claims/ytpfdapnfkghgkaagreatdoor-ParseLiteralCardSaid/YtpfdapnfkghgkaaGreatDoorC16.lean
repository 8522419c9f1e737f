/-
  joined: the node of some Kids. Lists of nodes that grow; what Cat and Alt make of trees. What Alt makes of trees.
-/
import Derived.Test.YtpfdapnfkghgkaaGreatDoorC15
namespace Go.Proofs.YtpfdapnfkghgkaaGreatDoor
open Go Go.RowKit

def joinE (k : Int) (l : List Er) (no : Er) : Er := match l with | [] => no | [x] => x | x :: y :: r => .mk k 0 0 0 [] (x :: y :: r)
def bare (k : Int) : Fl := ⟨k, 0, 0, 0, [], none, 0, none, 0, 0⟩
theorem bare_ta (W : World) (k : Int) : TA W (.mk (bare k) []) := (every_eq _).2 ⟨⟨.inl ⟨none, 0, rfl, rfl, fun _ => rfl⟩, .inl ⟨none, 0, rfl, rfl, fun _ => rfl⟩, fit_nil, by simp [Tr.f, bare], ⟨fun a e => (by cases e), fun a e => (by cases e)⟩⟩, (everyL_iff _).2 fun u hu => by cases hu⟩
theorem bare_foot (N : Nat → Prop) (k : Int) : Foot N (.mk (bare k) []) := (every_eq _).2 ⟨⟨fun a e => (by cases e), fun a e => (by cases e)⟩, (everyL_iff _).2 fun u hu => by cases hu⟩
theorem ret_joined {R : Ending → World → Prop} {a : Act} {W : World} {b : Nat} {f : Fl} (h : Six W b 0 f) (ha : a.tmps[6]?.getD undef = .pointer (some ⟨b, 0, none⟩)) (hd : a.defers = []) (hR : R (.returned (.agg #[.int .i64 f.k, .int .i64 f.n, .int .i64 f.mn, .int .i64 f.mx, .slice f.rq f.rs.length f.rc, .slice f.kq f.kl f.kc])) W) : bodyPost Tryz.prog Tryz.f32 R .ret a W := by
  obtain ⟨z0, z1, z2, z3, z4, z5⟩ := h
  simp only [Nat.zero_add] at z1 z2 z3 z4 z5
  refine bodyPost_ret (v := .agg #[.int .i64 f.k, .int .i64 f.n, .int .i64 f.mn, .int .i64 f.mx, .slice f.rq f.rs.length f.rc, .slice f.kq f.kl f.kc]) ?_ hd hR
  simp [results, Tryz.results32, go_sem, ha, z0, z1, z2, z3, z4, z5]
/-- A tree that has been made is laid into the result's place. -/
theorem laid_res {W : World} {bz : Nat} {t : Tr} (ht : TA W t) (hf : Foot (fun k => bz < k) t) (hr : W.heap[bz]? = some (.cells #[.int .i64 0, .int .i64 0, .int .i64 0, .int .i64 0, .slice none 0 0, .slice none 0 0] 28 (0, 0))) :
    Six (put6 W bz 0 t.f) bz 0 t.f ∧ TA (put6 W bz 0 t.f) t ∧ Fr (fun z => z = bz) W (put6 W bz 0 t.f) := by
  have F := put6_fr W bz 0 t.f
  refine ⟨put6_six (f := ⟨0, 0, 0, 0, [], none, 0, none, 0, 0⟩) ⟨cell_row hr (i := 0) rfl, cell_row hr (i := 1) rfl, cell_row hr (i := 2) rfl, cell_row hr (i := 3) rfl, cell_row hr (i := 4) rfl, cell_row hr (i := 5) rfl⟩, ht.ckN hf (F.ckeep (fun k e z => by omega)), F⟩

set_option maxRecDepth 100000 in
set_option maxHeartbeats 4000000 in
theorem joined_c {w : World} (kind k0 : Int) {q : Option Addr} {c : Nat} {ks : List Tr} (h : ArgK w (.slice q ks.length c) ks) (hta : ∀ u ∈ ks, TA w u) (hsz : szs ks < 1000000) (hown : ∀ a, q = some a → ks ≠ [] → ∃ cur, w.heap[a.block]? = some (.cells cur 28 (0, 0))) :
    Calls Tryz.prog 32 #[.int .i64 kind, .slice q ks.length c, .agg #[.int .i64 k0, .int .i64 0, .int .i64 0, .int .i64 0, .slice none 0 0, .slice none 0 0]] w (Makes w (joinE kind (ks.map er) (.mk k0 0 0 0 [] []))) := by
  have B0 : Hid (Below w.heap.size w ((w.alloc (.cells #[.int .i64 k0, .int .i64 0, .int .i64 0, .int .i64 0, .slice none 0 0, .slice none 0 0] 28)).alloc (.cells #[.int .i64 0, .int .i64 0, .int .i64 0, .int .i64 0, .slice none 0 0, .slice none 0 0] 28))) := ((Below.refl _ _).alloc (Nat.le_refl _) _).alloc (by simp) _
  have N0 : Hid (BoxN ((w.alloc (.cells #[.int .i64 k0, .int .i64 0, .int .i64 0, .int .i64 0, .slice none 0 0, .slice none 0 0] 28)).alloc (.cells #[.int .i64 0, .int .i64 0, .int .i64 0, .int .i64 0, .slice none 0 0, .slice none 0 0] 28)) w.heap.size (bare k0)) := (Below.heap_alloc _ _ _ (by simp)).trans (alloc_new w _)
  have R0 : Hid (((w.alloc (.cells #[.int .i64 k0, .int .i64 0, .int .i64 0, .int .i64 0, .slice none 0 0, .slice none 0 0] 28)).alloc (.cells #[.int .i64 0, .int .i64 0, .int .i64 0, .int .i64 0, .slice none 0 0, .slice none 0 0] 28)).heap[w.heap.size + 1]? = some (.cells #[.int .i64 0, .int .i64 0, .int .i64 0, .int .i64 0, .slice none 0 0, .slice none 0 0] 28 (0, 0))) := (by
    have := alloc_new (w.alloc (.cells #[.int .i64 k0, .int .i64 0, .int .i64 0, .int .i64 0, .slice none 0 0, .slice none 0 0] 28)) (.cells #[.int .i64 0, .int .i64 0, .int .i64 0, .int .i64 0, .slice none 0 0, .slice none 0 0] 28)
    rwa [World.size_alloc] at this)
  obtain ⟨X, hX⟩ : ∃ X, joinE kind (ks.map er) (.mk k0 0 0 0 [] []) = X := ⟨_, rfl⟩
  rw [hX]
  have HX := hide hX
  have HH := hide h
  have HT := hide hta
  have HW := hide hown
  clear hX h hta hown
  go_enter Tryz.func32, Tryz.ntmps32
  go_upto_region 1 with fail
  generalize ((w.alloc (.cells #[.int .i64 k0, .int .i64 0, .int .i64 0, .int .i64 0, .slice none 0 0, .slice none 0 0] 28)).alloc (.cells #[.int .i64 0, .int .i64 0, .int .i64 0, .int .i64 0, .slice none 0 0, .slice none 0 0] 28)) = W0 at B0 N0 R0 ⊢
  obtain ⟨bz, hbz⟩ : ∃ bz, w.heap.size + 1 = bz := ⟨_, rfl⟩
  rw [hbz] at R0 ⊢
  have LZ := lt_of_heap R0.out
  match ks, HH, HT, hsz, HX, HW with
  | [], HH, HT, hsz, HX, HW =>
    obtain ⟨n0, n1, n2, n3, n4, n5⟩ := N0.out.six
    simp only [Nat.zero_add, bare, List.length_nil] at n0 n1 n2 n3 n4 n5
    have r0 := cell_row R0.out (i := 0) rfl
    have r1 := cell_row R0.out (i := 1) rfl
    have r2 := cell_row R0.out (i := 2) rfl
    have r3 := cell_row R0.out (i := 3) rfl
    have r4 := cell_row R0.out (i := 4) rfl
    have r5 := cell_row R0.out (i := 5) rfl
    have fz := fun z => frz_row R0.out z
    have L9 := hide (laid_res (bare_ta W0 k0) (bare_foot (fun k => bz < k) k0) R0.out)
    have X9 := hide L9.out.1
    have P9 := hide L9.out.2.2
    unfold put6 at X9 P9
    simp only [Tr.f, bare] at X9 P9
    go_wp2
    refine ret_joined X9.out rfl rfl ?_
    exact ⟨.mk (bare k0) [], rfl, L9.out.2.1, bare_foot _ _, by rw [← HX.out, er_eq]; rfl, chainF B0.out P9.out (Nat.le_refl _) (fun k e => by omega)⟩
  | [u], HH, HT, hsz, HX, HW =>
    obtain ⟨q', c', e, -, -, hx⟩ := HH.out.slice
    injection e with e1 _ e3
    subst e1 e3
    obtain ⟨g, off, rfl, hg, six⟩ := hx 0 u rfl
    obtain ⟨c0, c1, c2, c3, c4, c5⟩ := six.ck (CK.of_below B0.out) hg
    simp only [Nat.zero_mul, Nat.add_zero] at c0 c1 c2 c3 c4 c5
    have CP := hide (copied8_c ((HT.out u (by simp)).kept B0.out) (by rw [szs_cons, szs_nil] at hsz; omega))
    simp only [List.length_cons, List.length_nil, Nat.zero_add]
    clear six hx
    go_wp2_with (go_at_call 35; (with_reducible refine (CP.out).mono ?_); rintro e w5 ⟨t5, rfl, h51, h52, h53, h54⟩; have R5 : w5.heap[bz]? = some (.cells #[.int .i64 0, .int .i64 0, .int .i64 0, .int .i64 0, .slice none 0 0, .slice none 0 0] 28 (0, 0)) := (h54.block _ LZ).trans R0.out; have r0 := cell_row R5 (i := 0) rfl; have r1 := cell_row R5 (i := 1) rfl; have r2 := cell_row R5 (i := 2) rfl; have r3 := cell_row R5 (i := 3) rfl; have r4 := cell_row R5 (i := 4) rfl; have r5 := cell_row R5 (i := 5) rfl; have fz := fun z => frz_row R5 z; have L9 := hide (laid_res h51 (h52.mono (fun k hk => Nat.lt_of_lt_of_le LZ hk)) R5); have X9 := hide L9.out.1; have P9 := hide L9.out.2.2; unfold put6 at X9 P9; have Q5 := hide (⟨h52, h53, chain B0.out h54 (Nat.le_refl _)⟩ : Foot (fun k => W0.heap.size ≤ k) t5 ∧ er t5 = _ ∧ Below w.heap.size w w5); clear h51 h52 h53 h54)
    refine ret_joined X9.out rfl rfl ?_
    exact ⟨t5, rfl, L9.out.2.1, Q5.out.1.mono (fun k hk => Nat.le_trans B0.out.size hk), by rw [Q5.out.2.1, ← HX.out]; rfl, chainF Q5.out.2.2 P9.out (Nat.le_refl _) (fun k e => by omega)⟩
  | u :: v :: r, HH, HT, hsz, HX, HW =>
    have TT : TA W0 (.mk ⟨kind, 0, 0, 0, [], none, 0, q, (u :: v :: r).length, c⟩ (u :: v :: r)) := (every_eq _).2 ⟨⟨.inl ⟨none, 0, rfl, rfl, fun _ => rfl⟩, HH.out.ck (CK.of_below B0.out), fit_nil, by simp [Tr.f], ⟨fun a e => (by cases e), fun a e z => (by obtain ⟨cur, y⟩ := HW.out a e z; exact ⟨cur, (B0.out.block _ (lt_of_heap y)).trans y⟩)⟩⟩, (everyL_iff _).2 fun y hy => (HT.out y hy).kept B0.out⟩
    have CP := hide (copied8_c TT (by rw [sz_eq]; exact hsz))
    simp only [Tr.f, List.length_nil] at CP
    obtain ⟨n, hn⟩ : ∃ n, (u :: v :: r).length = n := ⟨_, rfl⟩
    rw [hn] at CP ⊢
    have h0 : ((n : Int) == 0) = false := by simp at hn ⊢; omega
    have h1 : ((n : Int) == 1) = false := by simp at hn ⊢; omega
    clear hn TT
    go_wp2_with (go_at_call 35; (with_reducible refine (CP.out).mono ?_); rintro e w5 ⟨t5, rfl, h51, h52, h53, h54⟩; have R5 : w5.heap[bz]? = some (.cells #[.int .i64 0, .int .i64 0, .int .i64 0, .int .i64 0, .slice none 0 0, .slice none 0 0] 28 (0, 0)) := (h54.block _ LZ).trans R0.out; have r0 := cell_row R5 (i := 0) rfl; have r1 := cell_row R5 (i := 1) rfl; have r2 := cell_row R5 (i := 2) rfl; have r3 := cell_row R5 (i := 3) rfl; have r4 := cell_row R5 (i := 4) rfl; have r5 := cell_row R5 (i := 5) rfl; have fz := fun z => frz_row R5 z; have L9 := hide (laid_res h51 (h52.mono (fun k hk => Nat.lt_of_lt_of_le LZ hk)) R5); have X9 := hide L9.out.1; have P9 := hide L9.out.2.2; unfold put6 at X9 P9; have Q5 := hide (⟨h52, h53, chain B0.out h54 (Nat.le_refl _)⟩ : Foot (fun k => W0.heap.size ≤ k) t5 ∧ er t5 = _ ∧ Below w.heap.size w w5); clear h51 h52 h53 h54)
    refine ret_joined X9.out rfl rfl ?_
    exact ⟨t5, rfl, L9.out.2.1, Q5.out.1.mono (fun k hk => Nat.le_trans B0.out.size hk), by rw [Q5.out.2.1, ← HX.out, er_eq]; rfl, chainF Q5.out.2.2 P9.out (Nat.le_refl _) (fun k e => by omega)⟩
end Go.Proofs.YtpfdapnfkghgkaaGreatDoor
namespace Go.Proofs.YtpfdapnfkghgkaaGreatDoor
open Go Go.RowKit

def catT (t : Tr) : List Tr := if t.f.k = 1 then [] else if t.f.k = 5 then t.ks else [t]
def altT (t : Tr) : List Tr := if t.f.k = 6 then t.ks else [t]
theorem szs_append (a b : List Tr) : szs (a ++ b) = szs a + szs b := by
  induction a with
  | nil => rw [szs_nil]; simp
  | cons x a ih => rw [List.cons_append, szs_cons, szs_cons, ih]; omega
theorem szs_flat {f : Tr → List Tr} (h : ∀ t, szs (f t) ≤ t.sz) (l : List Tr) : szs (l.flatMap f) ≤ szs l := by
  induction l with
  | nil => exact Nat.le_refl _
  | cons x l ih => rw [List.flatMap_cons, szs_append, szs_cons]; have := h x; omega
theorem catT_sz (t : Tr) : szs (catT t) ≤ t.sz := by
  unfold catT
  split
  · rw [szs_nil]; omega
  · split
    · rw [sz_eq]; omega
    · rw [szs_cons, szs_nil]; omega
theorem altT_sz (t : Tr) : szs (altT t) ≤ t.sz := by
  unfold altT
  split
  · rw [sz_eq]; omega
  · rw [szs_cons, szs_nil]; omega
theorem szs_take (l : List Tr) (j : Nat) : szs (l.take j) ≤ szs l := by
  have := szs_append (l.take j) (l.drop j)
  rw [List.take_append_drop] at this
  omega
theorem len_szs (l : List Tr) : l.length ≤ szs l := by
  induction l with
  | nil => simp
  | cons x l ih => rw [szs_cons, List.length_cons]; have := sz_pos x; omega
theorem catT_mem {W : World} {t u : Tr} (h : TA W t) (hu : u ∈ catT t) : TA W u := by
  unfold catT at hu
  split at hu
  · cases hu
  · split at hu
    · exact h.kid hu
    · simp at hu; subst hu; exact h
theorem altT_mem {W : World} {t u : Tr} (h : TA W t) (hu : u ∈ altT t) : TA W u := by
  unfold altT at hu
  split at hu
  · exact h.kid hu
  · simp at hu; subst hu; exact h
theorem bel_app {base : Nat} {w W W' : World} {e : TypeId} {size n : Nat} {v : Value} {xs : List Value} (h : Below base w W) (hw : base ≤ w.heap.size) (ho : W.ownsRow base e size v n xs) (hg : W.grownBy W' v.ownBlock) : Below base w W' :=
  h.trans ⟨hg.os, hg.tape, hg.output, hg.size, fun k hk => hg.block k (by have := h.size; omega) (fun q => by have := (ownsRow_at ho q.symm).1; omega)⟩
theorem row_arg {W : World} {base c : Nat} {q : Option Addr} {ks : List Tr} (h : W.ownsRow base 28 6 (.slice q ks.length c) ks.length (cellsK ks)) : ArgK W (.slice q ks.length c) ks := by
  rcases h.2 with ⟨e, hn⟩ | ⟨g, cap, cur, e, h1, h2, h3, h4, -⟩
  · obtain rfl := List.eq_nil_of_length_eq_zero hn
    injection e with e1 _ e3
    subst e1 e3
    exact .inl ⟨none, 0, rfl, rfl, fun _ => rfl⟩
  · injection e with e1 _ e3
    subst e1 e3
    exact (KR.of_row h).arg h3 h4
theorem six_news {W : World} {b : Nat} {f : Fl} (h : BoxN W b f) : ∀ j u, f.cells[j]? = some u → W.cell? ((⟨b, 0, none⟩ : Addr).add j) = some u := fun j u hj => by rw [add_lit]; exact h.six.at hj

theorem ret_Cat {R : Ending → World → Prop} {a : Act} {W : World} {b : Nat} {f : Fl} (h : Six W b 0 f) (ha : a.tmps[2]?.getD undef = .pointer (some ⟨b, 0, none⟩)) (hd : a.defers = []) (hR : R (.returned (.agg #[.int .i64 f.k, .int .i64 f.n, .int .i64 f.mn, .int .i64 f.mx, .slice f.rq f.rs.length f.rc, .slice f.kq f.kl f.kc])) W) : bodyPost Tryz.prog Tryz.f38 R .ret a W := by
  obtain ⟨z0, z1, z2, z3, z4, z5⟩ := h
  simp only [Nat.zero_add] at z1 z2 z3 z4 z5
  refine bodyPost_ret (v := .agg #[.int .i64 f.k, .int .i64 f.n, .int .i64 f.mn, .int .i64 f.mx, .slice f.rq f.rs.length f.rc, .slice f.kq f.kl f.kc]) ?_ hd hR
  simp [results, Tryz.results38, go_sem, ha, z0, z1, z2, z3, z4, z5]
set_option maxRecDepth 100000 in
set_option maxHeartbeats 8000000 in
theorem cat_c {w : World} {q : Option Addr} {c : Nat} {l : List Tr} (h : ArgK w (.slice q l.length c) l) (hta : ∀ u ∈ l, TA w u) (hsz : szs l < 1000000) :
    Calls Tryz.prog 38 #[.slice q l.length c] w (Makes w (joinE 5 ((l.flatMap catT).map er) (.mk 1 0 0 0 [] []))) := by
  obtain ⟨t0, hi, hz0, hz1, hz2⟩ := info_parts size_node
  have B0 : Hid (Below w.heap.size w (w.alloc (.cells #[.int .i64 0, .int .i64 0, .int .i64 0, .int .i64 0, .slice none 0 0, .slice none 0 0] 28))) := (Below.refl _ _).alloc (Nat.le_refl _) _
  have R0 : Hid ((w.alloc (.cells #[.int .i64 0, .int .i64 0, .int .i64 0, .int .i64 0, .slice none 0 0, .slice none 0 0] 28)).heap[w.heap.size]? = some (.cells #[.int .i64 0, .int .i64 0, .int .i64 0, .int .i64 0, .slice none 0 0, .slice none 0 0] 28 (0, 0))) := alloc_new w _
  obtain ⟨X, hX⟩ : ∃ X, joinE 5 ((l.flatMap catT).map er) (.mk 1 0 0 0 [] []) = X := ⟨_, rfl⟩
  rw [hX]
  have HX := hide hX
  obtain ⟨q', c', e, hml, -, hx⟩ := h.slice
  injection e with e1 _ e3
  subst e1 e3
  have hml' : l.length ≤ 9223372036854775807 := hml
  have HH := hide hx
  have HT := hide hta
  have hlz := len_szs l
  clear hX h hta hx hml
  go_enter Tryz.func38, Tryz.ntmps38
  go_upto_region 1 with fail
  generalize (w.alloc (.cells #[.int .i64 0, .int .i64 0, .int .i64 0, .int .i64 0, .slice none 0 0, .slice none 0 0] 28)) = W0 at B0 R0 ⊢
  have LZ := lt_of_heap R0.out
  go_upto_region 2 with fail
  go_wp2
  go_loopw [8, 3] (fun i s wr => ∃ (j : Nat) (qq : Option Addr) (cc : Nat), j ≤ l.length ∧ i = .int .i64 (j : Int) ∧ s = .slice qq ((l.take j).flatMap catT).length cc ∧ wr.ownsRow W0.heap.size 28 6 (.slice qq ((l.take j).flatMap catT).length cc) ((l.take j).flatMap catT).length (cellsK ((l.take j).flatMap catT)) ∧ Below W0.heap.size W0 wr) (fun i _ _ => l.length - (intOf i).toNat)
  case atStart => exact ⟨0, none, 0, Nat.zero_le _, rfl, rfl, World.ownsRow_nil _ _ _ _, Below.refl _ _⟩
  case round =>
    obtain ⟨j, qq, cc, hj, rfl, rfl, hown, hbel⟩ := hrel
    have HO := hide hown
    have HB := hide hbel
    have HLE : ((l.take j).flatMap catT).length ≤ 1000000 := Nat.le_trans (len_szs _) (Nat.le_trans (szs_flat catT_sz _) (by have := szs_take l j; omega))
    clear hown hbel
    by_cases hjl : j < l.length
    · have i0 : (j : Int) < (l.length : Int) := by omega
      obtain ⟨u, hu⟩ : ∃ u, l[j]? = some u := ⟨_, List.getElem?_eq_getElem hjl⟩
      obtain ⟨g, off, hq, hg, six⟩ := HH.out j u hu
      have hin : u ∈ l := List.mem_of_getElem? hu
      have BW : Below w.heap.size w wr := chain B0.out HB.out (Nat.le_refl _)
      obtain ⟨c0, c1, c2, c3, c4, c5⟩ := six.ck (CK.of_below BW) hg
      have HN : (l.take (j + 1)).flatMap catT = (l.take j).flatMap catT ++ catT u := by rw [List.take_add_one, hu, List.flatMap_append]; simp
      have HNX := hide HN
      have K4 : Below wr.heap.size wr (wr.alloc (.cells #[.int .i64 u.f.k, .int .i64 u.f.n, .int .i64 u.f.mn, .int .i64 u.f.mx, .slice u.f.rq u.f.rs.length u.f.rc, .slice u.f.kq u.f.kl u.f.kc] 28)) := (Below.refl _ _).alloc (Nat.le_refl _) _
      have N4 : Hid (BoxN (wr.alloc (.cells #[.int .i64 u.f.k, .int .i64 u.f.n, .int .i64 u.f.mn, .int .i64 u.f.mx, .slice u.f.rq u.f.rs.length u.f.rc, .slice u.f.kq u.f.kl u.f.kc] 28)) wr.heap.size u.f) := alloc_new wr _
      have B4 : Hid (Below W0.heap.size W0 (wr.alloc (.cells #[.int .i64 u.f.k, .int .i64 u.f.n, .int .i64 u.f.mn, .int .i64 u.f.mx, .slice u.f.rq u.f.rs.length u.f.rc, .slice u.f.kq u.f.kl u.f.kc] 28))) := HB.out.alloc HB.out.size _
      have O4 := hide (ownsRow_fr HO.out (Fr.of_below (S := fun _ => False) K4) (fun _ _ z => z))
      have T4 := hide (((HT.out u hin).kept BW).kept K4)
      have hlu : ((l.take (j + 1)).flatMap catT).length ≤ 1000000 := Nat.le_trans (len_szs _) (Nat.le_trans (szs_flat catT_sz _) (by have := szs_take l (j + 1); omega))
      rw [HN, List.length_append] at hlu
      rw [hq]
      clear six hu K4 BW HN
      go_upto_region 5 with fail
      generalize (wr.alloc (.cells #[.int .i64 u.f.k, .int .i64 u.f.n, .int .i64 u.f.mn, .int .i64 u.f.mx, .slice u.f.rq u.f.rs.length u.f.rc, .slice u.f.kq u.f.kl u.f.kc] 28)) = W4 at N4 B4 O4 T4 ⊢
      obtain ⟨n0, n1, n2, n3, n4, n5⟩ := N4.out.six
      simp only [Nat.zero_add] at n1 n2 n3 n4 n5
      have hkl := T4.out.node.kl
      rw [hkl] at n5
      have TK := T4.out.node.k
      rw [hkl] at TK
      have HTK := hide TK
      clear c0 c1 c2 c3 c4 c5 TK
      generalize hout : (l.take j).flatMap catT = out at *
      by_cases k1 : u.f.k = 1
      · have e1 : (u.f.k == 1) = true := by simpa using k1
        have hpk := hide (show catT u = [] by unfold catT; simp [k1])
        clear k1
        go_wp2
        go_roundw
        case rel => exact ⟨j + 1, qq, cc, by omega, by go_num, by rw [HNX.out, hpk.out, List.append_nil], by rw [HNX.out, hpk.out, List.append_nil]; exact O4.out, B4.out⟩
        case measure => simp only [intOf]; omega
      · have e1 : (u.f.k == 1) = false := by simpa using k1
        by_cases k5 : u.f.k = 5
        · have e5 : (u.f.k == 5) = true := by simpa using k5
          have hpk := hide (show catT u = u.ks by unfold catT; simp [k5])
          have hlu2 : out.length + u.ks.length ≤ 1000000 := by rw [← hpk.out]; exact hlu
          cases hkq : u.f.kq with
          | none =>
            rw [hkq] at n5 HTK
            have hks : u.ks = [] ∧ u.f.kc = 0 := by
              rcases HTK.out with ⟨p, cap, e, h1, h2⟩ | ⟨g', off', cap, e, -⟩
              · injection e with e1 _ e3
                subst e1 e3
                exact ⟨h1, h2 rfl⟩
              · cases e
            rw [hks.1, hks.2, List.length_nil] at n5
            have HKS := hide hks
            have HKQ := hide hkq
            clear hks hkq hkl HTK k1 k5
            go_wp2_with (at_builtin; refine wpList_append_own_none rfl _ _ 26 rfl W0.heap.size 28 t0 6 und_nodes hi (.slice qq out.length cc) out.length (cellsK out) rfl O4.out rfl ?_)
            go_roundw
            case rel => exact ⟨j + 1, qq, cc, by omega, by go_num, by rw [HNX.out, hpk.out, HKS.out.1, List.append_nil], by rw [HNX.out, hpk.out, HKS.out.1, List.append_nil]; exact O4.out, B4.out⟩
            case measure => simp only [intOf]; omega
          | some ad =>
            rw [hkq] at n5 HTK
            have HKQ := hide hkq
            clear hkq hkl k1 k5
            go_wp2_with (at_builtin; refine wpList_append_own_at _ rfl _ _ 26 rfl W0.heap.size 28 t0 (.agg #[.int .i64 0, .int .i64 0, .int .i64 0, .int .i64 0, .slice none 0 0, .slice none 0 0]) 6 80 und_nodes hi hz0 hz1 hz2 rfl (by decide) (.slice qq out.length cc) out.length (cellsK out) rfl O4.out ad u.ks.length u.f.kc (cellsK u.ks) rfl (by rw [cellsK_length]) HTK.out.news (cellsK_one u.ks) (by unfold maxLen; omega) (by omega) B4.out.size ?_; intro v' w6 hown' hgrow _ _; obtain ⟨q6, cap6, rfl⟩ := ownsRow_shape hown'; have O6 := hide hown'; have B6 : Hid (Below W0.heap.size W0 w6) := bel_app B4.out (Nat.le_refl _) O4.out hgrow; clear hown' hgrow)
            go_roundw
            case rel => exact ⟨j + 1, q6, cap6, by omega, by go_num, by rw [HNX.out, hpk.out, List.length_append], by rw [HNX.out, hpk.out, cellsK_append, List.length_append]; exact O6.out, B6.out⟩
            case measure => simp only [intOf]; omega
        · have e5 : (u.f.k == 5) = false := by simpa using k5
          have hpk := hide (show catT u = [u] by unfold catT; simp [k1, k5])
          have hlu2 : out.length + 1 ≤ 1000000 := by have := hlu; rw [hpk.out] at this; exact this
          have K5 : Below W4.heap.size W4 (W4.alloc (.cells #[.int .i64 u.f.k, .int .i64 u.f.n, .int .i64 u.f.mn, .int .i64 u.f.mx, .slice u.f.rq u.f.rs.length u.f.rc, .slice u.f.kq u.f.kl u.f.kc] 28)) := (Below.refl _ _).alloc (Nat.le_refl _) _
          have N5 := hide (six_news (alloc_new W4 (.cells #[.int .i64 u.f.k, .int .i64 u.f.n, .int .i64 u.f.mn, .int .i64 u.f.mx, .slice u.f.rq u.f.rs.length u.f.rc, .slice u.f.kq u.f.kl u.f.kc] 28)))
          have O5 := hide (ownsRow_fr O4.out (Fr.of_below (S := fun _ => False) K5) (fun _ _ z => z))
          have B5 : Hid (Below W0.heap.size W0 (W4.alloc (.cells #[.int .i64 u.f.k, .int .i64 u.f.n, .int .i64 u.f.mn, .int .i64 u.f.mx, .slice u.f.rq u.f.rs.length u.f.rc, .slice u.f.kq u.f.kl u.f.kc] 28))) := chain B4.out K5 (Nat.le_refl _)
          rw [← hkl] at n5
          clear hkl K5
          go_wp2_with (at_builtin; refine wpList_append_own_at _ rfl _ _ 26 rfl W0.heap.size 28 t0 (.agg #[.int .i64 0, .int .i64 0, .int .i64 0, .int .i64 0, .slice none 0 0, .slice none 0 0]) 6 80 und_nodes hi hz0 hz1 hz2 rfl (by decide) (.slice qq out.length cc) out.length (cellsK out) rfl O5.out ⟨W4.heap.size, 0, none⟩ 1 1 u.f.cells rfl rfl N5.out (fun v hv => by simp [Fl.cells] at hv; rcases hv with rfl | rfl | rfl | rfl | rfl | rfl <;> rfl) (by unfold maxLen; omega) (by omega) B5.out.size ?_; intro v' w6 hown' hgrow _ _; obtain ⟨q6, cap6, rfl⟩ := ownsRow_shape hown'; have O6 := hide hown'; have B6 : Hid (Below W0.heap.size W0 w6) := bel_app B5.out (Nat.le_refl _) O5.out hgrow; clear hown' hgrow)
          go_roundw
          case rel => exact ⟨j + 1, q6, cap6, by omega, by go_num, by rw [HNX.out, hpk.out, List.length_append]; rfl, by rw [HNX.out, hpk.out, cellsK_append, List.length_append, show cellsK [u] = u.f.cells by simp [cellsK]]; exact O6.out, B6.out⟩
          case measure => simp only [intOf]; omega
    · have i0 : ¬ (j : Int) < (l.length : Int) := by omega
      have he : (l.take j).flatMap catT = l.flatMap catT := by rw [List.take_of_length_le (by omega)]
      have JN := hide (joined_c 5 1 (row_arg HO.out) (fun u hu => (by
        obtain ⟨x, hx, hux⟩ := List.mem_flatMap.1 hu
        exact ((catT_mem (HT.out x (List.mem_of_mem_take hx)) hux).kept B0.out).kept HB.out)) (Nat.lt_of_le_of_lt (Nat.le_trans (szs_flat catT_sz _) (szs_take l j)) hsz) (fun a e z => (ownsRow_at HO.out (g := a.block) (by rw [e]; rfl)).2.2))
      rw [he] at JN
      have hlen : ((l.take j).flatMap catT).length = (l.flatMap catT).length := by rw [he]
      rw [hlen]
      clear he hlen HO HLE
      generalize l.flatMap catT = out at JN HX ⊢
      go_wp2_with (go_at_call 32; (with_reducible refine (JN.out).mono ?_); rintro e w5 ⟨t5, rfl, h51, h52, h53, h54⟩; have R5 : w5.heap[w.heap.size]? = some (.cells #[.int .i64 0, .int .i64 0, .int .i64 0, .int .i64 0, .slice none 0 0, .slice none 0 0] 28 (0, 0)) := (h54.block _ (Nat.lt_of_lt_of_le LZ HB.out.size)).trans ((HB.out.block _ LZ).trans R0.out); have r0 := cell_row R5 (i := 0) rfl; have r1 := cell_row R5 (i := 1) rfl; have r2 := cell_row R5 (i := 2) rfl; have r3 := cell_row R5 (i := 3) rfl; have r4 := cell_row R5 (i := 4) rfl; have r5 := cell_row R5 (i := 5) rfl; have fz := fun z => frz_row R5 z; have L9 := hide (laid_res h51 (h52.mono (fun k hk => Nat.lt_of_lt_of_le LZ (Nat.le_trans HB.out.size hk))) R5); have X9 := hide L9.out.1; have P9 := hide L9.out.2.2; unfold put6 at X9 P9; have Q5 := hide (⟨h52, h53, chain (chain B0.out HB.out (Nat.le_refl _)) h54 (Nat.le_refl _)⟩ : Foot (fun k => wr.heap.size ≤ k) t5 ∧ er t5 = _ ∧ Below w.heap.size w w5); clear h51 h52 h53 h54)
      refine ret_Cat X9.out rfl rfl ?_
      exact ⟨t5, rfl, L9.out.2.1, Q5.out.1.mono (fun k hk => Nat.le_trans B0.out.size (Nat.le_trans HB.out.size hk)), by rw [Q5.out.2.1, ← HX.out], chainF Q5.out.2.2 P9.out (Nat.le_refl _) (fun k e => by omega)⟩
end Go.Proofs.YtpfdapnfkghgkaaGreatDoor
namespace Go.Proofs.YtpfdapnfkghgkaaGreatDoor
open Go Go.RowKit

theorem ret_Alt {R : Ending → World → Prop} {a : Act} {W : World} {b : Nat} {f : Fl} (h : Six W b 0 f) (ha : a.tmps[2]?.getD undef = .pointer (some ⟨b, 0, none⟩)) (hd : a.defers = []) (hR : R (.returned (.agg #[.int .i64 f.k, .int .i64 f.n, .int .i64 f.mn, .int .i64 f.mx, .slice f.rq f.rs.length f.rc, .slice f.kq f.kl f.kc])) W) : bodyPost Tryz.prog Tryz.f15 R .ret a W := by
  obtain ⟨z0, z1, z2, z3, z4, z5⟩ := h
  simp only [Nat.zero_add] at z1 z2 z3 z4 z5
  refine bodyPost_ret (v := .agg #[.int .i64 f.k, .int .i64 f.n, .int .i64 f.mn, .int .i64 f.mx, .slice f.rq f.rs.length f.rc, .slice f.kq f.kl f.kc]) ?_ hd hR
  simp [results, Tryz.results15, go_sem, ha, z0, z1, z2, z3, z4, z5]
set_option maxRecDepth 100000 in
set_option maxHeartbeats 8000000 in
theorem alt_c {w : World} {q : Option Addr} {c : Nat} {l : List Tr} (h : ArgK w (.slice q l.length c) l) (hta : ∀ u ∈ l, TA w u) (hsz : szs l < 1000000) :
    Calls Tryz.prog 15 #[.slice q l.length c] w (Makes w (joinE 6 ((l.flatMap altT).map er) (.mk 2 0 0 0 [] []))) := by
  obtain ⟨t0, hi, hz0, hz1, hz2⟩ := info_parts size_node
  have B0 : Hid (Below w.heap.size w (w.alloc (.cells #[.int .i64 0, .int .i64 0, .int .i64 0, .int .i64 0, .slice none 0 0, .slice none 0 0] 28))) := (Below.refl _ _).alloc (Nat.le_refl _) _
  have R0 : Hid ((w.alloc (.cells #[.int .i64 0, .int .i64 0, .int .i64 0, .int .i64 0, .slice none 0 0, .slice none 0 0] 28)).heap[w.heap.size]? = some (.cells #[.int .i64 0, .int .i64 0, .int .i64 0, .int .i64 0, .slice none 0 0, .slice none 0 0] 28 (0, 0))) := alloc_new w _
  obtain ⟨X, hX⟩ : ∃ X, joinE 6 ((l.flatMap altT).map er) (.mk 2 0 0 0 [] []) = X := ⟨_, rfl⟩
  rw [hX]
  have HX := hide hX
  obtain ⟨q', c', e, hml, -, hx⟩ := h.slice
  injection e with e1 _ e3
  subst e1 e3
  have hml' : l.length ≤ 9223372036854775807 := hml
  have HH := hide hx
  have HT := hide hta
  have hlz := len_szs l
  clear hX h hta hx hml
  go_enter Tryz.func15, Tryz.ntmps15
  go_upto_region 1 with fail
  generalize (w.alloc (.cells #[.int .i64 0, .int .i64 0, .int .i64 0, .int .i64 0, .slice none 0 0, .slice none 0 0] 28)) = W0 at B0 R0 ⊢
  have LZ := lt_of_heap R0.out
  go_upto_region 2 with fail
  go_wp2
  go_loopw [8, 3] (fun i s wr => ∃ (j : Nat) (qq : Option Addr) (cc : Nat), j ≤ l.length ∧ i = .int .i64 (j : Int) ∧ s = .slice qq ((l.take j).flatMap altT).length cc ∧ wr.ownsRow W0.heap.size 28 6 (.slice qq ((l.take j).flatMap altT).length cc) ((l.take j).flatMap altT).length (cellsK ((l.take j).flatMap altT)) ∧ Below W0.heap.size W0 wr) (fun i _ _ => l.length - (intOf i).toNat)
  case atStart => exact ⟨0, none, 0, Nat.zero_le _, rfl, rfl, World.ownsRow_nil _ _ _ _, Below.refl _ _⟩
  case round =>
    obtain ⟨j, qq, cc, hj, rfl, rfl, hown, hbel⟩ := hrel
    have HO := hide hown
    have HB := hide hbel
    have HLE : ((l.take j).flatMap altT).length ≤ 1000000 := Nat.le_trans (len_szs _) (Nat.le_trans (szs_flat altT_sz _) (by have := szs_take l j; omega))
    clear hown hbel
    by_cases hjl : j < l.length
    · have i0 : (j : Int) < (l.length : Int) := by omega
      obtain ⟨u, hu⟩ : ∃ u, l[j]? = some u := ⟨_, List.getElem?_eq_getElem hjl⟩
      obtain ⟨g, off, hq, hg, six⟩ := HH.out j u hu
      have hin : u ∈ l := List.mem_of_getElem? hu
      have BW : Below w.heap.size w wr := chain B0.out HB.out (Nat.le_refl _)
      obtain ⟨c0, c1, c2, c3, c4, c5⟩ := six.ck (CK.of_below BW) hg
      have HN : (l.take (j + 1)).flatMap altT = (l.take j).flatMap altT ++ altT u := by rw [List.take_add_one, hu, List.flatMap_append]; simp
      have HNX := hide HN
      have K4 : Below wr.heap.size wr (wr.alloc (.cells #[.int .i64 u.f.k, .int .i64 u.f.n, .int .i64 u.f.mn, .int .i64 u.f.mx, .slice u.f.rq u.f.rs.length u.f.rc, .slice u.f.kq u.f.kl u.f.kc] 28)) := (Below.refl _ _).alloc (Nat.le_refl _) _
      have N4 : Hid (BoxN (wr.alloc (.cells #[.int .i64 u.f.k, .int .i64 u.f.n, .int .i64 u.f.mn, .int .i64 u.f.mx, .slice u.f.rq u.f.rs.length u.f.rc, .slice u.f.kq u.f.kl u.f.kc] 28)) wr.heap.size u.f) := alloc_new wr _
      have B4 : Hid (Below W0.heap.size W0 (wr.alloc (.cells #[.int .i64 u.f.k, .int .i64 u.f.n, .int .i64 u.f.mn, .int .i64 u.f.mx, .slice u.f.rq u.f.rs.length u.f.rc, .slice u.f.kq u.f.kl u.f.kc] 28))) := HB.out.alloc HB.out.size _
      have O4 := hide (ownsRow_fr HO.out (Fr.of_below (S := fun _ => False) K4) (fun _ _ z => z))
      have T4 := hide (((HT.out u hin).kept BW).kept K4)
      have hlu : ((l.take (j + 1)).flatMap altT).length ≤ 1000000 := Nat.le_trans (len_szs _) (Nat.le_trans (szs_flat altT_sz _) (by have := szs_take l (j + 1); omega))
      rw [HN, List.length_append] at hlu
      rw [hq]
      clear six hu K4 BW HN
      go_upto_region 5 with fail
      generalize (wr.alloc (.cells #[.int .i64 u.f.k, .int .i64 u.f.n, .int .i64 u.f.mn, .int .i64 u.f.mx, .slice u.f.rq u.f.rs.length u.f.rc, .slice u.f.kq u.f.kl u.f.kc] 28)) = W4 at N4 B4 O4 T4 ⊢
      obtain ⟨n0, n1, n2, n3, n4, n5⟩ := N4.out.six
      simp only [Nat.zero_add] at n1 n2 n3 n4 n5
      have hkl := T4.out.node.kl
      rw [hkl] at n5
      have TK := T4.out.node.k
      rw [hkl] at TK
      have HTK := hide TK
      clear c0 c1 c2 c3 c4 c5 TK
      generalize hout : (l.take j).flatMap altT = out at *
      by_cases k6 : u.f.k = 6
      · have e6 : (u.f.k == 6) = true := by simpa using k6
        have hpk := hide (show altT u = u.ks by unfold altT; simp [k6])
        have hlu2 : out.length + u.ks.length ≤ 1000000 := by rw [← hpk.out]; exact hlu
        cases hkq : u.f.kq with
        | none =>
          rw [hkq] at n5 HTK
          have hks : u.ks = [] ∧ u.f.kc = 0 := by
            rcases HTK.out with ⟨p, cap, e, h1, h2⟩ | ⟨g', off', cap, e, -⟩
            · injection e with e1 _ e3
              subst e1 e3
              exact ⟨h1, h2 rfl⟩
            · cases e
          rw [hks.1, hks.2, List.length_nil] at n5
          have HKS := hide hks
          have HKQ := hide hkq
          clear hks hkq hkl HTK k6
          go_wp2_with (at_builtin; refine wpList_append_own_none rfl _ _ 26 rfl W0.heap.size 28 t0 6 und_nodes hi (.slice qq out.length cc) out.length (cellsK out) rfl O4.out rfl ?_)
          go_roundw
          case rel => exact ⟨j + 1, qq, cc, by omega, by go_num, by rw [HNX.out, hpk.out, HKS.out.1, List.append_nil], by rw [HNX.out, hpk.out, HKS.out.1, List.append_nil]; exact O4.out, B4.out⟩
          case measure => simp only [intOf]; omega
        | some ad =>
          rw [hkq] at n5 HTK
          have HKQ := hide hkq
          clear hkq hkl k6
          go_wp2_with (at_builtin; refine wpList_append_own_at _ rfl _ _ 26 rfl W0.heap.size 28 t0 (.agg #[.int .i64 0, .int .i64 0, .int .i64 0, .int .i64 0, .slice none 0 0, .slice none 0 0]) 6 80 und_nodes hi hz0 hz1 hz2 rfl (by decide) (.slice qq out.length cc) out.length (cellsK out) rfl O4.out ad u.ks.length u.f.kc (cellsK u.ks) rfl (by rw [cellsK_length]) HTK.out.news (cellsK_one u.ks) (by unfold maxLen; omega) (by omega) B4.out.size ?_; intro v' w6 hown' hgrow _ _; obtain ⟨q6, cap6, rfl⟩ := ownsRow_shape hown'; have O6 := hide hown'; have B6 : Hid (Below W0.heap.size W0 w6) := bel_app B4.out (Nat.le_refl _) O4.out hgrow; clear hown' hgrow)
          go_roundw
          case rel => exact ⟨j + 1, q6, cap6, by omega, by go_num, by rw [HNX.out, hpk.out, List.length_append], by rw [HNX.out, hpk.out, cellsK_append, List.length_append]; exact O6.out, B6.out⟩
          case measure => simp only [intOf]; omega
      · have e6 : (u.f.k == 6) = false := by simpa using k6
        have hpk := hide (show altT u = [u] by unfold altT; simp [k6])
        have hlu2 : out.length + 1 ≤ 1000000 := by have := hlu; rw [hpk.out] at this; exact this
        have K5 : Below W4.heap.size W4 (W4.alloc (.cells #[.int .i64 u.f.k, .int .i64 u.f.n, .int .i64 u.f.mn, .int .i64 u.f.mx, .slice u.f.rq u.f.rs.length u.f.rc, .slice u.f.kq u.f.kl u.f.kc] 28)) := (Below.refl _ _).alloc (Nat.le_refl _) _
        have N5 := hide (six_news (alloc_new W4 (.cells #[.int .i64 u.f.k, .int .i64 u.f.n, .int .i64 u.f.mn, .int .i64 u.f.mx, .slice u.f.rq u.f.rs.length u.f.rc, .slice u.f.kq u.f.kl u.f.kc] 28)))
        have O5 := hide (ownsRow_fr O4.out (Fr.of_below (S := fun _ => False) K5) (fun _ _ z => z))
        have B5 : Hid (Below W0.heap.size W0 (W4.alloc (.cells #[.int .i64 u.f.k, .int .i64 u.f.n, .int .i64 u.f.mn, .int .i64 u.f.mx, .slice u.f.rq u.f.rs.length u.f.rc, .slice u.f.kq u.f.kl u.f.kc] 28))) := chain B4.out K5 (Nat.le_refl _)
        rw [← hkl] at n5
        clear hkl K5
        go_wp2_with (at_builtin; refine wpList_append_own_at _ rfl _ _ 26 rfl W0.heap.size 28 t0 (.agg #[.int .i64 0, .int .i64 0, .int .i64 0, .int .i64 0, .slice none 0 0, .slice none 0 0]) 6 80 und_nodes hi hz0 hz1 hz2 rfl (by decide) (.slice qq out.length cc) out.length (cellsK out) rfl O5.out ⟨W4.heap.size, 0, none⟩ 1 1 u.f.cells rfl rfl N5.out (fun v hv => by simp [Fl.cells] at hv; rcases hv with rfl | rfl | rfl | rfl | rfl | rfl <;> rfl) (by unfold maxLen; omega) (by omega) B5.out.size ?_; intro v' w6 hown' hgrow _ _; obtain ⟨q6, cap6, rfl⟩ := ownsRow_shape hown'; have O6 := hide hown'; have B6 : Hid (Below W0.heap.size W0 w6) := bel_app B5.out (Nat.le_refl _) O5.out hgrow; clear hown' hgrow)
        go_roundw
        case rel => exact ⟨j + 1, q6, cap6, by omega, by go_num, by rw [HNX.out, hpk.out, List.length_append]; rfl, by rw [HNX.out, hpk.out, cellsK_append, List.length_append, show cellsK [u] = u.f.cells by simp [cellsK]]; exact O6.out, B6.out⟩
        case measure => simp only [intOf]; omega
    · have i0 : ¬ (j : Int) < (l.length : Int) := by omega
      have he : (l.take j).flatMap altT = l.flatMap altT := by rw [List.take_of_length_le (by omega)]
      have JN := hide (joined_c 6 2 (row_arg HO.out) (fun u hu => (by
        obtain ⟨x, hx, hux⟩ := List.mem_flatMap.1 hu
        exact ((altT_mem (HT.out x (List.mem_of_mem_take hx)) hux).kept B0.out).kept HB.out)) (Nat.lt_of_le_of_lt (Nat.le_trans (szs_flat altT_sz _) (szs_take l j)) hsz) (fun a e z => (ownsRow_at HO.out (g := a.block) (by rw [e]; rfl)).2.2))
      rw [he] at JN
      have hlen : ((l.take j).flatMap altT).length = (l.flatMap altT).length := by rw [he]
      rw [hlen]
      clear he hlen HO HLE
      generalize l.flatMap altT = out at JN HX ⊢
      go_wp2_with (go_at_call 32; (with_reducible refine (JN.out).mono ?_); rintro e w5 ⟨t5, rfl, h51, h52, h53, h54⟩; have R5 : w5.heap[w.heap.size]? = some (.cells #[.int .i64 0, .int .i64 0, .int .i64 0, .int .i64 0, .slice none 0 0, .slice none 0 0] 28 (0, 0)) := (h54.block _ (Nat.lt_of_lt_of_le LZ HB.out.size)).trans ((HB.out.block _ LZ).trans R0.out); have r0 := cell_row R5 (i := 0) rfl; have r1 := cell_row R5 (i := 1) rfl; have r2 := cell_row R5 (i := 2) rfl; have r3 := cell_row R5 (i := 3) rfl; have r4 := cell_row R5 (i := 4) rfl; have r5 := cell_row R5 (i := 5) rfl; have fz := fun z => frz_row R5 z; have L9 := hide (laid_res h51 (h52.mono (fun k hk => Nat.lt_of_lt_of_le LZ (Nat.le_trans HB.out.size hk))) R5); have X9 := hide L9.out.1; have P9 := hide L9.out.2.2; unfold put6 at X9 P9; have Q5 := hide (⟨h52, h53, chain (chain B0.out HB.out (Nat.le_refl _)) h54 (Nat.le_refl _)⟩ : Foot (fun k => wr.heap.size ≤ k) t5 ∧ er t5 = _ ∧ Below w.heap.size w w5); clear h51 h52 h53 h54)
      refine ret_Alt X9.out rfl rfl ?_
      exact ⟨t5, rfl, L9.out.2.1, Q5.out.1.mono (fun k hk => Nat.le_trans B0.out.size (Nat.le_trans HB.out.size hk)), by rw [Q5.out.2.1, ← HX.out], chainF Q5.out.2.2 P9.out (Nat.le_refl _) (fun k e => by omega)⟩
end Go.Proofs.YtpfdapnfkghgkaaGreatDoor
