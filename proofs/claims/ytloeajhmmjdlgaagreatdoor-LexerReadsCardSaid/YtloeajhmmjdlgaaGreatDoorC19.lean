/-
  Lex. The chapter's examples.
-/
import Derived.Test.YtloeajhmmjdlgaaGreatDoorC18
namespace Go.Proofs.YtloeajhmmjdlgaaGreatDoor
open Go Go.RowKit
attribute [local go_sem] ext_cell

/-- What the two results' variables hold while Lex runs. -/
structure Face (w wr : World) : Prop where
  toks : wr.heap[w.heap.size + 1]? = some (.cells #[.slice none 0 0] 25 (0, 0))
  err : wr.heap[w.heap.size + 1 + 1]? = some (.cells #[.nilIface] 29 (0, 0))
  low : Below w.heap.size w wr
set_option maxRecDepth 100000 in
set_option maxHeartbeats 2000000 in
theorem caught {w wr : World} {tmps : Array Value} {g c a : Nat} (hF : Face w wr) (h4 : tmps[4]? = some (.pointer (some ⟨w.heap.size + 1, 0, none⟩))) (h5 : tmps[5]? = some (.pointer (some ⟨w.heap.size + 1 + 1, 0, none⟩))) (hg : w.heap.size + 1 + 1 < g) (hb : BadAt wr g c a) :
    bodyPostD Tryz.prog Tryz.f6 (LexIs w (.error (c, a))) (Exit.panic [{ v := .iface 45 (.pointer (some ⟨g, 0, none⟩)), recovered := false }])
      { tmps := tmps, defers := [{ target := Target.fn (Fn.func 11) #[.pointer (some ⟨w.heap.size + 1, 0, none⟩), .pointer (some ⟨w.heap.size + 1 + 1, 0, none⟩)], args := #[] }] } wr := by
  refine leaves_cons (f := 11) (args := #[.pointer (some ⟨w.heap.size + 1, 0, none⟩), .pointer (some ⟨w.heap.size + 1 + 1, 0, none⟩)]) (by simp) (by simp [go_sem]) ?_
  refine (catch_panicking (w.heap.size + 1) (w.heap.size + 1 + 1) g [] wr hF.toks hF.err (by omega)).mono ?_
  rintro e u' w'' ⟨rfl, rfl, h1, h2, h3⟩
  have hB : Below w.heap.size w w'' := hF.low.trans (h3.below hF.low.size (fun k hk => by omega))
  have hbad : BadAt w'' g c a := (h3.block g (lt_of_heap hb) (by omega)).trans hb
  have hL : LexIs w (.error (c, a)) (.returned (.tuple #[.slice none 0 0, .iface 45 (.pointer (some ⟨g, 0, none⟩))])) w'' := ⟨hB, g, by omega, rfl, hbad⟩
  generalize LexIs w (.error (c, a)) = R at *
  simp [Leaves, settle, results, Tryz.results6, go_sem, h4, h5, h1, h2]
  exact hL
abbrev face0 (w : World) (m : Md) : World := ((w.alloc (.cells #[.bool m.c, .bool m.f] 23)).alloc (.cells #[.slice none 0 0] 25)).alloc (.cells #[.nilIface] 29)
theorem face_new (w : World) (m : Md) : Face w (face0 w m) := by
  have e1 : (w.alloc (.cells #[.bool m.c, .bool m.f] 23)).heap.size = w.heap.size + 1 := by simp
  have e2 : ((w.alloc (.cells #[.bool m.c, .bool m.f] 23)).alloc (.cells #[.slice none 0 0] 25)).heap.size = w.heap.size + 1 + 1 := by simp
  refine ⟨?_, ?_, ?_⟩
  · have h1 := alloc_new (w.alloc (.cells #[.bool m.c, .bool m.f] 23)) (.cells #[.slice none 0 0] 25)
    rw [e1] at h1
    exact (((Below.refl _ _).alloc (Nat.le_refl _) _).block _ (lt_of_heap h1)).trans h1
  · have h1 := alloc_new ((w.alloc (.cells #[.bool m.c, .bool m.f] 23)).alloc (.cells #[.slice none 0 0] 25)) (.cells #[.nilIface] 29)
    rw [e2] at h1
    exact h1
  · exact (((Below.refl _ _).alloc (Nat.le_refl _) _).alloc (by omega) _).alloc (by omega) _
theorem Face.fr {w wr wr' : World} {S : Nat → Prop} (h : Face w wr) (hf : Fr S wr wr') (h1 : ¬ S (w.heap.size + 1)) (h2 : ¬ S (w.heap.size + 1 + 1)) (h3 : ∀ k, S k → w.heap.size ≤ k) : Face w wr' :=
  ⟨(hf.block _ (lt_of_heap h.toks) h1).trans h.toks, (hf.block _ (lt_of_heap h.err) h2).trans h.err, h.low.trans (hf.below h.low.size h3)⟩
theorem Face.kept {w wr wr' : World} (h : Face w wr) (hb : Below wr.heap.size wr wr') : Face w wr' := h.fr (S := fun _ => False) (Fr.of_below hb) (fun q => q) (fun q => q) (fun _ q => q.elim)
set_option maxRecDepth 100000 in
set_option maxHeartbeats 4000000 in
theorem lex_long {w : World} (s : ByteArray) (m : Md) (hs : 2000 < s.size) :
    Calls Tryz.prog 6 #[.string s, .agg #[.bool m.c, .bool m.f]] w (LexIs w (.error (30, 0))) := by
  have hmf : ∀ (fn : Fn) (first cap : Array Value) (w : World), (Instr.makeFunc fn first cap).run Tryz.prog w = .ok (.func fn first cap) w := fun _ _ _ _ => rfl
  have d0 : (2000 : Int) < (s.size : Int) := by omega
  go_enter_defers Tryz.func6, Tryz.ntmps6
  go_wp2_with (go_at_call 12; refine (wrong_c 30 0 _).mono ?_; rintro e w11 ⟨rfl, h6, h7⟩)
  exact caught ((face_new w m).kept h7) rfl rfl (by omega) (by simpa using h6)

set_option maxRecDepth 100000 in
set_option maxHeartbeats 4000000 in
theorem lex_short {w : World} (hG : Glb w) (s : ByteArray) (m : Md) (hs : s.size ≤ 2000) :
    Calls Tryz.prog 6 #[.string s, .agg #[.bool m.c, .bool m.f]] w (LexIs w (lx m s (s.size + 1) 0 [])) := by
  have hmf : ∀ (fn : Fn) (first cap : Array Value) (w : World), (Instr.makeFunc fn first cap).run Tryz.prog w = .ok (.func fn first cap) w := fun _ _ _ _ => rfl
  have d0 : ¬ (2000 : Int) < (s.size : Int) := by omega
  obtain ⟨RES, hRES⟩ : ∃ RES, lx m s (s.size + 1) 0 [] = RES := ⟨_, rfl⟩
  rw [hRES]
  have GL : Hid (Glb w) := hG
  have FN : Hid (Face w (face0 w m)) := face_new w m
  clear hG
  go_enter_defers Tryz.func6, Tryz.ntmps6
  go_wp2
  go_loopw [7] (fun _ wr => ∃ (T : List Tp) (D : List Dt) (v : Value) (pos f : Nat), RD wr (w.heap.size + 1 + 1 + 1) s m pos v ∧ TL w.heap.size wr v D ∧ D.map Prod.fst = T ∧ (D = [] → v = .slice none 0 0) ∧ Stands s T pos ∧ Face w wr ∧ pos ≤ s.size ∧ s.size < f + pos ∧ lx m s f pos T = RES) (fun _ wr => s.size + 1 - posAt wr (w.heap.size + 1 + 1 + 1))
  case atStart =>
    have hz : (face0 w m).heap.size = w.heap.size + 1 + 1 + 1 := by simp
    have h1 := alloc_new (face0 w m) (.cells #[.string s, .bool m.c, .bool m.f, .int .i64 0, .slice none 0 0] 49)
    rw [hz] at h1
    exact ⟨[], [], .slice none 0 0, 0, s.size + 1, h1, TL.nil _ _, rfl, fun _ => rfl, Stands.nil s, FN.out.kept ((Below.refl _ _).alloc (Nat.le_refl _) _), by omega, by omega, hRES⟩
  case round =>
    obtain ⟨T, D, v, pos, f, g1, g2, g3, g4, g5, g6, g7, g8, g9⟩ := hrel
    obtain ⟨f, rfl⟩ : ∃ f', f = f' + 1 := ⟨f - 1, by omega⟩
    rw [lx] at g9
    have PO : Hid (posAt wr (w.heap.size + 1 + 1 + 1) = pos) := g1.pos
    have LK0 : Hid (LK wr (w.heap.size + 1 + 1 + 1) v (lastK T)) := g2.last g1 g3 g5 (by omega) g4
    have GW : Hid (Glb wr) := GL.out.kept g6.low
    have g2' : 2 < w.heap.size := GL.out.size
    have c3 := g1.c3
    have c4 := g1.c4
    have lbw := lt_of_heap g6.err
    have G : Hid (RD wr (w.heap.size + 1 + 1 + 1) s m pos v ∧ TL w.heap.size wr v D ∧ D.map Prod.fst = T ∧ Stands s T pos ∧ Face w wr ∧ (D = [] → v = .slice none 0 0)) := ⟨g1, g2, g3, g5, g6, g4⟩
    clear g1 g2 g3 g4 g5 g6
    by_cases hlt : pos < s.size
    · rw [if_pos hlt] at g9
      have hrng := tok_rng m s pos (lastK T) hlt
      have hok := tok_ok m s pos (lastK T)
      have j1 : (pos : Int) < (s.size : Int) := by omega
      cases ht : tok m s pos (lastK T) with
      | error x =>
        rw [ht] at g9
        simp only at g9
        subst g9
        obtain ⟨xc, xa⟩ := x
        go_wp2_with (go_at_call 13; have hih := token_c GW.out G.out.1 LK0.out (by omega) hlt hs; rw [ht] at hih; (refine hih.mono ?_); clear hih; rintro e w8 ⟨h1, g, h2, rfl, h4⟩)
        exact caught (G.out.2.2.2.2.1.fr h1 (by intro q; have : w.heap.size + 1 = w.heap.size + 1 + 1 + 1 := q; omega) (by intro q; have : w.heap.size + 1 + 1 = w.heap.size + 1 + 1 + 1 := q; omega) (fun k hk => by have : k = w.heap.size + 1 + 1 + 1 := hk; omega)) rfl rfl (by omega) h4
      | ok x =>
        obtain ⟨t, q⟩ := x
        rw [ht] at g9 hrng hok
        simp only at g9
        have hq1 : q ≤ s.size := hrng.2
        have hq2 : pos < q := hrng.1
        clear hrng
        go_wp2_with (go_at_call 13; have hih := token_c GW.out G.out.1 LK0.out (by omega) hlt hs; rw [ht] at hih; (refine hih.mono ?_); clear hih; rintro e w8 ⟨h1, v8, rfl, h2, rv, C, hv, h5, h6⟩; obtain ⟨q8, k8, hsh⟩ := h5.shape; subst hsh; unfold tkV at hv; subst hv; have X8 : Hid (RD w8 (w.heap.size + 1 + 1 + 1) s m q v ∧ Fr (At (w.heap.size + 1 + 1 + 1)) wr w8 ∧ RR wr.heap.size w8 (.slice q8 C.length k8) C ∧ IsC C t.q) := ⟨h2, h1, h5, h6⟩; have k3 := h2.c3; have k4 := h2.c4; have kf := h2.frz 4; have lb8 := h2.lt; clear h1 h2 h5 h6)
        go_region
        have hB9 : Below w8.heap.size w8 (w8.alloc (.cells #[.int .i64 (t.kind : Int), .int .i64 (pos : Int), .int .i64 (q : Int), .int .i64 (t.n : Int), .int .i64 t.mn, .int .i64 t.mx, .slice q8 C.length k8] 37)).drew := ((Below.refl _ _).alloc (Nat.le_refl _) _).drew
        have TK : (w8.alloc (.cells #[.int .i64 (t.kind : Int), .int .i64 (pos : Int), .int .i64 (q : Int), .int .i64 (t.n : Int), .int .i64 t.mn, .int .i64 t.mx, .slice q8 C.length k8] 37)).drew.heap[w8.heap.size]? = some (.cells #[.int .i64 (t.kind : Int), .int .i64 (pos : Int), .int .i64 (q : Int), .int .i64 (t.n : Int), .int .i64 t.mn, .int .i64 t.mx, .slice q8 C.length k8] 37) := alloc_new _ _
        generalize (w8.alloc (.cells #[.int .i64 (t.kind : Int), .int .i64 (pos : Int), .int .i64 (q : Int), .int .i64 (t.n : Int), .int .i64 t.mn, .int .i64 t.mx, .slice q8 C.length k8] 37)).drew = V9 at *
        have t0 := cell_row TK (i := 0) rfl
        have t1 := cell_row TK (i := 1) rfl
        have t2 := cell_row TK (i := 2) rfl
        have t3 := cell_row TK (i := 3) rfl
        have t4 := cell_row TK (i := 4) rfl
        have t5 := cell_row TK (i := 5) rfl
        have t6 := cell_row TK (i := 6) rfl
        obtain ⟨d, hd⟩ : ∃ d : Dt, d = ((t, pos, q), .slice q8 C.length k8, C) := ⟨_, rfl⟩
        have htc : tc d = [.int .i64 (t.kind : Int), .int .i64 (pos : Int), .int .i64 (q : Int), .int .i64 (t.n : Int), .int .i64 t.mn, .int .i64 t.mx, .slice q8 C.length k8] := by rw [hd]; rfl
        have X9 : Hid (RD V9 (w.heap.size + 1 + 1 + 1) s m q v ∧ TL w.heap.size V9 v D ∧ RR wr.heap.size V9 (.slice q8 C.length k8) C ∧ Face w V9 ∧ d = ((t, pos, q), .slice q8 C.length k8, C) ∧ tc d = [.int .i64 (t.kind : Int), .int .i64 (pos : Int), .int .i64 (q : Int), .int .i64 (t.n : Int), .int .i64 t.mn, .int .i64 t.mx, .slice q8 C.length k8]) := ⟨X8.out.1.kept hB9, (G.out.2.1.at G.out.1 X8.out.2.1).kept hB9, X8.out.2.2.1.kept hB9, (G.out.2.2.2.2.1.fr X8.out.2.1 (by intro q; have : w.heap.size + 1 = w.heap.size + 1 + 1 + 1 := q; omega) (by intro q; have : w.heap.size + 1 + 1 = w.heap.size + 1 + 1 + 1 := q; omega) (fun k hk => by have : k = w.heap.size + 1 + 1 + 1 := hk; omega)).kept hB9, hd, htc⟩
        have hDl : D.length ≤ 2000 := by
          have h1 := G.out.2.2.2.1.few
          have h2 := G.out.2.2.1
          rw [← h2, List.length_map] at h1
          omega
        obtain ⟨qv, kv, rfl⟩ := ownsRow_shape X9.out.2.1.own
        have l4 := X9.out.1.c4
        have lf := X9.out.1.frz 4
        have ll := X9.out.1.lt
        have hbase : w.heap.size ≤ V9.heap.size := by omega
        have E9 : Hid (lx m s f q (T ++ [(t, pos, q)]) = RES) := g9
        clear k3 k4 kf lb8 TK hd htc g9 c4 hB9
        obtain ⟨i0, ti, hz0, hz1, hz2⟩ := info_parts size_tok
        have OW : Hid ((V9.alloc (.cells #[.int .i64 (t.kind : Int), .int .i64 (pos : Int), .int .i64 (q : Int), .int .i64 (t.n : Int), .int .i64 t.mn, .int .i64 t.mx, .slice q8 C.length k8] 37)).ownsRow w.heap.size 37 7 (.slice qv D.length kv) D.length (tcs D)) := World.ownsRow.alloc X9.out.2.1.own (.cells #[.int .i64 (t.kind : Int), .int .i64 (pos : Int), .int .i64 (q : Int), .int .i64 (t.n : Int), .int .i64 t.mn, .int .i64 t.mx, .slice q8 C.length k8] 37)
        have NW : Hid (∀ j u, [.int .i64 (t.kind : Int), .int .i64 (pos : Int), .int .i64 (q : Int), .int .i64 (t.n : Int), .int .i64 t.mn, .int .i64 t.mx, .slice q8 C.length k8][j]? = some u → (V9.alloc (.cells #[.int .i64 (t.kind : Int), .int .i64 (pos : Int), .int .i64 (q : Int), .int .i64 (t.n : Int), .int .i64 t.mn, .int .i64 t.mx, .slice q8 C.length k8] 37)).cell? ((⟨V9.heap.size, 0, none⟩ : Addr).add j) = some u) := news_lit V9 #[.int .i64 (t.kind : Int), .int .i64 (pos : Int), .int .i64 (q : Int), .int .i64 (t.n : Int), .int .i64 t.mn, .int .i64 t.mx, .slice q8 C.length k8] 37
        have O1 : ∀ u ∈ ([.int .i64 (t.kind : Int), .int .i64 (pos : Int), .int .i64 (q : Int), .int .i64 (t.n : Int), .int .i64 t.mn, .int .i64 t.mx, .slice q8 C.length k8] : List Value), u.oneCell' = true := by simp [Value.oneCell']
        have hz9 : w.heap.size ≤ (V9.alloc (.cells #[.int .i64 (t.kind : Int), .int .i64 (pos : Int), .int .i64 (q : Int), .int .i64 (t.n : Int), .int .i64 t.mn, .int .i64 t.mx, .slice q8 C.length k8] 37)).heap.size := by simp; omega
        have AP : Hid (∀ (g c : Nat) (w10 : World), w10.ownsRow w.heap.size 37 7 (.slice (some ⟨g, 0, none⟩) (D.length + 1) c) (D.length + 1) (tcs D ++ [.int .i64 (t.kind : Int), .int .i64 (pos : Int), .int .i64 (q : Int), .int .i64 (t.n : Int), .int .i64 t.mn, .int .i64 t.mx, .slice q8 C.length k8]) → (V9.alloc (.cells #[.int .i64 (t.kind : Int), .int .i64 (pos : Int), .int .i64 (q : Int), .int .i64 (t.n : Int), .int .i64 t.mn, .int .i64 t.mx, .slice q8 C.length k8] 37)).grownBy w10 (Value.slice qv D.length kv).ownBlock →
            RD w10 (w.heap.size + 1 + 1 + 1) s m q (.slice qv D.length kv) ∧ TL w.heap.size w10 (.slice (some ⟨g, 0, none⟩) (D.length + 1) c) (D ++ [d]) ∧ Fr (fun k => (Value.slice qv D.length kv).ownBlock = some k) (V9.alloc (.cells #[.int .i64 (t.kind : Int), .int .i64 (pos : Int), .int .i64 (q : Int), .int .i64 (t.n : Int), .int .i64 t.mn, .int .i64 t.mx, .slice q8 C.length k8] 37)) w10) := fun g c w10 h1 h2 => by
          have e5 := X9.out.2.2.2.2.1
          have e6 := X9.out.2.2.2.2.2
          refine app_tok (d := d) X9.out.1 X9.out.2.1 ((Below.refl _ _).alloc (Nat.le_refl _) _) (by rw [e5]; exact X9.out.2.2.1.mono (by omega)) (by rw [e5]; exact X8.out.2.2.2) (fun a ha k hk hk2 => ?_) (by rw [e6]; exact h1) h2
          rw [e5] at hk2
          have h3 := (ownsRow_at X9.out.2.2.1 hk2).1
          have h4 := (G.out.2.1.lt ha hk).2
          omega
        go_wp2_with (at_builtin; refine wpList_append_own_at _ rfl _ _ 25 rfl w.heap.size 37 i0 (.agg #[.int .i64 0, .int .i64 0, .int .i64 0, .int .i64 0, .int .i64 0, .int .i64 0, .slice none 0 0]) 7 72 und_toks ti hz0 hz1 hz2 rfl (by decide) (.slice qv D.length kv) D.length (tcs D) rfl OW.out ⟨V9.heap.size, 0, none⟩ 1 1 [.int .i64 (t.kind : Int), .int .i64 (pos : Int), .int .i64 (q : Int), .int .i64 (t.n : Int), .int .i64 t.mn, .int .i64 t.mx, .slice q8 C.length k8] rfl rfl NW.out O1 (by unfold maxLen; omega) (by omega) hz9 ?_; intro v' w10 hown' hgrow _ hblk; obtain ⟨g10, c10, rfl⟩ := ownsRow_some hown' (Nat.succ_pos _); have X10 : Hid (RD w10 (w.heap.size + 1 + 1 + 1) s m q (.slice qv D.length kv) ∧ TL w.heap.size w10 (.slice (some ⟨g10, 0, none⟩) (D.length + 1) c10) (D ++ [d]) ∧ Fr (fun k => (Value.slice qv D.length kv).ownBlock = some k) (V9.alloc (.cells #[.int .i64 (t.kind : Int), .int .i64 (pos : Int), .int .i64 (q : Int), .int .i64 (t.n : Int), .int .i64 t.mn, .int .i64 t.mx, .slice q8 C.length k8] 37)) w10) := AP.out g10 c10 w10 hown' hgrow; have m4 := X10.out.1.c4; have mf := X10.out.1.frz 4; clear hown' hgrow hblk)
        have R11 : RD (w10.setCell ⟨w.heap.size + 1 + 1 + 1, 4, none⟩ (.slice (some ⟨g10, 0, none⟩) (D.length + 1) c10)) (w.heap.size + 1 + 1 + 1) s m q (.slice (some ⟨g10, 0, none⟩) (D.length + 1) c10) := heap_set_in X10.out.1 4 _
        have F11 : Fr (At (w.heap.size + 1 + 1 + 1)) w10 (w10.setCell ⟨w.heap.size + 1 + 1 + 1, 4, none⟩ (.slice (some ⟨g10, 0, none⟩) (D.length + 1) c10)) := Fr.setCell (S := At (w.heap.size + 1 + 1 + 1)) (Fr.refl _ _) (p := ⟨w.heap.size + 1 + 1 + 1, 4, none⟩) rfl _
        have FA := X9.out.2.2.2.1.kept ((Below.refl _ _).alloc (Nat.le_refl _) (.cells #[.int .i64 (t.kind : Int), .int .i64 (pos : Int), .int .i64 (q : Int), .int .i64 (t.n : Int), .int .i64 t.mn, .int .i64 t.mx, .slice q8 C.length k8] 37))
        have FB := FA.fr X10.out.2.2 (ownsRow_not OW.out FA.toks (by decide)) (ownsRow_not OW.out FA.err (by decide)) (fun k hk => (ownsRow_at OW.out hk).1)
        have FC := FB.fr F11 (by intro q; have : w.heap.size + 1 = w.heap.size + 1 + 1 + 1 := q; omega) (by intro q; have : w.heap.size + 1 + 1 = w.heap.size + 1 + 1 + 1 := q; omega) (fun k hk => by have : k = w.heap.size + 1 + 1 + 1 := hk; omega)
        have TC := X10.out.2.1.at X10.out.1 F11
        go_roundw
        case rel => exact ⟨T ++ [(t, pos, q)], D ++ [d], _, q, f, R11, TC, by rw [List.map_append, G.out.2.2.1, List.map_singleton, X9.out.2.2.2.2.1], fun h => by simp at h, G.out.2.2.2.1.add hq2 hq1 hok, FC, hq1, by omega, E9.out⟩
        case measure => rw [R11.pos, PO.out]; omega
    · rw [if_neg hlt] at g9
      subst g9
      have j1 : ¬ (pos : Int) < (s.size : Int) := by omega
      have x1 := cell_row G.out.2.2.2.2.1.toks (i := 0) rfl
      have x2 := cell_row G.out.2.2.2.2.1.err (i := 0) rfl
      have x3 := frz_row G.out.2.2.2.2.1.toks 0
      have x4 := frz_row G.out.2.2.2.2.1.err 0
      obtain ⟨qv, kv, rfl⟩ := ownsRow_shape G.out.2.1.own
      go_wp2
      have F1 : Fr (At (w.heap.size + 1)) wr (wr.setCell ⟨w.heap.size + 1, 0, none⟩ (.slice qv D.length kv)) := Fr.setCell (S := At (w.heap.size + 1)) (Fr.refl _ _) (p := ⟨w.heap.size + 1, 0, none⟩) rfl _
      have F2 : Fr (At (w.heap.size + 1 + 1)) (wr.setCell ⟨w.heap.size + 1, 0, none⟩ (.slice qv D.length kv)) ((wr.setCell ⟨w.heap.size + 1, 0, none⟩ (.slice qv D.length kv)).setCell ⟨w.heap.size + 1 + 1, 0, none⟩ .nilIface) := Fr.setCell (S := At (w.heap.size + 1 + 1)) (Fr.refl _ _) (p := ⟨w.heap.size + 1 + 1, 0, none⟩) rfl _
      have y1 := heap_set_in G.out.2.2.2.2.1.toks 0 (.slice qv D.length kv)
      have y2 := (F2.block _ (lt_of_heap y1) (by intro q; have : w.heap.size + 1 = w.heap.size + 1 + 1 := q; omega)).trans y1
      have y3 := (F1.block _ (lt_of_heap G.out.2.2.2.2.1.err) (by intro q; have : w.heap.size + 1 + 1 = w.heap.size + 1 := q; omega)).trans G.out.2.2.2.2.1.err
      have y4 := heap_set_in y3 0 .nilIface
      have z1 := cell_row y2 (i := 0) rfl
      have z2 := cell_row y4 (i := 0) rfl
      have T1 := G.out.2.1.fr F1 (fun k hk e => ownsRow_not G.out.2.1.own G.out.2.2.2.2.1.toks (by decide) (by rw [hk, show k = _ from e])) (fun d hd k hk e => ownsRow_not (G.out.2.1.each d hd).1 G.out.2.2.2.2.1.toks (by decide) (by rw [hk, show k = _ from e]))
      have T2 := T1.fr F2 (fun k hk e => ownsRow_not T1.own y3 (by decide) (by rw [hk, show k = _ from e])) (fun d hd k hk e => ownsRow_not (T1.each d hd).1 y3 (by decide) (by rw [hk, show k = _ from e]))
      have B2 : Below w.heap.size w ((wr.setCell ⟨w.heap.size + 1, 0, none⟩ (.slice qv D.length kv)).setCell ⟨w.heap.size + 1 + 1, 0, none⟩ .nilIface) := (G.out.2.2.2.2.1.low.trans (F1.below G.out.2.2.2.2.1.low.size (fun k hk => by have : k = w.heap.size + 1 := hk; omega))).trans (F2.below (Nat.le_trans G.out.2.2.2.2.1.low.size F1.size) (fun k hk => by have : k = w.heap.size + 1 + 1 := hk; omega))
      have hL : LexIs w (.ok T) (.returned (.tuple #[.slice qv D.length kv, .nilIface])) ((wr.setCell ⟨w.heap.size + 1, 0, none⟩ (.slice qv D.length kv)).setCell ⟨w.heap.size + 1 + 1, 0, none⟩ .nilIface) := ⟨B2, _, D, rfl, T2, G.out.2.2.1⟩
      refine leaves_cons (f := 11) (args := #[.pointer (some ⟨w.heap.size + 1, 0, none⟩), .pointer (some ⟨w.heap.size + 1 + 1, 0, none⟩)]) (by simp) (by simp [go_sem]) ?_
      refine (catch_idle ⟨w.heap.size + 1, 0, none⟩ ⟨w.heap.size + 1 + 1, 0, none⟩ _).mono ?_
      rintro e u' w'' ⟨rfl, rfl, rfl⟩
      clear F1 F2 y1 y2 y3 y4 T1 T2 B2
      generalize (wr.setCell ⟨w.heap.size + 1, 0, none⟩ (.slice qv D.length kv)).setCell ⟨w.heap.size + 1 + 1, 0, none⟩ .nilIface = W at *
      generalize LexIs w (.ok T) = R at *
      simp [Leaves, settle, results, Tryz.results6, go_sem, z1, z2]
      exact hL
theorem lex_c {w : World} (hG : Glb w) (s : ByteArray) (m : Md) :
    Calls Tryz.prog 6 #[.string s, .agg #[.bool m.c, .bool m.f]] w (LexIs w (lexM m s)) := by
  unfold lexM
  split
  · rename_i h; exact lex_long s m h
  · exact lex_short hG s m (by omega)
end Go.Proofs.YtloeajhmmjdlgaaGreatDoor
namespace Go.Proofs.YtloeajhmmjdlgaaGreatDoor
open Go Go.RowKit
attribute [local go_sem] ext_cell

abbrev m00 : Md := ⟨false, false⟩
theorem ex_star : lexM m00 ⟨#[97, 42]⟩ = .ok [(setT m00 [(97, 97)] false, 0, 1), (repT 0 (-1), 1, 2)] := by kernel_rfl
theorem ex_brace : lexM m00 ⟨#[97, 92, 123, 50]⟩ = .error (36, 1) := by kernel_rfl
theorem ex_range : lexM m00 ⟨#[91, 122, 45, 97, 93]⟩ = .error (34, 1) := by kernel_rfl
theorem ex_trail : lexM m00 ⟨#[97, 92]⟩ = .error (31, 1) := by kernel_rfl
theorem ex_rep : lexM m00 ⟨#[92, 123, 50, 92, 125]⟩ = .error (38, 0) := by kernel_rfl
theorem told_nil (w : World) : Calls Tryz.prog 7 #[.nilIface] w fun e w' => e = .returned (.tuple #[.int .i64 0, .int .i64 0, .bool true]) ∧ Below w.heap.size w w' := by
  go_enter Tryz.func7, Tryz.ntmps7
  go_wp2
  refine bodyPost_ret (results_tmp3 rfl _ _ _) rfl ?_
  exact ⟨rfl, Below.refl _ _⟩
theorem told_bad {w : World} {g c a : Nat} (h : BadAt w g c a) : Calls Tryz.prog 7 #[.iface 45 (.pointer (some ⟨g, 0, none⟩))] w fun e w' => e = .returned (.tuple #[.int .i64 (c : Int), .int .i64 (a : Int), .bool true]) ∧ Below w.heap.size w w' := by
  have hta : ∀ W, (Instr.typeAssert (.iface 45 (.pointer (some ⟨g, 0, none⟩))) 29 45 true).run Tryz.prog W = .ok (.tuple #[.pointer (some ⟨g, 0, none⟩), .bool true]) W := fun W => run_bad_assert2 W _ _ _ _ und_bad
  have c0 : w.cell? ⟨g, 0, none⟩ = some (.int .i64 (c : Int)) := cell_row h (i := 0) rfl
  have c1 : w.cell? ⟨g, 1, none⟩ = some (.int .i64 (a : Int)) := cell_row h (i := 1) rfl
  have lg := lt_of_heap h
  clear h
  go_enter Tryz.func7, Tryz.ntmps7
  go_wp2
  refine wp_region_ext (by kernel_rfl) (by kernel_rfl) ?_
  repeat (go_big_quiet_step (first | exact rfl))
  refine wpQuiet_nil ?_
  intro w5 hw5
  have B5 : Hid (Below w.heap.size w w5) := ext_of hw5
  clear hw5
  go_wp2
  refine bodyPost_ret (results_tmp3 rfl _ _ _) rfl ?_
  exact ⟨rfl, B5.out⟩
set_option maxRecDepth 100000 in
set_option maxHeartbeats 2000000 in
theorem wrong_is {w : World} (hG : Glb w) (s : ByteArray) (c a : Nat) (h : lexM m00 s = .error (c, a)) : Calls Tryz.prog 9 #[.string s, .int .i64 (c : Int), .int .i64 (a : Int)] w fun e w' => e = .returned (.bool true) ∧ Below w.heap.size w w' := by
  have hl := lex_c hG s m00
  rw [h] at hl
  clear hG
  go_enter Tryz.func9, Tryz.ntmps9
  go_wp2_with first
    | (go_at_call 6; refine hl.mono ?_; rintro e w5 ⟨h1, g, h2, rfl, h4⟩; have X5 : Hid (Below w.heap.size w w5 ∧ BadAt w5 g c a) := ⟨h1, h4⟩; clear h1 h2 h4)
    | (go_at_call 7; (with_reducible refine (told_bad X5.out.2).mono ?_); rintro e w6 ⟨rfl, h1⟩; have X6 : Hid (Below w.heap.size w w6) := chain X5.out.1 h1 (Nat.le_refl _); clear h1)
  go_ret
  refine ⟨?_, X6.out⟩
  simp
theorem one_class {C : List (Int × Int)} {c : Int} (h : IsC C (setQ m00 [(c, c)] false)) (h0 : 0 ≤ c) (h1 : c ≤ 255) : C = [(c, c)] := by
  refine cls_unique _ _ h.cls ⟨by simp, by simp⟩ fun x => (h.mem x).trans ?_
  simp only [setQ, Bool.false_eq_true, if_false, in_one, isChar]
  constructor
  · rintro ⟨-, h⟩; exact h
  · intro h; exact ⟨⟨by omega, (by show x ≤ 255; omega), fun q => by cases q⟩, h⟩
theorem two_of {D : List Dt} {x y : Tp} (h : D.map Prod.fst = [x, y]) : ∃ a b, D = [a, b] := by
  have hl : D.length = 2 := by have := congrArg List.length h; simpa using this
  match D, hl with
  | [a, b], _ => exact ⟨a, b, rfl⟩
/-- What is seen of the tokens of the first example. -/
theorem star_of {base : Nat} {w : World} {v : Value} {D : List Dt} (h : TL base w v D) (hD : D.map Prod.fst = [(setT m00 [(97, 97)] false, 0, 1), (repT 0 (-1), 1, 2)]) :
    ∃ q k, ∃ (d0 d1 : Nat), v = .slice (some ⟨q, 0, none⟩) 2 k ∧ w.cell? ⟨q, 0, none⟩ = some (.int .i64 1) ∧ w.cell? ⟨q, 7, none⟩ = some (.int .i64 2) ∧ w.cell? ⟨q, 8, none⟩ = some (.int .i64 1) ∧ w.cell? ⟨q, 9, none⟩ = some (.int .i64 2) ∧ w.cell? ⟨q, 12, none⟩ = some (.int .i64 (-1)) ∧ w.cell? ⟨q, 6, none⟩ = some (.slice (some ⟨d0, 0, none⟩) 1 d1) ∧ w.cell? ⟨d0, 0, none⟩ = some (.int .i64 97) ∧ True := by
  obtain ⟨a, b, rfl⟩ := two_of hD
  · have h1 : a.1 = (setT m00 [(97, 97)] false, 0, 1) := (List.cons.inj hD).1
    have h2 : b.1 = (repT 0 (-1), 1, 2) := (List.cons.inj (List.cons.inj hD).2).1
    clear hD
    obtain ⟨g, c, rfl⟩ := ownsRow_some h.own (by simp)
    obtain ⟨hr, hc⟩ := h.each a (by simp)
    rw [h1] at hc
    have e := one_class (c := 97) hc (by omega) (by omega)
    rw [e] at hr
    obtain ⟨g2, c2, hv⟩ := ownsRow_some hr (by simp)
    have cell : ∀ (i : Nat) (d : Dt) (j : Nat) (u : Value), [a, b][i]? = some d → j < 7 → (tc d)[j]? = some u → w.cell? ⟨g, i * 7 + j, none⟩ = some u := fun i d j u hi hj hu => ownsRow_cell h.own ((tcs_get _ i d j hi hj).trans hu)
    refine ⟨g, c, g2, c2, rfl, cell 0 a 0 _ rfl (by omega) (by simp [tc, h1, setT]), cell 1 b 0 _ rfl (by omega) (by simp [tc, h2, repT]), cell 1 b 1 _ rfl (by omega) (by simp [tc, h2]), cell 1 b 2 _ rfl (by omega) (by simp [tc, h2]), cell 1 b 5 _ rfl (by omega) (by simp [tc, h2, repT]), cell 0 a 6 _ rfl (by omega) (by simp [tc, hv]), ?_, trivial⟩
    rw [hv] at hr
    exact ownsRow_cell hr (j := 0) rfl
set_option maxRecDepth 100000 in
set_option maxHeartbeats 4000000 in
theorem examples_c {w : World} (hG : Glb w) : Calls Tryz.prog 4 #[] w fun e w' => e = .returned (.bool true) ∧ Below w.heap.size w w' := by
  have hl := lex_c hG ⟨#[97, 42]⟩ m00
  rw [ex_star] at hl
  have GL : Hid (Glb w) := hG
  have V36 : Hid (∀ W, Below w.heap.size w W → Calls Tryz.prog 9 #[.string ⟨#[97, 92, 123, 50]⟩, .int .i64 36, .int .i64 1] W fun e w' => e = .returned (.bool true) ∧ Below W.heap.size W w') := fun W hW => wrong_is (GL.out.kept hW) ⟨#[97, 92, 123, 50]⟩ 36 1 ex_brace
  have V34 : Hid (∀ W, Below w.heap.size w W → Calls Tryz.prog 9 #[.string ⟨#[91, 122, 45, 97, 93]⟩, .int .i64 34, .int .i64 1] W fun e w' => e = .returned (.bool true) ∧ Below W.heap.size W w') := fun W hW => wrong_is (GL.out.kept hW) ⟨#[91, 122, 45, 97, 93]⟩ 34 1 ex_range
  have V31 : Hid (∀ W, Below w.heap.size w W → Calls Tryz.prog 9 #[.string ⟨#[97, 92]⟩, .int .i64 31, .int .i64 1] W fun e w' => e = .returned (.bool true) ∧ Below W.heap.size W w') := fun W hW => wrong_is (GL.out.kept hW) ⟨#[97, 92]⟩ 31 1 ex_trail
  have V38 : Hid (∀ W, Below w.heap.size w W → Calls Tryz.prog 9 #[.string ⟨#[92, 123, 50, 92, 125]⟩, .int .i64 38, .int .i64 0] W fun e w' => e = .returned (.bool true) ∧ Below W.heap.size W w') := fun W hW => wrong_is (GL.out.kept hW) ⟨#[92, 123, 50, 92, 125]⟩ 38 0 ex_rep
  clear hG
  go_enter Tryz.func4, Tryz.ntmps4
  go_wp2_with first
    | (go_at_call 6; refine hl.mono ?_; rintro e w5 ⟨h1, v, D, rfl, h2, h3⟩; obtain ⟨q, k, d0, d1, rfl, f0, f1, f2, f3, f4, f5, f6, h4⟩ := star_of h2 h3; have X5 : Hid (Below w.heap.size w w5) := h1; clear h1 h2 h3)
    | (go_at_call 9; (with_reducible refine (V36.out _ X5.out).mono ?_); rintro e w6 ⟨rfl, h1⟩; have X6 : Hid (Below w.heap.size w w6) := chain X5.out h1 (Nat.le_refl _); clear h1)
    | (go_at_call 9; (with_reducible refine (V34.out _ X6.out).mono ?_); rintro e w7 ⟨rfl, h1⟩; have X7 : Hid (Below w.heap.size w w7) := chain X6.out h1 (Nat.le_refl _); clear h1)
    | (go_at_call 9; (with_reducible refine (V31.out _ X7.out).mono ?_); rintro e w8 ⟨rfl, h1⟩; have X8 : Hid (Below w.heap.size w w8) := chain X7.out h1 (Nat.le_refl _); clear h1)
    | (go_at_call 9; (with_reducible refine (V38.out _ X8.out).mono ?_); rintro e w9 ⟨rfl, h1⟩; have X9 : Hid (Below w.heap.size w w9) := chain X8.out h1 (Nat.le_refl _); clear h1)
  go_ret
  exact ⟨rfl, X9.out⟩
end Go.Proofs.YtloeajhmmjdlgaaGreatDoor
