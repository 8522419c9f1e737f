/-
  Parts of the proof.
-/
import Derived.Test.YtbfhahhcacnckaaGreatDoorSamesProofB33
set_option linter.unusedSimpArgs false
namespace Go.Proofs.YtbfhahhcacnckaaGreatDoor
open Go Go.RowKit
attribute [local go_sem] Oper.semAt_some
theorem fr_newG {w w2 w3 : World} {b g : Nat} (h : Fr (At1 b) w w2) (k : Fr (At1 g) w2 w3) (hg : w.heap.size ≤ g) : Fr (At1 b) w w3 :=
  ⟨k.os.trans h.os, k.tape.trans h.tape, k.output.trans h.output, Nat.le_trans h.size k.size, fun i hi hs => (k.block i (Nat.lt_of_lt_of_le hi h.size) (by show ¬ (i = g); omega)).trans (h.block i hi hs)⟩
theorem size_inst : (Tryz.prog.info? 35).map (fun i => (i.zero, i.size, i.bytes)) = some (some (.agg #[.int .i64 0, .int .i64 0, .int .i64 0, .int .i64 0, .int .i64 0, .int .i64 0, .int .u64 0, .int .u64 0, .int .u64 0, .int .u64 0]), 10, 80) := by kernel_rfl
def zP : Obj := .cells #[.slice none 0 0, .int .i64 0, .int .i64 0, .bool false] 24
structure PI4 (w wr : World) (b g3 k : Nat) (a : Int) (pv bv : Value) (M : List Value) : Prop where
  rb : RB wr b (tsL k) a bv
  a0 : 0 ≤ a
  a1 : a ≤ 1000 * (k + 1)
  x2 : wr.heap[w.heap.size]? = some zP
  x3 : wr.heap[g3]? = some (.cells #[pv, .int .i64 0, .int .i64 0, .bool false] 24 (0, 0))
  hp : wr.ownsRow w.heap.size 35 10 pv k (ceI14 (smL.take k))
  hb : wr.ownsRow w.heap.size 3 1 bv k M
  fr : Fr (At1 b) w wr
def PrP (w : World) (b : Nat) (e : Ending) (w' : World) : Prop := ∃ q c, e = .returned (.agg #[.slice q 4 c, .int .i64 0, .int .i64 0, .bool false]) ∧ w'.ownsRow w.heap.size 35 10 (.slice q 4 c) 4 (ceI14 smL) ∧ Fr (At1 b) w w'
theorem tx0_cut : cutL 10 tx0 = ([112, 114, 111, 103, 114, 97, 109, 32, 48, 32, 48], tsL 0, true) := by kernel_rfl
theorem fr_grow {w W W' : World} {b : Nat} {row : Option Nat} (h : Fr (At1 b) w W) (hg : W.grownBy W' row) (hr : ∀ k, row = some k → w.heap.size ≤ k) : Fr (At1 b) w W' :=
  ⟨hg.os.trans h.os, hg.tape.trans h.tape, hg.output.trans h.output, Nat.le_trans h.size hg.size, fun i hi hs => (hg.block i (Nat.lt_of_lt_of_le hi h.size) (fun e => by have := hr i e.symm; omega)).trans (h.block i hi hs)⟩
theorem newsI (W : World) (cs : List Value) (t : TypeId) : ∀ (j : Nat) (u : Value), cs[j]? = some u → (W.alloc (.cells cs.toArray t)).cell? ((⟨W.heap.size, 0, none⟩ : Addr).add j) = some u := fun j u hj => by
  have e2 : (⟨W.heap.size, 0, none⟩ : Addr).add j = ⟨W.heap.size, j, none⟩ := by
    unfold Addr.add
    split
    · next hz => simp_all
    · simp
  rw [e2]
  exact cell_row (alloc_new W _) (by simpa using hj)
def stZ : Option Value → Nat
  | some (.string s) => s.size
  | _ => 0
def mzR (b : Nat) (wr : World) : Nat := stZ (wr.cell? ⟨b, 0, none⟩)
theorem mzR_rb {w : World} {b : Nat} {r : List UInt8} {a : Int} {v : Value} (h : RB w b r a v) : mzR b w = r.length := by
  unfold mzR
  rw [cell_row h (i := 0) rfl]
  exact txt_size r
theorem tsL_less : ∀ k, k < 4 → (tsL (k + 1)).length < (tsL k).length := by decide +kernel
theorem tsL_emp : ∀ k, k < 4 → (txt (tsL k)).toList.isEmpty = false := by decide +kernel
theorem tsL_nil : tsL 4 = [] := rfl
set_option maxRecDepth 100000 in
set_option maxHeartbeats 4000000 in
theorem rprogram_c {w : World} {b : Nat} (hT : z1_Tab w) (h : RB w b tx0 0 (.slice none 0 0)) (h2 : 2 < b) : Calls Tryz.prog 38 #[.pointer (some ⟨b, 0, none⟩)] w (PrP w b) := by
  have lb := lt_of_heap h
  have B1 : Hid (Below w.heap.size w (w.alloc (.cells #[.slice none 0 0, .int .i64 0, .int .i64 0, .bool false] 24))) := (Below.refl _ _).alloc (Nat.le_refl _) _
  have X1 : Hid ((w.alloc (.cells #[.slice none 0 0, .int .i64 0, .int .i64 0, .bool false] 24)).heap[w.heap.size]? = some (.cells #[.slice none 0 0, .int .i64 0, .int .i64 0, .bool false] 24 (0, 0))) := alloc_new w _
  have HL := hide (rline_c (h.kept B1.out) tx0_cut (by decide) (by decide) (by decide) (by decide))
  have HT := hide hT
  have H2 := hide h2
  clear hT h
  go_enter Tryz.func38, Tryz.ntmps38
  go_upto_region 1 with fail
  generalize (w.alloc (.cells #[.slice none 0 0, .int .i64 0, .int .i64 0, .bool false] 24)) = w1 at B1 X1 HL ⊢
  have l1 := lt_of_heap X1.out
  go_upto_region 2 with first
    | (go_at_call 53; (with_reducible refine (HL.out).mono ?_); rintro e w2 ⟨g, rfl, hg, h21, h22, h23⟩; have R2 := hide h22; have G2 := hide hg; have X2 := hide ((h23.block _ l1 (by show ¬ (w.heap.size = b); omega)).trans X1.out); have FF := hide ((Fr.of_below (S := At1 b) B1.out).trans h23); have HH := hide (lhead_0 h21); clear h21 h22 h23 hg)
    | (go_at_call 54; (with_reducible refine (HH.out).mono ?_); rintro e w3 ⟨rfl, h3⟩; have F3 := hide (fr_newG FF.out h3 (by have := G2.out; omega)); have X3 := hide ((h3.block _ (lt_of_heap X2.out) (by show ¬ (w.heap.size = g); have := G2.out; omega)).trans X2.out); have R3 := hide ((h3.block _ (lt_of_heap R2.out) (by show ¬ (b = g); have := G2.out; omega)).trans R2.out); clear h3)
  have BA : Below w3.heap.size w3 (w3.alloc (.cells #[.slice none 0 0, .int .i64 0, .int .i64 0, .bool false] 24)) := (Below.refl _ _).alloc (Nat.le_refl _) _
  have P0 : Hid (PI4 w (w3.alloc (.cells #[.slice none 0 0, .int .i64 0, .int .i64 0, .bool false] 24)) b w3.heap.size 0 12 (.slice none 0 0) (.slice none 0 0) []) := ⟨RB.kept R3.out BA, by decide, by decide, (BA.block _ (lt_of_heap X3.out)).trans X3.out, alloc_new w3 _, World.ownsRow_nil _ _ _ _, World.ownsRow_nil _ _ _ _, F3.out.then BA⟩
  have s3 := F3.out.size
  have s4 := lt_of_heap X3.out
  clear BA
  generalize (w3.alloc (.cells #[.slice none 0 0, .int .i64 0, .int .i64 0, .bool false] 24)) = w4 at P0 ⊢
  clear R2 X2 HH R3 X3 HL X1
  go_loopw [] (fun wr => ∃ k a pv bv M, k ≤ 4 ∧ PI4 w wr b w3.heap.size k a pv bv M) (fun wr => mzR b wr)
  case atStart => exact ⟨0, _, _, _, _, by omega, P0.out⟩
  case round =>
    obtain ⟨k, a, pv, bv, M, hk, hP⟩ := hrel
    have P := hide hP
    clear hP
    have c0 : wr.cell? ⟨b, 0, none⟩ = some (.string (txt (tsL k))) := cell_row P.out.rb (i := 0) rfl
    by_cases hk4 : k < 4
    · obtain ⟨i, hi⟩ : ∃ i, smL[k]? = some i := ⟨_, List.getElem?_eq_getElem (by show k < 4; exact hk4)⟩
      have LC := hide (rline_c P.out.rb (tsL_cut hk4 hi) (by have := tsL_len k (by omega); omega) P.out.a0 (by have := P.out.a1; omega) (by have := (wds_join i (List.mem_of_getElem? hi)).2.2; omega))
      obtain ⟨X, hX⟩ : ∃ X, txt (tsL k) = X := ⟨_, rfl⟩
      have hne : X.toList.isEmpty = false := by rw [← hX]; exact tsL_emp k hk4
      rw [hX] at c0
      have MI := hide (List.mem_of_getElem? hi)
      have HI := hide hi
      clear hX hi
      go_upto_region 5 with first
        | (go_at_call 53; (with_reducible refine (LC.out).mono ?_); rintro e v1 ⟨gl, rfl, hg, h21, h22, h23⟩; have R1 := hide h22; have GL := hide hg; have L1 := hide h21; have F1 := hide h23; have FW := hide (P.out.fr.trans h23); have II := hide (inst_all (tab_fr HT.out FW.out h2) h21 (by have := P.out.fr.size; omega) MI.out); clear h21 h22 h23 hg)
        | (go_at_call 55; (with_reducible refine (II.out).mono ?_); rintro e v2 ⟨rfl, h31, h32⟩; have L2 := hide h31; have F2 := hide h32; clear h31 h32)
      have BX : Below v2.heap.size v2 (v2.alloc (.cells #[.int .i64 i.op, .int .i64 i.x, .int .i64 i.y, .int .i64 i.n, .int .i64 i.mn, .int .i64 i.mx, .int .u64 (z1_wd i.s 0), .int .u64 (z1_wd i.s 1), .int .u64 (z1_wd i.s 2), .int .u64 (z1_wd i.s 3)] 35)) := (Below.refl _ _).alloc (Nat.le_refl _) _
      have FA : Hid (Fr (At1 b) wr (v2.alloc (.cells #[.int .i64 i.op, .int .i64 i.x, .int .i64 i.y, .int .i64 i.n, .int .i64 i.mn, .int .i64 i.mx, .int .u64 (z1_wd i.s 0), .int .u64 (z1_wd i.s 1), .int .u64 (z1_wd i.s 2), .int .u64 (z1_wd i.s 3)] 35))) := hide ((fr_newG F1.out F2.out GL.out).then BX)
      have sw := P.out.fr.size
      have gl1 := GL.out
      have R5 : Hid (RB (v2.alloc (.cells #[.int .i64 i.op, .int .i64 i.x, .int .i64 i.y, .int .i64 i.n, .int .i64 i.mn, .int .i64 i.mx, .int .u64 (z1_wd i.s 0), .int .u64 (z1_wd i.s 1), .int .u64 (z1_wd i.s 2), .int .u64 (z1_wd i.s 3)] 35)) b (tsL (k + 1)) (a + ((Lib.join (wds i) [32]).length + 1)) bv) := hide (RB.kept ((F2.out.block _ (lt_of_heap R1.out) (by show ¬ (b = gl); omega)).trans R1.out) BX)
      have L5 : Hid (LB (v2.alloc (.cells #[.int .i64 i.op, .int .i64 i.x, .int .i64 i.y, .int .i64 i.n, .int .i64 i.mn, .int .i64 i.mx, .int .u64 (z1_wd i.s 0), .int .u64 (z1_wd i.s 1), .int .u64 (z1_wd i.s 2), .int .u64 (z1_wd i.s 3)] 35)) gl [] false a) := hide (L2.out.kept BX)
      have I5 : Hid ((v2.alloc (.cells #[.int .i64 i.op, .int .i64 i.x, .int .i64 i.y, .int .i64 i.n, .int .i64 i.mn, .int .i64 i.mx, .int .u64 (z1_wd i.s 0), .int .u64 (z1_wd i.s 1), .int .u64 (z1_wd i.s 2), .int .u64 (z1_wd i.s 3)] 35)).heap[v2.heap.size]? = some (.cells #[.int .i64 i.op, .int .i64 i.x, .int .i64 i.y, .int .i64 i.n, .int .i64 i.mn, .int .i64 i.mx, .int .u64 (z1_wd i.s 0), .int .u64 (z1_wd i.s 1), .int .u64 (z1_wd i.s 2), .int .u64 (z1_wd i.s 3)] 35 (0, 0))) := alloc_new v2 _
      have X5 := hide ((FA.out.block _ (lt_of_heap P.out.x2) (by show ¬ (w.heap.size = b); omega)).trans P.out.x2)
      have Y5 := hide ((FA.out.block _ (lt_of_heap P.out.x3) (by show ¬ (w3.heap.size = b); omega)).trans P.out.x3)
      have HP5 := hide (ownsRow_fr P.out.hp FA.out (fun z hz e => by have h1 := (ownsRow_at P.out.hp hz).1; have h2 : z = b := e; omega))
      have HB5 := hide (ownsRow_fr P.out.hb FA.out (fun z hz e => by have h1 := (ownsRow_at P.out.hb hz).1; have h2 : z = b := e; omega))
      have F5 := hide (P.out.fr.trans FA.out)
      have s2 := F2.out.size
      have s1 := F1.out.size
      clear BX
      generalize (v2.alloc (.cells #[.int .i64 i.op, .int .i64 i.x, .int .i64 i.y, .int .i64 i.n, .int .i64 i.mn, .int .i64 i.mx, .int .u64 (z1_wd i.s 0), .int .u64 (z1_wd i.s 1), .int .u64 (z1_wd i.s 2), .int .u64 (z1_wd i.s 3)] 35)) = W5 at FA R5 L5 I5 X5 Y5 HP5 HB5 F5 ⊢
      obtain ⟨q, c, rfl⟩ := ownsRow_shape HP5.out
      obtain ⟨bq, bc, rfl⟩ := ownsRow_shape HB5.out
      have y0 := cell_row Y5.out (i := 0) rfl
      have ly := lt_of_heap Y5.out
      have lI := lt_of_heap I5.out
      have e0 := cell_row I5.out (i := 0) rfl
      have e1 := cell_row I5.out (i := 1) rfl
      have e2 := cell_row I5.out (i := 2) rfl
      have e3 := cell_row I5.out (i := 3) rfl
      have e4 := cell_row I5.out (i := 4) rfl
      have e5 := cell_row I5.out (i := 5) rfl
      have e6 := cell_row I5.out (i := 6) rfl
      have e7 := cell_row I5.out (i := 7) rfl
      have e8 := cell_row I5.out (i := 8) rfl
      have e9 := cell_row I5.out (i := 9) rfl
      have k40 : (k : Int) ≤ 40000 := by omega
      obtain ⟨t0, ti, tz0, tz1, tz2⟩ := info_parts size_inst
      go_upto_region 7 with (at_builtin; refine wpList_append_own_at _ rfl _ _ 22 rfl w.heap.size 35 t0 (.agg #[.int .i64 0, .int .i64 0, .int .i64 0, .int .i64 0, .int .i64 0, .int .i64 0, .int .u64 0, .int .u64 0, .int .u64 0, .int .u64 0]) 10 80 und_insts ti tz0 tz1 tz2 rfl (by decide) (.slice q k c) k (ceI14 (smL.take k)) rfl (World.ownsRow.alloc HP5.out _) ⟨W5.heap.size, 0, none⟩ 1 1 (inC i) rfl rfl (newsI W5 (inC i) _) (inC_one i) (by unfold maxLen; omega) (by omega) (by have := F5.out.size; simp; omega) ?_; intro v6 W6 hown hgrow _ hblk; have G6 := hide hgrow; have O6 := hide hown; have Y6 := hide ((hgrow.block _ (by simp; omega) (fun e => ownsRow_not HP5.out Y5.out (by decide) e.symm)).trans ((Below.heap_alloc _ _ _ ly).trans Y5.out)); have z0 := cell_row Y6.out (i := 0) rfl; have zf := frz_row Y6.out 0; obtain ⟨q6, c6, rfl⟩ := ownsRow_shape hown; clear hown hgrow hblk)
      have FS : Hid (Fr (fun z => (Value.slice q k c).ownBlock = some z ∨ z = w3.heap.size) W5 (W6.setCell ⟨w3.heap.size, 0, none⟩ (.slice q6 (k + 1) c6))) := hide (Fr.setCell (S := fun z => (Value.slice q k c).ownBlock = some z ∨ z = w3.heap.size) (((Fr.refl _ W5).alloc _).grown G6.out (fun z hz => .inl hz)) (p := ⟨w3.heap.size, 0, none⟩) (.inr rfl) _)
      have F7 : Hid (Fr (At1 b) w (W6.setCell ⟨w3.heap.size, 0, none⟩ (.slice q6 (k + 1) c6))) := hide (Fr.setNew (fr_grow (F5.out.alloc _) G6.out (fun z hz => (ownsRow_at HP5.out hz).1)) (p := ⟨w3.heap.size, 0, none⟩) (by show w.heap.size ≤ w3.heap.size; omega) _)
      have Y7 : Hid ((W6.setCell ⟨w3.heap.size, 0, none⟩ (.slice q6 (k + 1) c6)).heap[w3.heap.size]? = some (.cells #[.slice q6 (k + 1) c6, .int .i64 0, .int .i64 0, .bool false] 24 (0, 0))) := heap_set_in Y6.out 0 _
      have O7 := hide (ownsRow_fr O6.out ((Fr.refl (At1 w3.heap.size) W6).setCell (p := ⟨w3.heap.size, 0, none⟩) rfl (.slice q6 (k + 1) c6)) (fun z hz e => ownsRow_not O6.out Y6.out (by decide) (by rw [hz, show z = _ from e])))
      have R7 := hide ((FS.out.block _ (lt_of_heap R5.out) (fun q => q.elim (fun e => ownsRow_not HP5.out R5.out (by decide) e) (fun e => by omega))).trans R5.out)
      have L7 := hide ((FS.out.block _ (lt_of_heap L5.out) (fun q => q.elim (fun e => ownsRow_not HP5.out L5.out (by decide) e) (fun e => by have := P.out.fr.size; have := lt_of_heap P.out.x3; omega))).trans L5.out)
      have X7 := hide ((FS.out.block _ (lt_of_heap X5.out) (fun q => q.elim (fun e => ownsRow_not HP5.out X5.out (by decide) e) (fun e => by omega))).trans X5.out)
      have HB7 := hide (ownsRow_fr HB5.out FS.out (fun z hz => by
        obtain ⟨_, _, cur, hc⟩ := ownsRow_at HB5.out hz
        rintro (e | e)
        · exact ownsRow_not HP5.out hc (by decide) e
        · rw [e] at hc
          exact ne_type hc Y5.out (by decide) rfl))
      clear y0 e0 e1 e2 e3 e4 e5 e6 e7 e8 e9 z0 zf
      generalize (W6.setCell ⟨w3.heap.size, 0, none⟩ (.slice q6 (k + 1) c6)) = W7 at FS F7 Y7 O7 R7 L7 X7 HB7 ⊢
      have r2 := cell_row R7.out (i := 2) rfl
      have rf := frz_row R7.out 2
      have lr := lt_of_heap R7.out
      have m2 := cell_row L7.out (i := 2) rfl
      have lm := lt_of_heap L7.out
      have sz7 := F7.out.size
      obtain ⟨n0, ni, nz0, nz1, nz2⟩ := info_parts size_int
      go_region_law (refine step_append_at rfl _ _ 43 rfl w.heap.size 3 n0 (.int .i64 0) 1 8 und_ints ni nz0 nz1 nz2 rfl (by decide) (.slice bq k bc) k M (by simp [Act.eval]) (World.ownsRow.drew (World.ownsRow.alloc HB7.out _)) ⟨W7.heap.size, 0, none⟩ 1 1 [.int .i64 a] (by simp [Act.eval]) rfl (newsI W7 [.int .i64 a] _) (by simp [Value.oneCell']) (by unfold maxLen; omega) (by omega) (by simp; omega) ?_; intro v8 W8 hown hgrow hblk; have G8 := hide hgrow; have O8 := hide hown; have R8 := hide ((hgrow.block _ (by simp; omega) (fun e => ownsRow_not HB7.out R7.out (by decide) e.symm)).trans ((Below.heap_alloc _ _ _ lr).trans R7.out)); have z2 := cell_row R8.out (i := 2) rfl; have zf := frz_row R8.out 2; obtain ⟨q8, c8, rfl⟩ := ownsRow_shape hown; clear hown hgrow hblk)
      all_goals
        have FT : Hid (Fr (fun z => (Value.slice bq k bc).ownBlock = some z ∨ z = b) W7 (W8.setCell ⟨b, 2, none⟩ (.slice q8 (k + 1) c8))) := hide (Fr.setCell (S := fun z => (Value.slice bq k bc).ownBlock = some z ∨ z = b) ((((Fr.refl _ W7).alloc _).drew).grown G8.out (fun z hz => .inl hz)) (p := ⟨b, 2, none⟩) (.inr rfl) _)
        have F9 : Hid (Fr (At1 b) w (W8.setCell ⟨b, 2, none⟩ (.slice q8 (k + 1) c8))) := hide (Fr.setCell (S := At1 b) (fr_grow ((F7.out.alloc _).drew) G8.out (fun z hz => (ownsRow_at HB7.out hz).1)) (p := ⟨b, 2, none⟩) rfl _)
        have R9 : Hid (RB (W8.setCell ⟨b, 2, none⟩ (.slice q8 (k + 1) c8)) b (tsL (k + 1)) (a + ((Lib.join (wds i) [32]).length + 1)) (.slice q8 (k + 1) c8)) := heap_set_in R8.out 2 _
        have X9 := hide ((FT.out.block _ (lt_of_heap X7.out) (fun q => q.elim (fun e => ownsRow_not HB7.out X7.out (by decide) e) (fun e => by omega))).trans X7.out)
        have Y9 := hide ((FT.out.block _ (lt_of_heap Y7.out) (fun q => q.elim (fun e => ownsRow_not HB7.out Y7.out (by decide) e) (fun e => by omega))).trans Y7.out)
        have O9 := hide (ownsRow_fr O7.out FT.out (fun z hz => by
          obtain ⟨hz1, _, cur, hc⟩ := ownsRow_at O7.out hz
          exact fun q => q.elim (fun e => ownsRow_not HB7.out hc (by decide) e) (fun e => by omega)))
        have B9 := hide (ownsRow_fr O8.out ((Fr.refl (At1 b) W8).setCell (p := ⟨b, 2, none⟩) rfl (.slice q8 (k + 1) c8)) (fun z hz e => by have h1 := (ownsRow_at O8.out hz).1; have h2 : z = b := e; omega))
        have TK : Hid (ceI14 (smL.take (k + 1)) = ceI14 (smL.take k) ++ inC i) := hide (by rw [List.take_add_one, HI.out, ceI14_app]; simp [ceI14])
        have WJ := hide (wds_join i MI.out)
        clear r2 rf m2 z2 zf
        go_wp2
        go_roundw
        case rel => exact ⟨k + 1, _, _, _, _, by omega, ⟨R9.out, by have := P.out.a0; omega, by have h1 := P.out.a1; have h3 := WJ.out.2.2; omega, X9.out, Y9.out, by rw [TK.out]; exact O9.out, B9.out, F9.out⟩⟩
        case measure => rw [mzR_rb R9.out, mzR_rb P.out.rb]; exact tsL_less k hk4
    · obtain rfl : k = 4 := by omega
      rw [tsL_nil] at c0
      obtain ⟨q, c, rfl⟩ := ownsRow_shape P.out.hp
      have y0 := cell_row P.out.x3 (i := 0) rfl
      have y1 := cell_row P.out.x3 (i := 1) rfl
      have y2 := cell_row P.out.x3 (i := 2) rfl
      have y3 := cell_row P.out.x3 (i := 3) rfl
      have x0 := cell_row P.out.x2 (i := 0) rfl
      have x1 := cell_row P.out.x2 (i := 1) rfl
      have x2 := cell_row P.out.x2 (i := 2) rfl
      have x3 := cell_row P.out.x2 (i := 3) rfl
      have f0 := frz_row P.out.x2 0
      have f1 := frz_row P.out.x2 1
      have f2 := frz_row P.out.x2 2
      have f3 := frz_row P.out.x2 3
      have hc : wr.cell? ⟨b, 0, none⟩ = some (.string ⟨#[]⟩) := c0
      clear c0
      go_wp2
      refine bodyPost_ret (v := .agg #[.slice q 4 c, .int .i64 0, .int .i64 0, .bool false]) (by simp [results, Tryz.results38, go_sem, x0, x1, x2, x3]) rfl ⟨q, c, rfl, ?_, ?_⟩
      · exact ownsRow_fr P.out.hp (set4_fr _ _ _ _ _ _) (fun z hz e => ownsRow_not P.out.hp P.out.x2 (by decide) (by rw [hz, show z = _ from e]))
      · exact Fr.setNew (Fr.setNew (Fr.setNew (Fr.setNew P.out.fr (p := ⟨w.heap.size, 0, none⟩) (Nat.le_refl _) _) (p := ⟨w.heap.size, 1, none⟩) (Nat.le_refl _) _) (p := ⟨w.heap.size, 2, none⟩) (Nat.le_refl _) _) (p := ⟨w.heap.size, 3, none⟩) (Nat.le_refl _) _
end Go.Proofs.YtbfhahhcacnckaaGreatDoor
