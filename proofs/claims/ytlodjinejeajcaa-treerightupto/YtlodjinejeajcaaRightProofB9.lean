/-
  The characters of a text. Literal: the tree of a text. copied: a tree, all in memory of its own, with a range and a Kid more behind each list. copied: the walk.
-/
import Derived.Test.YtlodjinejeajcaaRightProofB8
import Derived.Test.YtlodjinejeajcaaRightProofB3
namespace Go.Proofs.Ytlodjinejeajcaa
open Go Go.RowKit

theorem ints_set8 (V : List Int) (i : Nat) (x : Int) : ints (V.set i x) = (ints V).set i (.int .i64 x) := by simp [ints, List.map_set]
theorem ownsRow_set8 {w : World} {base : Nat} {g c n : Nat} {A : List Int} (h : w.ownsRow base 3 1 (.slice (some ⟨g, 0, none⟩) n c) n (ints A)) (j : Nat) (x : Int) : (w.setCell ⟨g, j, none⟩ (.int .i64 x)).ownsRow base 3 1 (.slice (some ⟨g, 0, none⟩) n c) n (ints (A.set j x)) := by
  rcases h with ⟨h1, ⟨q, _⟩ | ⟨g', cap, cur, q1, q2, q3, q4, q5, q6, q7⟩⟩
  · cases q
  · cases q1
    refine ⟨by rw [ints_set8, List.length_set]; exact h1, .inr ⟨g, c, cur.setIfInBounds j (.int .i64 x), rfl, q2, heap_set_in q3 j _, q4, q5, by simpa using q6, ?_⟩⟩
    rw [ints_set8, ← q7, Array.toList_setIfInBounds, List.take_set]
theorem made_ints (n : Nat) : (madeCells (Value.int .i64 0).cells (n * 1)).toList = ints (List.replicate n 0) := by
  refine List.ext_getElem (by simp [madeCells, ints]) fun i h1 h2 => ?_
  simp [madeCells, ints, Value.cells, Nat.mod_one]
/-- The bytes of a text. -/
def byL (s : ByteArray) : List Int := s.data.toList.map fun b => (b.toNat : Int)
theorem byL_len (s : ByteArray) : (byL s).length = s.size := by simp [byL]
def litE (ch : Bool) (s : ByteArray) : Int := if ch then dErr (us s) else 0
def litL (ch : Bool) (s : ByteArray) : List Int := if ch then dList (us s) else byL s

set_option maxRecDepth 1000000 in
set_option maxHeartbeats 4000000 in
theorem characters_c (s : ByteArray) (w : World) (ch f : Bool) (hs : s.size ≤ 1000000) :
    Calls Try.prog 36 #[.string s, .agg #[.bool ch, .bool f]] w fun e w' => ∃ v, e = .returned (.tuple #[v, .int .i64 (litE ch s)]) ∧ w'.ownsRow w.heap.size 3 1 v (litL ch s).length (ints (litL ch s)) ∧ Below w.heap.size w w' := by
  have M1 := alloc_new w (.cells #[.bool ch, .bool f] 27)
  have B1 : Hid (Below w.heap.size w (w.alloc (.cells #[.bool ch, .bool f] 27))) := (Below.refl _ _).alloc (Nat.le_refl _) _
  have m0 := cell_row M1 (i := 0) rfl
  clear M1
  cases ch with
  | true =>
    have DC := hide (fun W => decode_c s W (by omega))
    go_enter Try.func36, Try.ntmps36
    go_wp2_with (go_at_call 57; (with_reducible refine (DC.out _).mono ?_); rintro e w5 ⟨v5, rfl, h51, h52⟩; obtain ⟨q5, k5, rfl⟩ := ownsRow_shape h51; have O5 := hide h51; have B5 := hide h52; clear h51 h52)
    refine bodyPost_ret (v := .tuple #[.slice q5 (dList (us s)).length k5, .int .i64 (dErr (us s))]) (by simp [results, Try.results36, go_sem]) rfl ?_
    exact ⟨_, rfl, ownsRow_mono O5.out B1.out.size, chain B1.out B5.out (Nat.le_refl _)⟩
  | false =>
    obtain ⟨t0, hi, hz0, hz1, hz2⟩ := info_parts size_int
    have hmx : s.size ≤ maxLen := by unfold maxLen; omega
    have hs0 : (s.size : Int) ≤ 1000000 := by omega
    go_enter Try.func36, Try.ntmps36
    go_wp2_with (at_make; refine wpList_make_full _ rfl _ _ 59 rfl w.heap.size 3 t0 (.int .i64 0) 1 und_ints hi hz0 hz1 .i64 .i64 (s.size : Int) (s.size : Int) s.size rfl rfl rfl rfl (by rw [hz2]; omega) hmx B1.out.size ?_; intro w5 hown5 hg5; rw [made_ints] at hown5; have O5 := hide hown5; have B5 : Hid (Below w.heap.size w w5) := bel_grown (B := w.heap.size) B1.out (Nat.le_refl _) (Nat.le_refl _) hg5 (fun r hr => by cases hr); clear hown5 hg5)
    obtain ⟨g, hg⟩ : ∃ g, w.heap.size + 1 = g := ⟨_, rfl⟩
    rw [World.size_alloc] at O5
    rw [hg] at O5 ⊢
    have hwg : w.heap.size ≤ g := by omega
    clear m0 hg
    go_loopw [19] (fun i wr => ∃ j : Nat, j ≤ s.size ∧ i = .int .i64 (j : Int) ∧ wr.ownsRow w.heap.size 3 1 (.slice (some ⟨g, 0, none⟩) s.size s.size) s.size (ints ((byL s).take j ++ List.replicate (s.size - j) 0)) ∧ Below w.heap.size w wr) (fun i _ => s.size - (intOf i).toNat)
    case atStart => exact ⟨0, Nat.zero_le _, rfl, by simpa using O5.out, B5.out⟩
    case round =>
      clear O5 B5
      obtain ⟨j, hj, rfl, hj1, hj2⟩ := hrel
      have HR := hide hj1
      have HB := hide hj2
      clear hj1 hj2
      by_cases hjl : j < s.size
      · have e0 : (j : Int) < (s.size : Int) := by omega
        obtain ⟨-, -, cur, hcur⟩ := ownsRow_at HR.out (g := g) rfl
        have fz := frz_row hcur j
        have hcell : ∃ u, wr.cell? ⟨g, j, none⟩ = some u := ⟨_, ownsRow_cell HR.out (j := j) (List.getElem?_eq_getElem (by rw [HR.out.1]; omega))⟩
        obtain ⟨u, hu⟩ := hcell
        clear hcur
        have hb : (byL s)[j]? = some (s[j].toNat : Int) := by
          simp only [byL, List.getElem?_map]
          rw [List.getElem?_eq_getElem (by simpa using hjl)]
          rfl
        have hwr : wrap64 (s[j].toNat : Int) = (s[j].toNat : Int) := by
          have := s[j].toNat_lt
          unfold wrap64; omega
        have HS := hide (show (wr.setCell ⟨g, j, none⟩ (.int .i64 (wrap64 (s[j].toNat : Int)))).ownsRow w.heap.size 3 1 (.slice (some ⟨g, 0, none⟩) s.size s.size) s.size (ints ((byL s).take (j + 1) ++ List.replicate (s.size - (j + 1)) 0)) by
          rw [hwr]
          have h1 := ownsRow_set8 HR.out j (s[j].toNat : Int)
          have hl : ((byL s).take j).length = j := by rw [List.length_take, byL_len]; omega
          rw [List.set_append_right _ _ (by omega), hl, Nat.sub_self, show s.size - j = (s.size - (j + 1)) + 1 by omega, List.replicate_succ, List.set_cons_zero] at h1
          rw [List.take_add_one, hb, List.append_assoc]
          exact h1)
        have HB2 := hide (chainF HB.out ((Fr.refl (fun z => z = g) wr).setCell (p := ⟨g, j, none⟩) rfl (.int .i64 (wrap64 (s[j].toNat : Int)))) (Nat.le_refl _) (fun k e => by omega))
        clear hwr hb
        go_wp2
        go_roundw
        case rel => exact ⟨j + 1, by omega, by go_num, HS.out, HB2.out⟩
        case measure => simp only [intOf]; omega
      · have e0 : ¬ (j : Int) < (s.size : Int) := by omega
        have HS := hide (show wr.ownsRow w.heap.size 3 1 (.slice (some ⟨g, 0, none⟩) s.size s.size) (byL s).length (ints (byL s)) by
          have h1 := HR.out
          rw [List.take_of_length_le (by rw [byL_len]; omega), show s.size - j = 0 by omega, List.replicate_zero, List.append_nil] at h1
          rw [byL_len]
          exact h1)
        clear HR
        go_wp2
        refine bodyPost_ret (v := .tuple #[.slice (some ⟨g, 0, none⟩) s.size s.size, .int .i64 0]) (by simp [results, Try.results36, go_sem]) rfl ?_
        exact ⟨_, rfl, HS.out, HB.out⟩
end Go.Proofs.Ytlodjinejeajcaa
namespace Go.Proofs.Ytlodjinejeajcaa
open Go Go.RowKit

theorem us_bd (s : ByteArray) : ∀ f p, ∀ u ∈ uFrom s f p, u.2 ≤ 1114111
  | 0, p, u, h => by simp [uFrom] at h
  | f + 1, p, u, h => by
    by_cases hp : p < s.size
    · rw [uFrom_more s f p hp] at h
      rcases List.mem_cons.1 h with rfl | h
      · show ch s p ≤ _
        by_cases hb : bad s p = true
        · rw [(ch_bad hb).1]; omega
        · rw [ch_good (by simpa using hb)]; have := dec_le s p; omega
      · exact us_bd s f _ u h
    · rw [uFrom_end s _ p hp] at h; cases h
theorem litL_bd (c : Bool) (s : ByteArray) : ∀ x ∈ litL c s, 0 ≤ x ∧ x ≤ 1114111 := by
  intro x hx
  unfold litL at hx
  cases c with
  | true =>
    simp only [if_true] at hx
    unfold dList at hx
    split at hx
    · rename_i hg
      obtain ⟨u, hu, rfl⟩ := List.mem_map.1 hx
      have h1 := List.all_eq_true.1 hg u hu
      exact ⟨by simpa using h1, us_bd s _ _ u hu⟩
    · cases hx
  | false =>
    simp only [Bool.false_eq_true, if_false, byL] at hx
    obtain ⟨b, -, rfl⟩ := List.mem_map.1 hx
    have := b.toNat_lt
    omega
theorem litL_len (c : Bool) (s : ByteArray) : (litL c s).length ≤ s.size := by
  unfold litL
  cases c with
  | true =>
    simp only [if_true]
    unfold dList
    split
    · rw [chs_len]; exact us_length s
    · exact Nat.zero_le _
  | false => simp [byL]
def zT : Tr := .mk (bare 0) []
theorem made_nodes (n : Nat) : (madeCells (Value.agg #[.int .i64 0, .int .i64 0, .int .i64 0, .int .i64 0, .slice none 0 0, .slice none 0 0]).cells (n * 6)).toList = cellsK (List.replicate n zT) := by
  refine List.ext_getElem (by simp [madeCells, cellsK_length]) fun i h1 h2 => ?_
  have hi : i < n * 6 := by simpa [madeCells] using h1
  have hc : (cellsK (List.replicate n zT))[i]? = zT.f.cells[i % 6]? := by
    have := cellsK_get (List.replicate n zT) (i / 6) (i % 6) zT (by rw [List.getElem?_replicate, if_pos (by omega)]) (Nat.mod_lt _ (by omega))
    rwa [show i / 6 * 6 + i % 6 = i by omega] at this
  have h3 : (cellsK (List.replicate n zT))[i]? = some ((cellsK (List.replicate n zT))[i]) := List.getElem?_eq_getElem h2
  rw [hc] at h3
  have h4 : i % 6 < 6 := Nat.mod_lt _ (by omega)
  have h5 : ((madeCells (Value.agg #[.int .i64 0, .int .i64 0, .int .i64 0, .int .i64 0, .slice none 0 0, .slice none 0 0]).cells (n * 6)).toList)[i] = #[.int .i64 0, .int .i64 0, .int .i64 0, .int .i64 0, .slice none 0 0, .slice none 0 0][i % 6]! := by
    simp [madeCells, Value.cells]
  rw [h5]
  generalize i % 6 = j at h3 h4
  match j, h4, h3 with
  | 0, _, h3 => injection h3
  | 1, _, h3 => injection h3
  | 2, _, h3 => injection h3
  | 3, _, h3 => injection h3
  | 4, _, h3 => injection h3
  | 5, _, h3 => injection h3
/-- How Literal's loop stands. -/
structure LtS (w : World) (bm bz g : Nat) (c f : Bool) (q : Option Addr) (k : Nat) (l : List Int) (nk old : List Tr) (W : World) : Prop where
  md : W.heap[bm]? = some (.cells #[.bool c, .bool f] 27 (0, 0))
  res : W.heap[bz]? = some (.cells #[.int .i64 0, .int .i64 0, .int .i64 0, .int .i64 0, .slice none 0 0, .slice none 0 0] 25 (0, 0))
  lst : W.ownsRow w.heap.size 3 1 (.slice q l.length k) l.length (ints l)
  bel : Below w.heap.size w W
  row : KR W g (nk ++ old)
  new : ∀ u ∈ nk, TA W u ∧ Foot (fun k => g < k) u
theorem LtS.kept {w W W' : World} {bm bz g k : Nat} {c f : Bool} {q : Option Addr} {l : List Int} {nk old : List Tr} (h : LtS w bm bz g c f q k l nk old W) (hb : Below W.heap.size W W') : LtS w bm bz g c f q k l nk old W' :=
  ⟨(hb.block _ (lt_of_heap h.md)).trans h.md, (hb.block _ (lt_of_heap h.res)).trans h.res, ownsRow_fr h.lst (Fr.of_below (S := fun _ => False) hb) (fun _ _ z => z), chain h.bel hb (Nat.le_refl _), h.row.kept hb, fun u hu => ⟨(h.new u hu).1.kept hb, (h.new u hu).2⟩⟩
theorem LtS.next {w W : World} {bm bz g k j : Nat} {c f : Bool} {q : Option Addr} {l : List Int} {nk old : List Tr} {t : Tr} (h : LtS w bm bz g c f q k l nk old W) (hj : nk.length = j) (ho : old ≠ []) (hz : bz ≠ g) (hwg : w.heap.size ≤ g) (ht : TA W t) (hf : Foot (fun k => g < k) t) :
    LtS w bm bz g c f q k l (nk ++ [t]) old.tail (put6 W g (j * 6) t.f) := by
  have F := put6_fr W g (j * 6) t.f
  have hl : j < (nk ++ old).length := by
    rw [List.length_append]
    cases old with
    | nil => exact absurd rfl ho
    | cons x r => simp; omega
  obtain ⟨cur, hcur⟩ := h.row.blk
  have K : CKeep (fun k => g < k) W (put6 W g (j * 6) t.f) := F.ckeep (fun k e z => by omega)
  refine ⟨(F.block _ (lt_of_heap h.md) (fun e => ?_)).trans h.md, (F.block _ (lt_of_heap h.res) hz).trans h.res, ownsRow_fr h.lst F (fun k hk e => ?_), chainF h.bel F (Nat.le_refl _) (fun k e => by omega), ?_, fun u hu => ?_⟩
  · subst e
    have := h.md
    rw [hcur] at this
    cases this
  · subst e
    exact ownsRow_not h.lst hcur (by decide) hk
  · have := h.row.set hl t
    cases old with
    | nil => exact absurd rfl ho
    | cons x r =>
      rw [List.set_append_right _ _ (by omega), hj, Nat.sub_self, List.set_cons_zero] at this
      rw [List.append_assoc]
      exact this
  · rcases List.mem_append.1 hu with q | q
    · exact ⟨(h.new u q).1.ckN (h.new u q).2 K, (h.new u q).2⟩
    · simp at q
      subst q
      exact ⟨ht.ckN hf K, hf⟩
/-- Sets of characters, one behind the other. -/
def ECs (f : Bool) : List Int → List Er → Prop
  | [], [] => True
  | c :: l, E :: L => EC f c E ∧ ECs f l L
  | _, _ => False
theorem ECs.snoc {f : Bool} : ∀ {l : List Int} {L : List Er} {c : Int} {E : Er}, ECs f l L → EC f c E → ECs f (l ++ [c]) (L ++ [E])
  | [], [], _, _, _, h => ⟨h, trivial⟩
  | [], _ :: _, _, _, h, _ => h.elim
  | _ :: _, [], _, _, h, _ => h.elim
  | _ :: _, _ :: _, _, _, h, k => ⟨h.1, h.2.snoc k⟩
theorem ECs.one {f : Bool} : ∀ {l : List Int} {L M : List Er}, ECs f l L → ECs f l M → L = M
  | [], [], [], _, _ => rfl
  | [], _ :: _, _, h, _ => h.elim
  | [], [], _ :: _, _, h => h.elim
  | _ :: _, [], _, h, _ => h.elim
  | _ :: _, _ :: _, [], _, h => h.elim
  | _ :: _, _ :: _, _ :: _, h, k => by rw [h.1.one k.1, h.2.one k.2]
theorem ECs.app {f : Bool} : ∀ {l m : List Int} {L M : List Er}, ECs f l L → ECs f m M → ECs f (l ++ m) (L ++ M)
  | [], _, [], _, _, h => h
  | [], _, _ :: _, _, h, _ => h.elim
  | _ :: _, _, [], _, h, _ => h.elim
  | _ :: _, _, _ :: _, _, h, k => ⟨h.1, h.2.app k⟩
theorem ECs.mem {f : Bool} : ∀ {l : List Int} {L : List Er}, ECs f l L → ∀ E ∈ L, ∃ c ∈ l, EC f c E
  | [], [], _, E, hE => by cases hE
  | [], _ :: _, h, _, _ => h.elim
  | _ :: _, [], h, _, _ => h.elim
  | c :: l, E :: L, h, F, hF => by
    rcases List.mem_cons.1 hF with rfl | hF
    · exact ⟨c, List.mem_cons_self, h.1⟩
    · obtain ⟨d, hd, hk⟩ := h.2.mem F hF
      exact ⟨d, List.mem_cons_of_mem _ hd, hk⟩
theorem ECs.len {f : Bool} : ∀ {l : List Int} {L : List Er}, ECs f l L → L.length = l.length
  | [], [], _ => rfl
  | [], _ :: _, h => h.elim
  | _ :: _, [], h => h.elim
  | _ :: _, _ :: _, h => by rw [List.length_cons, List.length_cons, h.2.len]
theorem EC.k {f : Bool} {c : Int} {E : Er} (h : EC f c E) : E.k = 2 ∧ E.ks = [] := by
  obtain ⟨C, rfl, -⟩ := h
  exact ⟨rfl, rfl⟩
/-- What Literal answers. -/
def LitIs (w : World) (c f : Bool) (s : ByteArray) (e : Ending) (w' : World) : Prop :=
  (litE c s ≠ 0 ∧ e = .returned (.tuple #[.agg #[.int .i64 0, .int .i64 0, .int .i64 0, .int .i64 0, .slice none 0 0, .slice none 0 0], .int .i64 (litE c s)]) ∧ Below w.heap.size w w') ∨
  (litE c s = 0 ∧ ∃ t' L, e = .returned (.tuple #[.agg #[.int .i64 t'.f.k, .int .i64 t'.f.n, .int .i64 t'.f.mn, .int .i64 t'.f.mx, .slice t'.f.rq t'.f.rs.length t'.f.rc, .slice t'.f.kq t'.f.kl t'.f.kc], .int .i64 0]) ∧ TA w' t' ∧ er t' = joinE 5 L (.mk 1 0 0 0 [] []) ∧ ECs f (litL c s) L ∧ Below w.heap.size w w')
theorem ret_lit {R : Ending → World → Prop} {a : Act} {W : World} {b : Nat} {f : Fl} {x : Int} (h : Six W b 0 f) (ha : a.tmps[4]?.getD undef = .pointer (some ⟨b, 0, none⟩)) (hb : a.tmps[5]?.getD undef = .int .i64 x) (hd : a.defers = []) (hR : R (.returned (.tuple #[.agg #[.int .i64 f.k, .int .i64 f.n, .int .i64 f.mn, .int .i64 f.mx, .slice f.rq f.rs.length f.rc, .slice f.kq f.kl f.kc], .int .i64 x])) W) : bodyPost Try.prog Try.f19 R .ret a W := by
  obtain ⟨z0, z1, z2, z3, z4, z5⟩ := h
  simp only [Nat.zero_add] at z1 z2 z3 z4 z5
  refine bodyPost_ret (v := .tuple #[.agg #[.int .i64 f.k, .int .i64 f.n, .int .i64 f.mn, .int .i64 f.mx, .slice f.rq f.rs.length f.rc, .slice f.kq f.kl f.kc], .int .i64 x]) ?_ hd hR
  simp [results, Try.results19, go_sem, ha, hb, z0, z1, z2, z3, z4, z5]
theorem flat_sets {ks : List Tr} (h : ∀ u ∈ ks, u.f.k = 2) : ks.flatMap catT = ks := by
  induction ks with
  | nil => rfl
  | cons u ks ih =>
    rw [List.flatMap_cons, ih (fun v hv => h v (List.mem_cons_of_mem _ hv))]
    have := h u (List.mem_cons_self ..)
    unfold catT
    rw [if_neg (by omega), if_neg (by omega)]
    rfl
set_option maxRecDepth 1000000 in
set_option maxHeartbeats 8000000 in
theorem literal_c (s : ByteArray) (w : World) (c f : Bool) (hs : s.size ≤ 2000) :
    Calls Try.prog 19 #[.string s, .agg #[.bool c, .bool f]] w (LitIs w c f s) := by
  have CH := hide (fun W => characters_c s W c f (by omega))
  have hlen : (litL c s).length ≤ 2000 := Nat.le_trans (litL_len c s) hs
  have BD := hide (litL_bd c s)
  obtain ⟨l, hl⟩ : ∃ l, litL c s = l := ⟨_, rfl⟩
  have HL := hide hl
  rw [hl] at CH hlen BD
  obtain ⟨x, hx⟩ : ∃ x, litE c s = x := ⟨_, rfl⟩
  have HX := hide hx
  rw [hx] at CH
  have B1 : Hid (Below w.heap.size w ((w.alloc (.cells #[.bool c, .bool f] 27)).alloc (.cells #[.int .i64 0, .int .i64 0, .int .i64 0, .int .i64 0, .slice none 0 0, .slice none 0 0] 25))) := ((Below.refl _ _).alloc (Nat.le_refl _) _).alloc (by simp) _
  have M1 : Hid (((w.alloc (.cells #[.bool c, .bool f] 27)).alloc (.cells #[.int .i64 0, .int .i64 0, .int .i64 0, .int .i64 0, .slice none 0 0, .slice none 0 0] 25)).heap[w.heap.size]? = some (.cells #[.bool c, .bool f] 27 (0, 0))) := (Below.heap_alloc _ _ _ (by simp)).trans (alloc_new w _)
  have Z1 : Hid (((w.alloc (.cells #[.bool c, .bool f] 27)).alloc (.cells #[.int .i64 0, .int .i64 0, .int .i64 0, .int .i64 0, .slice none 0 0, .slice none 0 0] 25)).heap[w.heap.size + 1]? = some (.cells #[.int .i64 0, .int .i64 0, .int .i64 0, .int .i64 0, .slice none 0 0, .slice none 0 0] 25 (0, 0))) := (by
    have := alloc_new (w.alloc (.cells #[.bool c, .bool f] 27)) (.cells #[.int .i64 0, .int .i64 0, .int .i64 0, .int .i64 0, .slice none 0 0, .slice none 0 0] 25)
    rwa [World.size_alloc] at this)
  clear hl hx
  go_enter Try.func19, Try.ntmps19
  go_upto_region 1 with fail
  generalize ((w.alloc (.cells #[.bool c, .bool f] 27)).alloc (.cells #[.int .i64 0, .int .i64 0, .int .i64 0, .int .i64 0, .slice none 0 0, .slice none 0 0] 25)) = W1 at B1 M1 Z1 ⊢
  obtain ⟨bz, hbz⟩ : ∃ bz, w.heap.size + 1 = bz := ⟨_, rfl⟩
  rw [hbz] at Z1 ⊢
  have hwz : w.heap.size ≤ bz := by omega
  have m0 := cell_row M1.out (i := 0) rfl
  have m1 := cell_row M1.out (i := 1) rfl
  clear hbz
  go_upto_region 2 with (go_at_call 36; (with_reducible refine (CH.out _).mono ?_); rintro e w5 ⟨v5, rfl, h51, h52⟩; obtain ⟨q5, k5, rfl⟩ := ownsRow_shape h51; have O5 := hide h51; have B5 := hide h52; clear h51 h52)
  have M5 : Hid (w5.heap[w.heap.size]? = some (.cells #[.bool c, .bool f] 27 (0, 0))) := (B5.out.block _ (lt_of_heap M1.out)).trans M1.out
  have Z5 : Hid (w5.heap[bz]? = some (.cells #[.int .i64 0, .int .i64 0, .int .i64 0, .int .i64 0, .slice none 0 0, .slice none 0 0] 25 (0, 0))) := (B5.out.block _ (lt_of_heap Z1.out)).trans Z1.out
  have B6 : Hid (Below w.heap.size w w5) := chain B1.out B5.out (Nat.le_refl _)
  have O6 : Hid (w5.ownsRow w.heap.size 3 1 (.slice q5 l.length k5) l.length (ints l)) := ownsRow_mono O5.out B1.out.size
  have hz1 : bz < w5.heap.size := lt_of_heap Z5.out
  clear m0 m1 M1 Z1 B1 B5 O5 CH
  by_cases hx0 : x = 0
  · have e0 : (x != 0) = false := by simpa using hx0
    subst hx0
    obtain ⟨t0, hi, hz0, hzz1, hzz2⟩ := info_parts size_node
    have hmx : l.length ≤ maxLen := by unfold maxLen; omega
    go_upto_region 6 with (at_make; refine wpList_make_full _ rfl _ _ 23 rfl w.heap.size 25 t0 (.agg #[.int .i64 0, .int .i64 0, .int .i64 0, .int .i64 0, .slice none 0 0, .slice none 0 0]) 6 und_nodes hi hz0 hzz1 .i64 .i64 (l.length : Int) (l.length : Int) l.length rfl rfl rfl rfl (by rw [hzz2]; omega) hmx B6.out.size ?_; intro w7 hown7 hg7; rw [made_nodes] at hown7; have O7 := hide hown7; have B7 : Hid (Below w5.heap.size w5 w7) := ⟨hg7.os, hg7.tape, hg7.output, hg7.size, fun k hk => hg7.block k hk (fun e => by cases e)⟩; clear hown7 hg7)
    have KR7 := hide (KR.of_row O7.out)
    obtain ⟨g, hg⟩ : ∃ g, w5.heap.size = g := ⟨_, rfl⟩
    rw [hg] at KR7 ⊢
    have hwg : w.heap.size ≤ g := by have := B6.out.size; omega
    have hzg : bz ≠ g := by omega
    have C7 : Hid (LtS w w.heap.size bz g c f q5 k5 l [] (List.replicate l.length zT) w7) := ⟨(B7.out.block _ (lt_of_heap M5.out)).trans M5.out, (B7.out.block _ (lt_of_heap Z5.out)).trans Z5.out, ownsRow_fr O6.out (Fr.of_below (S := fun _ => False) B7.out) (fun _ _ z => z), chain B6.out B7.out (Nat.le_refl _), KR7.out, fun u hu => by cases hu⟩
    clear M5 Z5 B6 O6 O7 B7 KR7 hg hz1 t0 hi hz0 hzz1 hzz2
    go_loopw [26] (fun i wr => ∃ (j : Nat) (nk : List Tr), j ≤ l.length ∧ i = .int .i64 (j : Int) ∧ nk.length = j ∧ ECs f (l.take j) (nk.map er) ∧ LtS w w.heap.size bz g c f q5 k5 l nk (List.replicate (l.length - j) zT) wr) (fun i _ => l.length - (intOf i).toNat)
    case atStart => exact ⟨0, [], Nat.zero_le _, rfl, rfl, trivial, C7.out⟩
    case round =>
      clear C7
      obtain ⟨j, nk, hj, rfl, hnk, hec, hcs⟩ := hrel
      have HS := hide hcs
      have HEC := hide hec
      have HNK := hide hnk
      clear hcs hec hnk
      by_cases hjl : j < l.length
      · have i0 : (j : Int) < (l.length : Int) := by omega
        obtain ⟨y, hy⟩ : ∃ y, l[j]? = some y := ⟨_, List.getElem?_eq_getElem hjl⟩
        have HY := hide hy
        obtain ⟨gl, cc, hq⟩ := ownsRow_some HS.out.lst (by omega)
        injection hq with hq1 _ hq2
        subst hq1 hq2
        have ly : wr.cell? ⟨gl, j, none⟩ = some (.int .i64 y) := ownsRow_cell HS.out.lst (by simp [ints, hy])
        have md0 := cell_row HS.out.md (i := 0) rfl
        have md1 := cell_row HS.out.md (i := 1) rfl
        have hb := BD.out y (List.mem_of_getElem? hy)
        have CC := hide (character_c (w := wr) y hb c f)
        have hug := HS.out.row.lt
        have hrp : List.replicate (l.length - j) zT = zT :: List.replicate (l.length - (j + 1)) zT := by rw [show l.length - j = (l.length - (j + 1)) + 1 by omega, List.replicate_succ]
        have HRP := hide hrp
        have CU : Hid (Calls Try.prog 37 #[.int .i64 y, .agg #[.bool c, .bool f]] wr fun e w5 => ∃ t5 : Tr, e = .returned (.agg #[.int .i64 t5.f.k, .int .i64 t5.f.n, .int .i64 t5.f.mn, .int .i64 t5.f.mx, .slice t5.f.rq t5.f.rs.length t5.f.rc, .slice t5.f.kq t5.f.kl t5.f.kc]) ∧ LtS w w.heap.size bz g c f (some ⟨gl, 0, none⟩) k5 l nk (List.replicate (l.length - j) zT) w5 ∧ Six w5 g (j * 6) zT.f ∧ LtS w w.heap.size bz g c f (some ⟨gl, 0, none⟩) k5 l (nk ++ [t5]) (List.replicate (l.length - (j + 1)) zT) (put6 w5 g (j * 6) t5.f) ∧ EC f y (er t5)) := CC.out.mono fun e w5 ⟨t5, h50, h51, h52, h53, h54⟩ => (by
          have S5 := HS.out.kept h54
          have S6 := S5.next (t := t5) (j := j) HNK.out (by rw [HRP.out]; simp) hzg hwg h51 (h53.mono (fun k hk => Nat.lt_of_lt_of_le hug hk))
          rw [HRP.out] at S6
          refine ⟨t5, h50, S5, S5.row.six j zT (by rw [HRP.out, List.getElem?_append_right (by have := HNK.out; omega), HNK.out, Nat.sub_self]; rfl), S6, h52⟩)
        clear hy CC hb hug hrp
        go_wp2_with (go_at_call 37; (with_reducible refine (CU.out).mono ?_); rintro e w5 ⟨t5, rfl, h51, h52, h53, h54⟩; obtain ⟨y0, y1, y2, y3, y4, y5⟩ := h52; have S5 := hide h51; have fz := fun z => S5.out.row.frz z; unfold put6 at h53; have S6 := hide h53; have E6 := hide h54; clear h51 h53 h54)
        have HEN := hide (show ECs f (l.take (j + 1)) ((nk ++ [t5]).map er) by
          rw [List.take_add_one, HY.out, List.map_append]
          exact HEC.out.snoc E6.out)
        go_roundw
        case rel => exact ⟨j + 1, nk ++ [t5], by omega, by go_num, by rw [List.length_append, HNK.out]; rfl, HEN.out, S6.out⟩
        case measure => simp only [intOf]; omega
      · have i0 : ¬ (j : Int) < (l.length : Int) := by omega
        have hje : j = l.length := by omega
        have S9 := HS.out
        rw [show l.length - j = 0 by omega, List.replicate_zero] at S9
        have hrow := S9.row
        rw [List.append_nil] at hrow
        have hec := HEC.out
        rw [List.take_of_length_le (by omega)] at hec
        have hnl : nk.length = l.length := by have := HNK.out; omega
        have hk2 : ∀ u ∈ nk, u.f.k = 2 := fun u hu => by
          obtain ⟨z, -, hz⟩ := hec.mem (er u) (List.mem_map_of_mem hu)
          rw [← er_k]
          exact hz.k.1
        have hszs : szs nk = nk.length := by
          have : ∀ m : List Tr, (∀ u ∈ m, u ∈ nk) → szs m = m.length := by
            intro m
            induction m with
            | nil => intro _; rw [szs_nil]; rfl
            | cons u m ih =>
              intro h
              obtain ⟨z, -, hz⟩ := hec.mem (er u) (List.mem_map_of_mem (h u (List.mem_cons_self ..)))
              have h1 : u.sz = 1 := by rw [← er_sz, esz_eq, hz.k.2, eszs_nil]
              rw [szs_cons, h1, ih (fun v hv => h v (List.mem_cons_of_mem _ hv)), List.length_cons]
              omega
          exact this nk (fun _ h => h)
        have CT := cat_c (hrow.arg (Nat.le_refl nk.length) (by rw [hnl]; exact hmx)) (fun u hu => (S9.new u hu).1) (by rw [hszs, hnl]; omega)
        rw [flat_sets hk2, hnl] at CT
        have HCT := hide CT
        have HRES := hide S9.res
        have HBEL := hide S9.bel
        have HEC9 := hide hec
        have LZ := lt_of_heap S9.res
        clear CT S9 hrow hec hnl hk2 hszs hje HS HEC HNK
        go_upto_region 11 with (go_at_call 16; (with_reducible refine (HCT.out).mono ?_); rintro e w9 ⟨t9, rfl, h91, h92, h93, h94⟩; have R9 : w9.heap[bz]? = some (.cells #[.int .i64 0, .int .i64 0, .int .i64 0, .int .i64 0, .slice none 0 0, .slice none 0 0] 25 (0, 0)) := (h94.block _ LZ).trans HRES.out; have r0 := cell_row R9 (i := 0) rfl; have r1 := cell_row R9 (i := 1) rfl; have r2 := cell_row R9 (i := 2) rfl; have r3 := cell_row R9 (i := 3) rfl; have r4 := cell_row R9 (i := 4) rfl; have r5 := cell_row R9 (i := 5) rfl; have fz := fun z => frz_row R9 z; have L9 := hide (laid_res h91 (h92.mono (fun k hk => Nat.lt_of_lt_of_le LZ hk)) R9); have X9 := hide L9.out.1; have P9 := hide L9.out.2.2; unfold put6 at X9 P9; have Q9 := hide (⟨h93, chain HBEL.out h94 (Nat.le_refl _)⟩ : er t9 = _ ∧ Below w.heap.size w w9); clear h91 h92 h93 h94)
        refine ret_lit X9.out rfl rfl rfl (.inr ⟨HX.out, t9, nk.map er, rfl, L9.out.2.1, Q9.out.1, by rw [HL.out]; exact HEC9.out, chainF Q9.out.2 P9.out (Nat.le_refl _) (fun k e => by omega)⟩)
  · have e0 : (x != 0) = true := by simpa using hx0
    have r0 := cell_row Z5.out (i := 0) rfl
    have r1 := cell_row Z5.out (i := 1) rfl
    have r2 := cell_row Z5.out (i := 2) rfl
    have r3 := cell_row Z5.out (i := 3) rfl
    have r4 := cell_row Z5.out (i := 4) rfl
    have r5 := cell_row Z5.out (i := 5) rfl
    have fz := fun z => frz_row Z5.out z
    have L9 := hide (laid_res (bare_ta w5 0) (bare_foot (fun i => bz < i) 0) Z5.out)
    have X9 := hide L9.out.1
    have P9 := hide L9.out.2.2
    unfold put6 at X9 P9
    have HX0 := hide hx0
    clear hx0
    go_wp2
    refine ret_lit (f := bare 0) X9.out rfl rfl rfl (.inl ⟨by rw [HX.out]; exact HX0.out, by rw [HX.out]; rfl, chainF B6.out P9.out (Nat.le_refl _) (fun k e => by omega)⟩)
end Go.Proofs.Ytlodjinejeajcaa
namespace Go.Proofs.Ytlodjinejeajcaa
open Go Go.RowKit

/-- A node's lists with their marks. -/
def SentP (N : Nat → Prop) (W : World) (v : Tr) : Prop := ∃ X g, v.f.rq = some ⟨X, 0, none⟩ ∧ v.f.rc = v.f.rs.length + 1 ∧ v.f.kq = some ⟨g, 0, none⟩ ∧ v.f.kc = v.ks.length + 1 ∧ XAt W X v.f.rs ∧ N X ∧ N g ∧ W.cell? ⟨g, v.ks.length * 6, none⟩ = some (.int .i64 (-7))
def Sent (N : Nat → Prop) (W : World) (t : Tr) : Prop := Every (SentP N W) t
theorem Sent.ck {N : Nat → Prop} {W W' : World} {t : Tr} (h : Sent N W t) (hc : CKeep N W W') : Sent N W' t :=
  every_imp (fun v q => by
    obtain ⟨X, g, h1, h2, h3, h4, h5, h6, h7, h8⟩ := q
    exact ⟨X, g, h1, h2, h3, h4, hc.same _ _ _ _ h6 h5, h6, h7, cell_ck hc (p := ⟨g, v.ks.length * 6, none⟩) h7 h8⟩) t h
theorem Sent.mono {N M : Nat → Prop} {W : World} {t : Tr} (h : Sent N W t) (hm : ∀ k, N k → M k) : Sent M W t :=
  every_imp (fun v q => by
    obtain ⟨X, g, h1, h2, h3, h4, h5, h6, h7, h8⟩ := q
    exact ⟨X, g, h1, h2, h3, h4, h5, hm _ h6, hm _ h7, h8⟩) t h
theorem Sent.foot {N : Nat → Prop} {W : World} {t : Tr} (h : Sent N W t) : Foot N t :=
  every_imp (fun v q => by
    obtain ⟨X, g, h1, h2, h3, h4, h5, h6, h7, h8⟩ := q
    exact ⟨fun a e _ => by rw [h1] at e; injection e with e; subst e; exact h6, fun a e _ => by rw [h3] at e; injection e with e; subst e; exact h7⟩) t h
theorem Sent.lt {N : Nat → Prop} {W : World} {t : Tr} (h : Sent N W t) : Sent (fun k => k < W.heap.size ∧ N k) W t :=
  every_imp (fun v q => by
    obtain ⟨X, g, h1, h2, h3, h4, h5, h6, h7, h8⟩ := q
    refine ⟨X, g, h1, h2, h3, h4, h5, ⟨lt_of_heap h5, h6⟩, ⟨?_, h7⟩, h8⟩
    rcases Nat.lt_or_ge g W.heap.size with k | k
    · exact k
    · have : W.heap[g]? = none := Array.getElem?_eq_none k
      simp [World.cell?, this] at h8) t h
theorem Sent.kept {N : Nat → Prop} {W W' : World} {t : Tr} (h : Sent N W t) (hb : Below W.heap.size W W') : Sent N W' t :=
  (h.lt.ck ⟨hb.size, fun k _ _ _ _ hc => (hb.block k (lt_of_heap hc)).trans hc⟩).mono (fun _ z => z.2)
def sT : Tr := .mk (bare (-7)) []
/-- How copied's loop stands. -/
structure CqS (w : World) (b bz X g : Nat) (f : Fl) (rs : List (Int × Int)) (nk old : List Tr) (W : World) : Prop where
  box : BoxN W b f
  res : W.heap[bz]? = some (.cells #[.int .i64 0, .int .i64 0, .int .i64 0, .int .i64 0, .slice none 0 0, .slice none 0 0] 25 (0, 0))
  xat : XAt W X rs
  bel : Below w.heap.size w W
  row : KR W g (nk ++ old)
  new : ∀ u ∈ nk, TA W u ∧ Sent (fun k => g < k) W u
theorem CqS.kept {w W W' : World} {b bz X g : Nat} {f : Fl} {rs : List (Int × Int)} {nk old : List Tr} (h : CqS w b bz X g f rs nk old W) (hb : Below W.heap.size W W') : CqS w b bz X g f rs nk old W' :=
  ⟨(hb.block _ (lt_of_heap h.box)).trans h.box, (hb.block _ (lt_of_heap h.res)).trans h.res, h.xat.kept hb, chain h.bel hb (Nat.le_refl _), h.row.kept hb, fun u hu => ⟨(h.new u hu).1.kept hb, (h.new u hu).2.kept hb⟩⟩
theorem CqS.put {w W : World} {b bz X g j : Nat} {f : Fl} {rs : List (Int × Int)} {nk old : List Tr} {t : Tr} (h : CqS w b bz X g f rs nk old W) (hj : nk.length = j) (ho : old ≠ []) (hb : b ≠ g) (hz : bz ≠ g) (hwg : w.heap.size ≤ g) :
    KR (put6 W g (j * 6) t.f) g (nk ++ t :: old.tail) ∧ CqS w b bz X g f rs [] [] (put6 W g (j * 6) t.f) ∧ CKeep (fun k => g < k) W (put6 W g (j * 6) t.f) ∧ ∀ u ∈ nk, TA (put6 W g (j * 6) t.f) u ∧ Sent (fun k => g < k) (put6 W g (j * 6) t.f) u := by
  have F := put6_fr W g (j * 6) t.f
  have hl : j < (nk ++ old).length := by
    rw [List.length_append]
    cases old with
    | nil => exact absurd rfl ho
    | cons x r => simp; omega
  obtain ⟨cur, hcur⟩ := h.row.blk
  have K : CKeep (fun k => g < k) W (put6 W g (j * 6) t.f) := F.ckeep (fun k e z => by omega)
  have hr : KR (put6 W g (j * 6) t.f) g (nk ++ t :: old.tail) := by
    have := h.row.set hl t
    cases old with
    | nil => exact absurd rfl ho
    | cons x r =>
      rw [List.set_append_right _ _ (by omega), hj, Nat.sub_self, List.set_cons_zero] at this
      exact this
  obtain ⟨cur2, hcur2⟩ := hr.blk
  refine ⟨hr, ⟨(F.block _ (lt_of_heap h.box) hb).trans h.box, (F.block _ (lt_of_heap h.res) hz).trans h.res, (F.block _ (lt_of_heap h.xat) (fun e => ?_)).trans h.xat, chainF h.bel F (Nat.le_refl _) (fun k e => by omega), ⟨⟨cur2, hcur2⟩, fun i u hu => by simp at hu⟩, fun u hu => by cases hu⟩, K, fun u hu => ⟨(h.new u hu).1.ckN (h.new u hu).2.foot K, (h.new u hu).2.ck K⟩⟩
  subst e
  have := h.xat
  unfold XAt at this
  rw [hcur] at this
  cases this
theorem CqS.next {w W : World} {b bz X g j : Nat} {f : Fl} {rs : List (Int × Int)} {nk old : List Tr} {t : Tr} (h : CqS w b bz X g f rs nk old W) (hj : nk.length = j) (ho : old ≠ []) (hb : b ≠ g) (hz : bz ≠ g) (hwg : w.heap.size ≤ g) (ht : TA W t) (hf : Sent (fun k => g < k) W t) :
    CqS w b bz X g f rs (nk ++ [t]) old.tail (put6 W g (j * 6) t.f) := by
  obtain ⟨hr, hs, K, hn⟩ := h.put (t := t) hj ho hb hz hwg
  refine ⟨hs.box, hs.res, hs.xat, hs.bel, by rw [List.append_assoc]; exact hr, fun u hu => ?_⟩
  rcases List.mem_append.1 hu with q | q
  · exact hn u q
  · rw [List.mem_singleton] at q
    subst q
    exact ⟨ht.ckN hf.foot K, hf.ck K⟩
/-- The mark behind the Kids. -/
theorem CqS.mark {w W : World} {b bz X g j : Nat} {f : Fl} {rs : List (Int × Int)} {nk : List Tr} {o : Tr} (h : CqS w b bz X g f rs nk [o] W) (hj : nk.length = j) (hb : b ≠ g) (hz : bz ≠ g) (hwg : w.heap.size ≤ g) :
    CqS w b bz X g f rs nk [sT] (put6 W g (j * 6) sT.f) := by
  obtain ⟨hr, hs, K, hn⟩ := h.put (t := sT) hj (by simp) hb hz hwg
  exact ⟨hs.box, hs.res, hs.xat, hs.bel, hr, hn⟩
/-- A write into the node's own box. -/
theorem CqS.box4 {w W : World} {b bz X g : Nat} {f : Fl} {rs : List (Int × Int)} {nk old : List Tr} (h : CqS w b bz X g f rs nk old W) (hb : b ≠ bz ∧ b ≠ X ∧ b ≠ g) (hw : w.heap.size ≤ b) (hbg : b ≤ g) (j : Nat) (v : Value) {f' : Fl} (hf : BoxN (W.setCell ⟨b, j, none⟩ v) b f') : CqS w b bz X g f' rs nk old (W.setCell ⟨b, j, none⟩ v) := by
  have F := (Fr.refl (fun z => z = b) W).setCell (p := ⟨b, j, none⟩) rfl v
  have K : CKeep (fun k => k ≠ b) W (W.setCell ⟨b, j, none⟩ v) := ⟨F.size, fun k _ _ _ hk hc => (F.block k (lt_of_heap hc) hk).trans hc⟩
  refine ⟨hf, (F.block _ (lt_of_heap h.res) (fun e => hb.1 e.symm)).trans h.res, (F.block _ (lt_of_heap h.xat) (fun e => hb.2.1 e.symm)).trans h.xat, chainF h.bel F (Nat.le_refl _) (fun k e => by omega), h.row.ck K (fun e => hb.2.2 e.symm), fun u hu => ?_⟩
  have hs := (h.new u hu).2
  exact ⟨(h.new u hu).1.ckN (hs.foot.mono (fun k hk => by omega)) K, ((hs.mono (fun k hk => (⟨hk, by omega⟩ : g < k ∧ k ≠ b))).ck ⟨F.size, fun k cur ty fr hk hc => K.same k cur ty fr hk.2 hc⟩).mono (fun _ z => z.1)⟩
/-- All Kids have been copied. -/
theorem CqS.tree {w W : World} {b bz X g : Nat} {f : Fl} {rs : List (Int × Int)} {nk : List Tr} (h : CqS w b bz X g f rs nk [sT] W) (k n mn mx : Int) (hwX : w.heap.size ≤ X) (hwg : w.heap.size ≤ g) (hF : Fit rs) (hn : rs.length + 3 ≤ 8796093022208) (hm : nk.length ≤ 1000000) :
    TA W (.mk ⟨k, n, mn, mx, rs, some ⟨X, 0, none⟩, rs.length + 1, some ⟨g, 0, none⟩, nk.length, nk.length + 1⟩ nk) ∧ Sent (fun i => w.heap.size ≤ i) W (.mk ⟨k, n, mn, mx, rs, some ⟨X, 0, none⟩, rs.length + 1, some ⟨g, 0, none⟩, nk.length, nk.length + 1⟩ nk) := by
  refine ⟨(every_eq _).2 ⟨⟨h.xat.arg (by unfold maxLen; omega), .inr ⟨g, 0, nk.length + 1, rfl, h.row.lt, Nat.le_succ _, by unfold maxLen; show nk.length + 1 ≤ _; omega, fun i u hu => ?_⟩, hF, hn⟩, (everyL_iff _).2 fun u hu => (h.new u hu).1⟩, (every_eq _).2 ⟨⟨X, g, rfl, rfl, rfl, rfl, h.xat, hwX, hwg, ?_⟩, (everyL_iff _).2 fun u hu => (h.new u hu).2.mono (fun k hk => by omega)⟩⟩
  · have hu' : nk[i]? = some u := hu
    rw [Nat.zero_add]
    exact h.row.six i u (by rw [List.getElem?_append_left (List.getElem?_eq_some_iff.1 hu').1]; exact hu')
  · exact (h.row.six nk.length sT (by rw [List.getElem?_append_right (Nat.le_refl _), Nat.sub_self]; rfl)).1
end Go.Proofs.Ytlodjinejeajcaa
namespace Go.Proofs.Ytlodjinejeajcaa
open Go Go.RowKit

theorem ret_cpd {R : Ending → World → Prop} {a : Act} {W : World} {b : Nat} {f : Fl} (h : Six W b 0 f) (ha : a.tmps[2]?.getD undef = .pointer (some ⟨b, 0, none⟩)) (hd : a.defers = []) (hR : R (.returned (.agg #[.int .i64 f.k, .int .i64 f.n, .int .i64 f.mn, .int .i64 f.mx, .slice f.rq f.rs.length f.rc, .slice f.kq f.kl f.kc])) W) : bodyPost Try.prog Try.f39 R .ret a W := by
  obtain ⟨z0, z1, z2, z3, z4, z5⟩ := h
  simp only [Nat.zero_add] at z1 z2 z3 z4 z5
  refine bodyPost_ret (v := .agg #[.int .i64 f.k, .int .i64 f.n, .int .i64 f.mn, .int .i64 f.mx, .slice f.rq f.rs.length f.rc, .slice f.kq f.kl f.kc]) ?_ hd hR
  simp [results, Try.results39, go_sem, ha, z0, z1, z2, z3, z4, z5]
/-- What copied makes. -/
def Cpd (w : World) (x : Er) (e : Ending) (w' : World) : Prop := ∃ t', e = .returned (.agg #[.int .i64 t'.f.k, .int .i64 t'.f.n, .int .i64 t'.f.mn, .int .i64 t'.f.mx, .slice t'.f.rq t'.f.rs.length t'.f.rc, .slice t'.f.kq t'.f.kl t'.f.kc]) ∧ TA w' t' ∧ Sent (fun k => w.heap.size ≤ k) w' t' ∧ er t' = x ∧ Below w.heap.size w w'
set_option maxRecDepth 100000 in
set_option maxHeartbeats 8000000 in
theorem cpd_m : ∀ (m : Nat) (t : Tr) (w : World), t.sz ≤ m → t.sz ≤ 1000000 → TA w t → Calls Try.prog 39 #[.agg #[.int .i64 t.f.k, .int .i64 t.f.n, .int .i64 t.f.mn, .int .i64 t.f.mx, .slice t.f.rq t.f.rs.length t.f.rc, .slice t.f.kq t.f.kl t.f.kc]] w (Cpd w (er t)) := by
  intro m
  induction m with
  | zero => intro t w hm; exact absurd (sz_pos t) (by omega)
  | succ m ih =>
    intro t w hm hsz hta
    have IH := hide ih
    have HM := hide hm
    have HTA := hide hta
    have hkl := hta.node.kl
    have hkn : t.ks.length ≤ 1000000 := by have := len_szs t.ks; rw [sz_eq] at hsz; omega
    have hln := hta.node.len
    have B0 : Hid (Below w.heap.size w ((w.alloc (.cells #[.int .i64 t.f.k, .int .i64 t.f.n, .int .i64 t.f.mn, .int .i64 t.f.mx, .slice t.f.rq t.f.rs.length t.f.rc, .slice t.f.kq t.f.kl t.f.kc] 25)).alloc (.cells #[.int .i64 0, .int .i64 0, .int .i64 0, .int .i64 0, .slice none 0 0, .slice none 0 0] 25))) := ((Below.refl _ _).alloc (Nat.le_refl _) _).alloc (by simp) _
    have N0 : Hid (BoxN ((w.alloc (.cells #[.int .i64 t.f.k, .int .i64 t.f.n, .int .i64 t.f.mn, .int .i64 t.f.mx, .slice t.f.rq t.f.rs.length t.f.rc, .slice t.f.kq t.f.kl t.f.kc] 25)).alloc (.cells #[.int .i64 0, .int .i64 0, .int .i64 0, .int .i64 0, .slice none 0 0, .slice none 0 0] 25)) w.heap.size t.f) := (Below.heap_alloc _ _ _ (by simp)).trans (alloc_new w _)
    have R0 : Hid (((w.alloc (.cells #[.int .i64 t.f.k, .int .i64 t.f.n, .int .i64 t.f.mn, .int .i64 t.f.mx, .slice t.f.rq t.f.rs.length t.f.rc, .slice t.f.kq t.f.kl t.f.kc] 25)).alloc (.cells #[.int .i64 0, .int .i64 0, .int .i64 0, .int .i64 0, .slice none 0 0, .slice none 0 0] 25)).heap[w.heap.size + 1]? = some (.cells #[.int .i64 0, .int .i64 0, .int .i64 0, .int .i64 0, .slice none 0 0, .slice none 0 0] 25 (0, 0))) := (by
      have := alloc_new (w.alloc (.cells #[.int .i64 t.f.k, .int .i64 t.f.n, .int .i64 t.f.mn, .int .i64 t.f.mx, .slice t.f.rq t.f.rs.length t.f.rc, .slice t.f.kq t.f.kl t.f.kc] 25)) (.cells #[.int .i64 0, .int .i64 0, .int .i64 0, .int .i64 0, .slice none 0 0, .slice none 0 0] 25)
      rwa [World.size_alloc] at this)
    obtain ⟨tf, tks⟩ := t
    obtain ⟨fk, fn, fmn, fmx, L, q, cap, fkq, fkl, fkc⟩ := tf
    have hkl' : fkl = tks.length := hkl
    subst hkl'
    have hkn' : tks.length ≤ 1000000 := hkn
    have hln' : L.length + 3 ≤ 8796093022208 := hln
    obtain ⟨kq, kcap, hkv, hk1, hk2, hk3⟩ := HTA.out.node.k.slice
    have hkv' : Value.slice fkq tks.length fkc = .slice kq tks.length kcap := hkv
    injection hkv' with e1 _ e3
    subst e1 e3
    have HX := hide hk3
    dsimp only [Tr.f] at N0 B0 R0 ⊢
    clear ih hm hta hkl hkn hln hkv hk1 hk2 hk3
    have m0 := make_ranges (L.length + 1) (by omega)
    have hnew : ∀ W : World, (W.alloc (.cells (madeCells #[.int .i64 0, .int .i64 0] ((L.length + 1) * 2)) 72)).heap[W.heap.size]? = some (.cells (madeCells #[.int .i64 0, .int .i64 0] ((L.length + 1) * 2)) 72 (0, 0)) := fun W => alloc_new W _
    obtain ⟨Z, hZ⟩ : ∃ Z, Z = (madeCells #[.int .i64 0, .int .i64 0] ((L.length + 1) * 2)).toList.drop (cellsR L).length := ⟨_, rfl⟩
    have HZ : Hid (Z.length = 2 ∧ (madeCells #[.int .i64 0, .int .i64 0] ((L.length + 1) * 2)).toList.drop (cellsR L).length = Z ∧ (cellsR L).length ≤ (madeCells #[.int .i64 0, .int .i64 0] ((L.length + 1) * 2)).size) := ⟨by rw [hZ, List.length_drop, Array.length_toList, size_madeCells, cellsR_length]; omega, hZ.symm, by rw [size_madeCells, cellsR_length]; omega⟩
    have HN : Hid _ := hnew
    have wn : IntKind.wrap .i64 ((L.length : Int) + 1) = (L.length : Int) + 1 := by rw [IntKind.wrap_i64]; omega
    have m1 : ∀ W : World, (Instr.makeSlice 22 (.int .i64 ((L.length : Int) + 1)) (.int .i64 ((L.length : Int) + 1))).run Try.prog W = _ := m0
    clear hZ hnew m0
    generalize madeCells #[.int .i64 0, .int .i64 0] ((L.length + 1) * 2) = M at m1 HZ HN
    have i0 : (0 : Int) ≤ (L.length : Int) := by omega
    have i1 : (L.length : Int) < (L.length : Int) + 1 := by omega
    go_enter Try.func39, Try.ntmps39
    go_upto_region 1 with fail
    generalize ((w.alloc (.cells #[.int .i64 fk, .int .i64 fn, .int .i64 fmn, .int .i64 fmx, .slice q L.length cap, .slice fkq tks.length fkc] 25)).alloc (.cells #[.int .i64 0, .int .i64 0, .int .i64 0, .int .i64 0, .slice none 0 0, .slice none 0 0] 25)) = W0 at B0 N0 R0 ⊢
    obtain ⟨bz, hbz⟩ : ∃ bz, w.heap.size + 1 = bz := ⟨_, rfl⟩
    rw [hbz] at R0 ⊢
    have LZ := lt_of_heap R0.out
    have LB := lt_of_heap N0.out
    have hwz : w.heap.size < bz := by omega
    obtain ⟨c0, c1, c2, c3, c4, c5⟩ := N0.out.six
    simp only [Nat.zero_add] at c1 c2 c3 c4 c5
    have A0 : Hid (ArgR W0 (.slice q L.length cap) L) := (HTA.out.kept B0.out).node.r
    have K1 : Hid (Below W0.heap.size W0 (W0.alloc (.cells M 72))) := (Below.refl _ _).alloc (Nat.le_refl _) _
    clear hbz
    go_upto_region 3 with (refine wpList_copy_two rfl _ _ 22 22 rfl 72 und_ranges size_two W0.heap.size (L.length + 1) (L.length + 1) q L.length cap rfl rfl _ _ (HN.out W0) (cellsR L) (cellsR_length L) (by omega) (A0.out.kept K1.out).src HZ.out.2.2 (cellsR_one L) ?_; rw [HZ.out.2.1]; intro w4 hg4 hb4; have V4 : Hid (Below W0.heap.size W0 w4) := K1.out.trans hb4; have G4 : Hid (w4.heap[W0.heap.size]? = some (.cells (cellsR L ++ Z).toArray 72 (0, 0))) := hg4; clear hg4 hb4)
    obtain ⟨⟨y1, x1⟩, ⟨y2, x2⟩, f4⟩ := made_cells G4.out HZ.out.1
    have N4 := hide ((V4.out.block _ (lt_of_heap N0.out)).trans N0.out)
    have d4 : w4.cell? ⟨w.heap.size, 4, none⟩ = some (.slice q L.length cap) := (show BoxN w4 w.heap.size ⟨fk, fn, fmn, fmx, L, q, cap, fkq, tks.length, fkc⟩ from N4.out).six.2.2.2.2.1
    clear c0 c1 c2 c3 c4 c5
    go_upto_region 4 with fail
    have X5 := hide (made_mark G4.out HZ.out.1)
    have B5 : Hid (Below W0.heap.size W0 ((w4.setCell ⟨W0.heap.size, L.length * 2, none⟩ (.int .i64 (-7))).setCell ⟨W0.heap.size, L.length * 2 + 1, none⟩ (.int .i64 7))) := (V4.out.setCell (p := ⟨W0.heap.size, L.length * 2, none⟩) (Nat.le_refl _) _).setCell (p := ⟨W0.heap.size, L.length * 2 + 1, none⟩) (Nat.le_refl _) _
    generalize ((w4.setCell ⟨W0.heap.size, L.length * 2, none⟩ (.int .i64 (-7))).setCell ⟨W0.heap.size, L.length * 2 + 1, none⟩ (.int .i64 7)) = W5 at X5 B5 ⊢
    have N5 := hide ((B5.out.block _ (lt_of_heap N0.out)).trans N0.out)
    have R5 := hide ((B5.out.block _ (lt_of_heap R0.out)).trans R0.out)
    have B6 : Hid (Below w.heap.size w W5) := chain B0.out B5.out (Nat.le_refl _)
    have d5 : W5.cell? ⟨w.heap.size, 5, none⟩ = some (.slice fkq tks.length fkc) := (show BoxN W5 w.heap.size ⟨fk, fn, fmn, fmx, L, q, cap, fkq, tks.length, fkc⟩ from N5.out).six.2.2.2.2.2
    obtain ⟨X, hX⟩ : ∃ X, W0.heap.size = X := ⟨_, rfl⟩
    rw [hX] at X5 LZ LB ⊢
    clear hX d4 x1 x2 f4 N4 G4 V4 K1 B5 A0 N0 R0 HZ HN m1 wn
    obtain ⟨t0, hi, hz0, hzz1, hzz2⟩ := info_parts size_node
    have hmx : tks.length + 1 ≤ maxLen := by unfold maxLen; omega
    have wn : IntKind.wrap .i64 ((tks.length : Int) + 1) = (tks.length : Int) + 1 := by rw [IntKind.wrap_i64]; omega
    go_upto_region 6 with (at_make; refine wpList_make_full _ rfl _ _ 23 rfl w.heap.size 25 t0 (.agg #[.int .i64 0, .int .i64 0, .int .i64 0, .int .i64 0, .slice none 0 0, .slice none 0 0]) 6 und_nodes hi hz0 hzz1 .i64 .i64 ((tks.length : Int) + 1) ((tks.length : Int) + 1) (tks.length + 1) rfl rfl (by omega) (by omega) (by rw [hzz2]; omega) hmx B6.out.size ?_; intro w7 hown7 hg7; rw [made_nodes] at hown7; have O7 := hide hown7; have B7 : Hid (Below W5.heap.size W5 w7) := ⟨hg7.os, hg7.tape, hg7.output, hg7.size, fun k hk => hg7.block k hk (fun e => by cases e)⟩; clear hown7 hg7)
    have KR7 := hide (KR.of_row O7.out)
    have LX := lt_of_heap X5.out
    obtain ⟨g, hg⟩ : ∃ g, W5.heap.size = g := ⟨_, rfl⟩
    rw [hg] at KR7 LX ⊢
    have C7 : Hid (CqS w w.heap.size bz X g ⟨fk, fn, fmn, fmx, L, q, cap, fkq, tks.length, fkc⟩ L [] (List.replicate (tks.length + 1) zT) w7) := ⟨(B7.out.block _ (lt_of_heap N5.out)).trans N5.out, (B7.out.block _ (lt_of_heap R5.out)).trans R5.out, X5.out.kept B7.out, chain B6.out B7.out (Nat.le_refl _), KR7.out, fun u hu => by cases hu⟩
    have hbg : w.heap.size < g := by omega
    have hzg : bz < g := by omega
    have hxz : bz < X := by omega
    clear N5 R5 X5 B6 B7 O7 KR7 d5 hg t0 hi hz0 hzz1 hzz2 B0
    go_loopw [5] (fun i wr => ∃ (j : Nat) (nk : List Tr), j ≤ tks.length ∧ i = .int .i64 (j : Int) ∧ nk.length = j ∧ nk.map er = (tks.take j).map er ∧ CqS w w.heap.size bz X g ⟨fk, fn, fmn, fmx, L, q, cap, fkq, tks.length, fkc⟩ L nk (List.replicate (tks.length + 1 - j) zT) wr) (fun i _ => tks.length - (intOf i).toNat)
    case atStart => exact ⟨0, [], Nat.zero_le _, rfl, rfl, rfl, C7.out⟩
    case round =>
      clear C7
      obtain ⟨j, nk, hj, rfl, hnk, hmap, hcs⟩ := hrel
      have HS := hide hcs
      have HMP := hide hmap
      have HNK := hide hnk
      have n5 : wr.cell? ⟨w.heap.size, 5, none⟩ = some (.slice fkq tks.length fkc) := hcs.box.six.2.2.2.2.2
      clear hcs hmap hnk
      by_cases hjl : j < tks.length
      · have j0 : (j : Int) < (tks.length : Int) := by omega
        have j1 : (j : Int) < (tks.length : Int) + 1 := by omega
        obtain ⟨u, hu⟩ : ∃ u, tks[j]? = some u := ⟨_, List.getElem?_eq_getElem hjl⟩
        obtain ⟨g2, off, hq2, hg2, hsix⟩ := HX.out j u hu
        subst hq2
        have hin : u ∈ tks := List.mem_of_getElem? hu
        have hin' : u ∈ (Tr.mk ⟨fk, fn, fmn, fmx, L, q, cap, some ⟨g2, off, none⟩, tks.length, fkc⟩ tks).ks := hin
        obtain ⟨k0, k1, k2, k3, k4, k5⟩ := hsix.ck (CK.of_below HS.out.bel) hg2
        have hrp : List.replicate (tks.length + 1 - j) zT = zT :: List.replicate (tks.length + 1 - (j + 1)) zT := by rw [show tks.length + 1 - j = (tks.length + 1 - (j + 1)) + 1 by omega, List.replicate_succ]
        have HRP := hide hrp
        have hug := HS.out.row.lt
        have IH0 := IH.out u wr (by have := sz_kid hin'; have := HM.out; omega) (by have := sz_kid hin'; omega) ((HTA.out.kid hin').kept HS.out.bel)
        have CU : Hid (Calls Try.prog 39 #[.agg #[.int .i64 u.f.k, .int .i64 u.f.n, .int .i64 u.f.mn, .int .i64 u.f.mx, .slice u.f.rq u.f.rs.length u.f.rc, .slice u.f.kq u.f.kl u.f.kc]] wr fun e w5 => ∃ t5 : Tr, e = .returned (.agg #[.int .i64 t5.f.k, .int .i64 t5.f.n, .int .i64 t5.f.mn, .int .i64 t5.f.mx, .slice t5.f.rq t5.f.rs.length t5.f.rc, .slice t5.f.kq t5.f.kl t5.f.kc]) ∧ CqS w w.heap.size bz X g ⟨fk, fn, fmn, fmx, L, q, cap, some ⟨g2, off, none⟩, tks.length, fkc⟩ L nk (List.replicate (tks.length + 1 - j) zT) w5 ∧ Six w5 g (j * 6) zT.f ∧ CqS w w.heap.size bz X g ⟨fk, fn, fmn, fmx, L, q, cap, some ⟨g2, off, none⟩, tks.length, fkc⟩ L (nk ++ [t5]) (List.replicate (tks.length + 1 - (j + 1)) zT) (put6 w5 g (j * 6) t5.f) ∧ er t5 = er u) := IH0.mono fun e w5 ⟨t5, h50, h51, h52, h53, h54⟩ => (by
          have S5 := HS.out.kept h54
          have S6 := S5.next (t := t5) (j := j) HNK.out (by rw [HRP.out]; simp) (by omega) (by omega) (by omega) h51 (h52.mono (fun k hk => Nat.lt_of_lt_of_le hug hk))
          rw [HRP.out] at S6
          refine ⟨t5, h50, S5, S5.row.six j zT (by rw [HRP.out, List.getElem?_append_right (by have := HNK.out; omega), HNK.out, Nat.sub_self]; rfl), S6, h53⟩)
        have HU := hide hu
        clear hu hin hin' hsix hg2 hrp hug IH0
        go_wp2_with (go_at_call 39; (with_reducible refine (CU.out).mono ?_); rintro e w5 ⟨t5, rfl, h51, h52, h53, h54⟩; obtain ⟨y0, y1, y2, y3, y4, y5⟩ := h52; have S5 := hide h51; have fz := fun z => S5.out.row.frz z; unfold put6 at h53; have S6 := hide h53; have E6 := hide h54; clear h51 h53 h54)
        have HMN := hide (show (nk ++ [t5]).map er = (tks.take (j + 1)).map er by rw [List.take_add_one, HU.out, List.map_append, List.map_append, HMP.out]; simp [E6.out])
        go_roundw
        case rel => exact ⟨j + 1, nk ++ [t5], by omega, by go_num, by rw [List.length_append, HNK.out]; rfl, HMN.out, S6.out⟩
        case measure => simp only [intOf]; omega
      · have j0 : ¬ (j : Int) < (tks.length : Int) := by omega
        have hje : j = tks.length := by omega
        have S9 := HS.out
        rw [hje, show tks.length + 1 - tks.length = 1 by omega] at S9
        have hmp := HMP.out
        rw [hje, List.take_of_length_le (Nat.le_refl _)] at hmp
        have hnl : nk.length = tks.length := by have := HNK.out; omega
        have s0 := S9.row.six tks.length zT (by rw [List.getElem?_append_right (by omega), hnl, Nat.sub_self]; rfl)
        obtain ⟨y0, y1, y2, y3, y4, y5⟩ := s0
        have fz := fun z => S9.row.frz z
        have S10 := S9.mark (j := tks.length) hnl (by omega) (by omega) (by omega)
        have e6 : put6 wr g (tks.length * 6) sT.f = ((((((wr.setCell ⟨g, tks.length * 6, none⟩ (.int .i64 (-7))).setCell ⟨g, tks.length * 6 + 1, none⟩ (.int .i64 0)).setCell ⟨g, tks.length * 6 + 2, none⟩ (.int .i64 0)).setCell ⟨g, tks.length * 6 + 3, none⟩ (.int .i64 0)).setCell ⟨g, tks.length * 6 + 4, none⟩ (.slice none 0 0)).setCell ⟨g, tks.length * 6 + 5, none⟩ (.slice none 0 0)) := rfl
        rw [e6] at S10
        have HS10 := hide S10
        have HMP9 := hide hmp
        have HNL := hide hnl
        have j1 : (tks.length : Int) < (tks.length : Int) + 1 := by omega
        clear S9 S10 hmp hnl hje HS e6
        go_upto_region 10 with fail
        generalize ((((((wr.setCell ⟨g, tks.length * 6, none⟩ (.int .i64 (-7))).setCell ⟨g, tks.length * 6 + 1, none⟩ (.int .i64 0)).setCell ⟨g, tks.length * 6 + 2, none⟩ (.int .i64 0)).setCell ⟨g, tks.length * 6 + 3, none⟩ (.int .i64 0)).setCell ⟨g, tks.length * 6 + 4, none⟩ (.slice none 0 0)).setCell ⟨g, tks.length * 6 + 5, none⟩ (.slice none 0 0)) = W10 at HS10 ⊢
        have BX := HS10.out.box
        have b4 : W10.cell? ⟨w.heap.size, 4, none⟩ = some (.slice q L.length cap) := BX.six.2.2.2.2.1
        have fb := fun z => frz_row BX z
        have BX2 : (W10.setCell ⟨w.heap.size, 4, none⟩ (.slice (some ⟨X, 0, none⟩) L.length (L.length + 1))).heap[w.heap.size]? = some (.cells #[.int .i64 fk, .int .i64 fn, .int .i64 fmn, .int .i64 fmx, .slice (some ⟨X, 0, none⟩) L.length (L.length + 1), .slice fkq tks.length fkc] 25 (0, 0)) := heap_set_in BX 4 _
        have HS11 := hide (HS10.out.box4 (f' := ⟨fk, fn, fmn, fmx, L, some ⟨X, 0, none⟩, L.length + 1, fkq, tks.length, fkc⟩) ⟨by omega, by omega, by omega⟩ (Nat.le_refl _) (by omega) 4 (.slice (some ⟨X, 0, none⟩) L.length (L.length + 1)) BX2)
        have jl : (L.length : Int) ≤ (L.length : Int) + 1 := by omega
        have jl0 : (0 : Int) ≤ (L.length : Int) := by omega
        clear n5 y0 y1 y2 y3 y4 y5 fz BX BX2
        go_upto_region 11 with fail
        generalize (W10.setCell ⟨w.heap.size, 4, none⟩ (.slice (some ⟨X, 0, none⟩) L.length (L.length + 1))) = W11 at HS11 ⊢
        have BX := HS11.out.box
        have b5 : W11.cell? ⟨w.heap.size, 5, none⟩ = some (.slice fkq tks.length fkc) := BX.six.2.2.2.2.2
        have fb2 := fun z => frz_row BX z
        have BX2 : (W11.setCell ⟨w.heap.size, 5, none⟩ (.slice (some ⟨g, 0, none⟩) tks.length (tks.length + 1))).heap[w.heap.size]? = some (.cells #[.int .i64 fk, .int .i64 fn, .int .i64 fmn, .int .i64 fmx, .slice (some ⟨X, 0, none⟩) L.length (L.length + 1), .slice (some ⟨g, 0, none⟩) tks.length (tks.length + 1)] 25 (0, 0)) := heap_set_in BX 5 _
        have HS12 := hide (HS11.out.box4 (f' := ⟨fk, fn, fmn, fmx, L, some ⟨X, 0, none⟩, L.length + 1, some ⟨g, 0, none⟩, tks.length, tks.length + 1⟩) ⟨by omega, by omega, by omega⟩ (Nat.le_refl _) (by omega) 5 (.slice (some ⟨g, 0, none⟩) tks.length (tks.length + 1)) BX2)
        have jk : (tks.length : Int) ≤ (tks.length : Int) + 1 := by omega
        have jk0 : (0 : Int) ≤ (tks.length : Int) := by omega
        clear b4 fb BX BX2 HS10
        go_upto_region 12 with fail
        generalize (W11.setCell ⟨w.heap.size, 5, none⟩ (.slice (some ⟨g, 0, none⟩) tks.length (tks.length + 1))) = W12 at HS12 ⊢
        obtain ⟨T12, S12⟩ := HS12.out.tree fk fn fmn fmx (by omega) (by omega) HTA.out.node.fit hln' (by have := HNL.out; omega)
        rw [HNL.out] at T12 S12
        obtain ⟨n0, n1, n2, n3, n4, n5⟩ := HS12.out.box.six
        simp only [Nat.zero_add] at n1 n2 n3 n4 n5
        have RS := HS12.out.res
        have r0 := cell_row RS (i := 0) rfl
        have r1 := cell_row RS (i := 1) rfl
        have r2 := cell_row RS (i := 2) rfl
        have r3 := cell_row RS (i := 3) rfl
        have r4 := cell_row RS (i := 4) rfl
        have r5 := cell_row RS (i := 5) rfl
        have rz := fun z => frz_row RS z
        have SF : Sent (fun i => bz < i) W12 (.mk ⟨fk, fn, fmn, fmx, L, some ⟨X, 0, none⟩, L.length + 1, some ⟨g, 0, none⟩, tks.length, tks.length + 1⟩ nk) := (every_eq _).2 ⟨by
          obtain ⟨X', g', h1, h2, h3, h4, h5, -, -, h8⟩ := ((every_eq _).1 S12).1
          have e1 : some (⟨X, 0, none⟩ : Addr) = some ⟨X', 0, none⟩ := h1
          have e2 : some (⟨g, 0, none⟩ : Addr) = some ⟨g', 0, none⟩ := h3
          injection e1 with e1
          injection e2 with e2
          injection e1 with e1
          injection e2 with e2
          subst e1 e2
          exact ⟨X, g, h1, h2, h3, h4, h5, hxz, hzg, h8⟩, (everyL_iff _).2 fun u hu => (HS12.out.new u hu).2.mono (fun k hk => by omega)⟩
        have L9 := hide (laid_res T12 SF.foot RS)
        have K9 := hide (SF.ck (L9.out.2.2.ckeep (fun k e z => by omega)))
        have X9 := hide L9.out.1
        have HS9 := hide S12
        have BL := hide HS12.out.bel
        unfold put6 at X9
        clear RS T12 S12 SF b5 fb2 HS11 HS12
        go_wp2
        refine ret_cpd X9.out rfl rfl ?_
        refine ⟨_, rfl, L9.out.2.1, ?_, ?_, chainF BL.out L9.out.2.2 (Nat.le_refl _) (fun k e => by omega)⟩
        · exact K9.out.mono (fun k hk => by omega)
        · rw [er_eq, er_eq]
          show Er.mk _ _ _ _ _ _ = Er.mk _ _ _ _ _ _
          show Er.mk fk fn fmn fmx L (nk.map er) = Er.mk fk fn fmn fmx L (tks.map er)
          rw [HMP9.out]
end Go.Proofs.Ytlodjinejeajcaa
