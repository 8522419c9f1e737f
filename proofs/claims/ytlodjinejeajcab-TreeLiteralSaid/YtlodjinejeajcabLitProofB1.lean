/-
  Literal: the tree of a text. The document's Cat of sets. What the document's units need. The document's own answer: Is, text.
-/
import Derived.Test.YtlodjinejeajcabLitProofB0
import Derived.Laws.IdiomStrings
import Derived.Laws.BytesArg
namespace Go.Proofs.Ytlodjinejeajcab
open Go Go.RowKit

theorem us_bd (s : ByteArray) : ∀ f p, ∀ u ∈ uFrom s f p, u.2 ≤ 1114111
  | 0, p, u, h => by simp [uFrom] at h
  | f + 1, p, u, h => by
    by_cases hp : p < s.size
    · rw [uFrom_more s f p hp] at h
      rcases List.mem_cons.1 h with rfl | h
      · show ch s p ≤ _
        by_cases hb : bad s p = true
        · rw [(ch_bad hb).1]; omega
        · rw [ch_good (by simpa using hb)]; have := dec_le s p; omega
      · exact us_bd s f _ u h
    · rw [uFrom_end s _ p hp] at h; cases h
theorem litL_bd (c : Bool) (s : ByteArray) : ∀ x ∈ litL c s, 0 ≤ x ∧ x ≤ 1114111 := by
  intro x hx
  unfold litL at hx
  cases c with
  | true =>
    simp only [if_true] at hx
    unfold dList at hx
    split at hx
    · rename_i hg
      obtain ⟨u, hu, rfl⟩ := List.mem_map.1 hx
      have h1 := List.all_eq_true.1 hg u hu
      exact ⟨by simpa using h1, us_bd s _ _ u hu⟩
    · cases hx
  | false =>
    simp only [Bool.false_eq_true, if_false, byL] at hx
    obtain ⟨b, -, rfl⟩ := List.mem_map.1 hx
    have := b.toNat_lt
    omega
theorem litL_len (c : Bool) (s : ByteArray) : (litL c s).length ≤ s.size := by
  unfold litL
  cases c with
  | true =>
    simp only [if_true]
    unfold dList
    split
    · rw [chs_len]; exact us_length s
    · exact Nat.zero_le _
  | false => simp [byL]
def zT : Tr := .mk (bare 0) []
theorem made_nodes (n : Nat) : (madeCells (Value.agg #[.int .i64 0, .int .i64 0, .int .i64 0, .int .i64 0, .slice none 0 0, .slice none 0 0]).cells (n * 6)).toList = cellsK (List.replicate n zT) := by
  refine List.ext_getElem (by simp [madeCells, cellsK_length]) fun i h1 h2 => ?_
  have hi : i < n * 6 := by simpa [madeCells] using h1
  have hc : (cellsK (List.replicate n zT))[i]? = zT.f.cells[i % 6]? := by
    have := cellsK_get (List.replicate n zT) (i / 6) (i % 6) zT (by rw [List.getElem?_replicate, if_pos (by omega)]) (Nat.mod_lt _ (by omega))
    rwa [show i / 6 * 6 + i % 6 = i by omega] at this
  have h3 : (cellsK (List.replicate n zT))[i]? = some ((cellsK (List.replicate n zT))[i]) := List.getElem?_eq_getElem h2
  rw [hc] at h3
  have h4 : i % 6 < 6 := Nat.mod_lt _ (by omega)
  have h5 : ((madeCells (Value.agg #[.int .i64 0, .int .i64 0, .int .i64 0, .int .i64 0, .slice none 0 0, .slice none 0 0]).cells (n * 6)).toList)[i] = #[.int .i64 0, .int .i64 0, .int .i64 0, .int .i64 0, .slice none 0 0, .slice none 0 0][i % 6]! := by
    simp [madeCells, Value.cells]
  rw [h5]
  generalize i % 6 = j at h3 h4
  match j, h4, h3 with
  | 0, _, h3 => injection h3
  | 1, _, h3 => injection h3
  | 2, _, h3 => injection h3
  | 3, _, h3 => injection h3
  | 4, _, h3 => injection h3
  | 5, _, h3 => injection h3
/-- How Literal's loop stands. -/
structure LtS (w : World) (bm bz g : Nat) (c f : Bool) (q : Option Addr) (k : Nat) (l : List Int) (nk old : List Tr) (W : World) : Prop where
  md : W.heap[bm]? = some (.cells #[.bool c, .bool f] 34 (0, 0))
  res : W.heap[bz]? = some (.cells #[.int .i64 0, .int .i64 0, .int .i64 0, .int .i64 0, .slice none 0 0, .slice none 0 0] 25 (0, 0))
  lst : W.ownsRow w.heap.size 3 1 (.slice q l.length k) l.length (ints l)
  bel : Below w.heap.size w W
  row : KR W g (nk ++ old)
  new : ∀ u ∈ nk, TA W u ∧ Foot (fun k => g < k) u
theorem LtS.kept {w W W' : World} {bm bz g k : Nat} {c f : Bool} {q : Option Addr} {l : List Int} {nk old : List Tr} (h : LtS w bm bz g c f q k l nk old W) (hb : Below W.heap.size W W') : LtS w bm bz g c f q k l nk old W' :=
  ⟨(hb.block _ (lt_of_heap h.md)).trans h.md, (hb.block _ (lt_of_heap h.res)).trans h.res, ownsRow_fr h.lst (Fr.of_below (S := fun _ => False) hb) (fun _ _ z => z), chain h.bel hb (Nat.le_refl _), h.row.kept hb, fun u hu => ⟨(h.new u hu).1.kept hb, (h.new u hu).2⟩⟩
theorem LtS.next {w W : World} {bm bz g k j : Nat} {c f : Bool} {q : Option Addr} {l : List Int} {nk old : List Tr} {t : Tr} (h : LtS w bm bz g c f q k l nk old W) (hj : nk.length = j) (ho : old ≠ []) (hz : bz ≠ g) (hwg : w.heap.size ≤ g) (ht : TA W t) (hf : Foot (fun k => g < k) t) :
    LtS w bm bz g c f q k l (nk ++ [t]) old.tail (put6 W g (j * 6) t.f) := by
  have F := put6_fr W g (j * 6) t.f
  have hl : j < (nk ++ old).length := by
    rw [List.length_append]
    cases old with
    | nil => exact absurd rfl ho
    | cons x r => simp; omega
  obtain ⟨cur, hcur⟩ := h.row.blk
  have K : CKeep (fun k => g < k) W (put6 W g (j * 6) t.f) := F.ckeep (fun k e z => by omega)
  refine ⟨(F.block _ (lt_of_heap h.md) (fun e => ?_)).trans h.md, (F.block _ (lt_of_heap h.res) hz).trans h.res, ownsRow_fr h.lst F (fun k hk e => ?_), chainF h.bel F (Nat.le_refl _) (fun k e => by omega), ?_, fun u hu => ?_⟩
  · subst e
    have := h.md
    rw [hcur] at this
    cases this
  · subst e
    exact ownsRow_not h.lst hcur (by decide) hk
  · have := h.row.set hl t
    cases old with
    | nil => exact absurd rfl ho
    | cons x r =>
      rw [List.set_append_right _ _ (by omega), hj, Nat.sub_self, List.set_cons_zero] at this
      rw [List.append_assoc]
      exact this
  · rcases List.mem_append.1 hu with q | q
    · exact ⟨(h.new u q).1.ckN (h.new u q).2 K, (h.new u q).2⟩
    · simp at q
      subst q
      exact ⟨ht.ckN hf K, hf⟩
/-- Sets of characters, one behind the other. -/
def ECs (f : Bool) : List Int → List Er → Prop
  | [], [] => True
  | c :: l, E :: L => EC f c E ∧ ECs f l L
  | _, _ => False
theorem ECs.snoc {f : Bool} : ∀ {l : List Int} {L : List Er} {c : Int} {E : Er}, ECs f l L → EC f c E → ECs f (l ++ [c]) (L ++ [E])
  | [], [], _, _, _, h => ⟨h, trivial⟩
  | [], _ :: _, _, _, h, _ => h.elim
  | _ :: _, [], _, _, h, _ => h.elim
  | _ :: _, _ :: _, _, _, h, k => ⟨h.1, h.2.snoc k⟩
theorem ECs.one {f : Bool} : ∀ {l : List Int} {L M : List Er}, ECs f l L → ECs f l M → L = M
  | [], [], [], _, _ => rfl
  | [], _ :: _, _, h, _ => h.elim
  | [], [], _ :: _, _, h => h.elim
  | _ :: _, [], _, h, _ => h.elim
  | _ :: _, _ :: _, [], _, h => h.elim
  | _ :: _, _ :: _, _ :: _, h, k => by rw [h.1.one k.1, h.2.one k.2]
theorem ECs.app {f : Bool} : ∀ {l m : List Int} {L M : List Er}, ECs f l L → ECs f m M → ECs f (l ++ m) (L ++ M)
  | [], _, [], _, _, h => h
  | [], _, _ :: _, _, h, _ => h.elim
  | _ :: _, _, [], _, h, _ => h.elim
  | _ :: _, _, _ :: _, _, h, k => ⟨h.1, h.2.app k⟩
theorem ECs.mem {f : Bool} : ∀ {l : List Int} {L : List Er}, ECs f l L → ∀ E ∈ L, ∃ c ∈ l, EC f c E
  | [], [], _, E, hE => by cases hE
  | [], _ :: _, h, _, _ => h.elim
  | _ :: _, [], h, _, _ => h.elim
  | c :: l, E :: L, h, F, hF => by
    rcases List.mem_cons.1 hF with rfl | hF
    · exact ⟨c, List.mem_cons_self, h.1⟩
    · obtain ⟨d, hd, hk⟩ := h.2.mem F hF
      exact ⟨d, List.mem_cons_of_mem _ hd, hk⟩
theorem ECs.len {f : Bool} : ∀ {l : List Int} {L : List Er}, ECs f l L → L.length = l.length
  | [], [], _ => rfl
  | [], _ :: _, h => h.elim
  | _ :: _, [], h => h.elim
  | _ :: _, _ :: _, h => by rw [List.length_cons, List.length_cons, h.2.len]
theorem EC.k {f : Bool} {c : Int} {E : Er} (h : EC f c E) : E.k = 2 ∧ E.ks = [] := by
  obtain ⟨C, rfl, -⟩ := h
  exact ⟨rfl, rfl⟩
/-- What Literal answers. -/
def LitIs (w : World) (c f : Bool) (s : ByteArray) (e : Ending) (w' : World) : Prop :=
  (litE c s ≠ 0 ∧ e = .returned (.tuple #[.agg #[.int .i64 0, .int .i64 0, .int .i64 0, .int .i64 0, .slice none 0 0, .slice none 0 0], .int .i64 (litE c s)]) ∧ Below w.heap.size w w') ∨
  (litE c s = 0 ∧ ∃ t' L, e = .returned (.tuple #[.agg #[.int .i64 t'.f.k, .int .i64 t'.f.n, .int .i64 t'.f.mn, .int .i64 t'.f.mx, .slice t'.f.rq t'.f.rs.length t'.f.rc, .slice t'.f.kq t'.f.kl t'.f.kc], .int .i64 0]) ∧ TA w' t' ∧ er t' = joinE 5 L (.mk 1 0 0 0 [] []) ∧ ECs f (litL c s) L ∧ Below w.heap.size w w')
theorem ret_lit {R : Ending → World → Prop} {a : Act} {W : World} {b : Nat} {f : Fl} {x : Int} (h : Six W b 0 f) (ha : a.tmps[4]?.getD undef = .pointer (some ⟨b, 0, none⟩)) (hb : a.tmps[5]?.getD undef = .int .i64 x) (hd : a.defers = []) (hR : R (.returned (.tuple #[.agg #[.int .i64 f.k, .int .i64 f.n, .int .i64 f.mn, .int .i64 f.mx, .slice f.rq f.rs.length f.rc, .slice f.kq f.kl f.kc], .int .i64 x])) W) : bodyPost Try.prog Try.f10 R .ret a W := by
  obtain ⟨z0, z1, z2, z3, z4, z5⟩ := h
  simp only [Nat.zero_add] at z1 z2 z3 z4 z5
  refine bodyPost_ret (v := .tuple #[.agg #[.int .i64 f.k, .int .i64 f.n, .int .i64 f.mn, .int .i64 f.mx, .slice f.rq f.rs.length f.rc, .slice f.kq f.kl f.kc], .int .i64 x]) ?_ hd hR
  simp [results, Try.results10, go_sem, ha, hb, z0, z1, z2, z3, z4, z5]
theorem flat_sets {ks : List Tr} (h : ∀ u ∈ ks, u.f.k = 2) : ks.flatMap catT = ks := by
  induction ks with
  | nil => rfl
  | cons u ks ih =>
    rw [List.flatMap_cons, ih (fun v hv => h v (List.mem_cons_of_mem _ hv))]
    have := h u (List.mem_cons_self ..)
    unfold catT
    rw [if_neg (by omega), if_neg (by omega)]
    rfl
set_option maxRecDepth 1000000 in
set_option maxHeartbeats 8000000 in
theorem literal_c (s : ByteArray) (w : World) (c f : Bool) (hs : s.size ≤ 2000) :
    Calls Try.prog 10 #[.string s, .agg #[.bool c, .bool f]] w (LitIs w c f s) := by
  have CH := hide (fun W => characters_c s W c f (by omega))
  have hlen : (litL c s).length ≤ 2000 := Nat.le_trans (litL_len c s) hs
  have BD := hide (litL_bd c s)
  obtain ⟨l, hl⟩ : ∃ l, litL c s = l := ⟨_, rfl⟩
  have HL := hide hl
  rw [hl] at CH hlen BD
  obtain ⟨x, hx⟩ : ∃ x, litE c s = x := ⟨_, rfl⟩
  have HX := hide hx
  rw [hx] at CH
  have B1 : Hid (Below w.heap.size w ((w.alloc (.cells #[.bool c, .bool f] 34)).alloc (.cells #[.int .i64 0, .int .i64 0, .int .i64 0, .int .i64 0, .slice none 0 0, .slice none 0 0] 25))) := ((Below.refl _ _).alloc (Nat.le_refl _) _).alloc (by simp) _
  have M1 : Hid (((w.alloc (.cells #[.bool c, .bool f] 34)).alloc (.cells #[.int .i64 0, .int .i64 0, .int .i64 0, .int .i64 0, .slice none 0 0, .slice none 0 0] 25)).heap[w.heap.size]? = some (.cells #[.bool c, .bool f] 34 (0, 0))) := (Below.heap_alloc _ _ _ (by simp)).trans (alloc_new w _)
  have Z1 : Hid (((w.alloc (.cells #[.bool c, .bool f] 34)).alloc (.cells #[.int .i64 0, .int .i64 0, .int .i64 0, .int .i64 0, .slice none 0 0, .slice none 0 0] 25)).heap[w.heap.size + 1]? = some (.cells #[.int .i64 0, .int .i64 0, .int .i64 0, .int .i64 0, .slice none 0 0, .slice none 0 0] 25 (0, 0))) := (by
    have := alloc_new (w.alloc (.cells #[.bool c, .bool f] 34)) (.cells #[.int .i64 0, .int .i64 0, .int .i64 0, .int .i64 0, .slice none 0 0, .slice none 0 0] 25)
    rwa [World.size_alloc] at this)
  clear hl hx
  go_enter Try.func10, Try.ntmps10
  go_upto_region 1 with fail
  generalize ((w.alloc (.cells #[.bool c, .bool f] 34)).alloc (.cells #[.int .i64 0, .int .i64 0, .int .i64 0, .int .i64 0, .slice none 0 0, .slice none 0 0] 25)) = W1 at B1 M1 Z1 ⊢
  obtain ⟨bz, hbz⟩ : ∃ bz, w.heap.size + 1 = bz := ⟨_, rfl⟩
  rw [hbz] at Z1 ⊢
  have hwz : w.heap.size ≤ bz := by omega
  have m0 := cell_row M1.out (i := 0) rfl
  have m1 := cell_row M1.out (i := 1) rfl
  clear hbz
  go_upto_region 2 with (go_at_call 28; (with_reducible refine (CH.out _).mono ?_); rintro e w5 ⟨v5, rfl, h51, h52⟩; obtain ⟨q5, k5, rfl⟩ := ownsRow_shape h51; have O5 := hide h51; have B5 := hide h52; clear h51 h52)
  have M5 : Hid (w5.heap[w.heap.size]? = some (.cells #[.bool c, .bool f] 34 (0, 0))) := (B5.out.block _ (lt_of_heap M1.out)).trans M1.out
  have Z5 : Hid (w5.heap[bz]? = some (.cells #[.int .i64 0, .int .i64 0, .int .i64 0, .int .i64 0, .slice none 0 0, .slice none 0 0] 25 (0, 0))) := (B5.out.block _ (lt_of_heap Z1.out)).trans Z1.out
  have B6 : Hid (Below w.heap.size w w5) := chain B1.out B5.out (Nat.le_refl _)
  have O6 : Hid (w5.ownsRow w.heap.size 3 1 (.slice q5 l.length k5) l.length (ints l)) := ownsRow_mono O5.out B1.out.size
  have hz1 : bz < w5.heap.size := lt_of_heap Z5.out
  clear m0 m1 M1 Z1 B1 B5 O5 CH
  by_cases hx0 : x = 0
  · have e0 : (x != 0) = false := by simpa using hx0
    subst hx0
    obtain ⟨t0, hi, hz0, hzz1, hzz2⟩ := info_parts size_node
    have hmx : l.length ≤ maxLen := by unfold maxLen; omega
    go_upto_region 6 with (at_make; refine wpList_make_full _ rfl _ _ 23 rfl w.heap.size 25 t0 (.agg #[.int .i64 0, .int .i64 0, .int .i64 0, .int .i64 0, .slice none 0 0, .slice none 0 0]) 6 und_nodes hi hz0 hzz1 .i64 .i64 (l.length : Int) (l.length : Int) l.length rfl rfl rfl rfl (by rw [hzz2]; omega) hmx B6.out.size ?_; intro w7 hown7 hg7; rw [made_nodes] at hown7; have O7 := hide hown7; have B7 : Hid (Below w5.heap.size w5 w7) := ⟨hg7.os, hg7.tape, hg7.output, hg7.size, fun k hk => hg7.block k hk (fun e => by cases e)⟩; clear hown7 hg7)
    have KR7 := hide (KR.of_row O7.out)
    obtain ⟨g, hg⟩ : ∃ g, w5.heap.size = g := ⟨_, rfl⟩
    rw [hg] at KR7 ⊢
    have hwg : w.heap.size ≤ g := by have := B6.out.size; omega
    have hzg : bz ≠ g := by omega
    have C7 : Hid (LtS w w.heap.size bz g c f q5 k5 l [] (List.replicate l.length zT) w7) := ⟨(B7.out.block _ (lt_of_heap M5.out)).trans M5.out, (B7.out.block _ (lt_of_heap Z5.out)).trans Z5.out, ownsRow_fr O6.out (Fr.of_below (S := fun _ => False) B7.out) (fun _ _ z => z), chain B6.out B7.out (Nat.le_refl _), KR7.out, fun u hu => by cases hu⟩
    clear M5 Z5 B6 O6 O7 B7 KR7 hg hz1 t0 hi hz0 hzz1 hzz2
    go_loopw [26] (fun i wr => ∃ (j : Nat) (nk : List Tr), j ≤ l.length ∧ i = .int .i64 (j : Int) ∧ nk.length = j ∧ ECs f (l.take j) (nk.map er) ∧ LtS w w.heap.size bz g c f q5 k5 l nk (List.replicate (l.length - j) zT) wr) (fun i _ => l.length - (intOf i).toNat)
    case atStart => exact ⟨0, [], Nat.zero_le _, rfl, rfl, trivial, C7.out⟩
    case round =>
      clear C7
      obtain ⟨j, nk, hj, rfl, hnk, hec, hcs⟩ := hrel
      have HS := hide hcs
      have HEC := hide hec
      have HNK := hide hnk
      clear hcs hec hnk
      by_cases hjl : j < l.length
      · have i0 : (j : Int) < (l.length : Int) := by omega
        obtain ⟨y, hy⟩ : ∃ y, l[j]? = some y := ⟨_, List.getElem?_eq_getElem hjl⟩
        have HY := hide hy
        obtain ⟨gl, cc, hq⟩ := ownsRow_some HS.out.lst (by omega)
        injection hq with hq1 _ hq2
        subst hq1 hq2
        have ly : wr.cell? ⟨gl, j, none⟩ = some (.int .i64 y) := ownsRow_cell HS.out.lst (by simp [ints, hy])
        have md0 := cell_row HS.out.md (i := 0) rfl
        have md1 := cell_row HS.out.md (i := 1) rfl
        have hb := BD.out y (List.mem_of_getElem? hy)
        have CC := hide (character_c (w := wr) y hb c f)
        have hug := HS.out.row.lt
        have hrp : List.replicate (l.length - j) zT = zT :: List.replicate (l.length - (j + 1)) zT := by rw [show l.length - j = (l.length - (j + 1)) + 1 by omega, List.replicate_succ]
        have HRP := hide hrp
        have CU : Hid (Calls Try.prog 29 #[.int .i64 y, .agg #[.bool c, .bool f]] wr fun e w5 => ∃ t5 : Tr, e = .returned (.agg #[.int .i64 t5.f.k, .int .i64 t5.f.n, .int .i64 t5.f.mn, .int .i64 t5.f.mx, .slice t5.f.rq t5.f.rs.length t5.f.rc, .slice t5.f.kq t5.f.kl t5.f.kc]) ∧ LtS w w.heap.size bz g c f (some ⟨gl, 0, none⟩) k5 l nk (List.replicate (l.length - j) zT) w5 ∧ Six w5 g (j * 6) zT.f ∧ LtS w w.heap.size bz g c f (some ⟨gl, 0, none⟩) k5 l (nk ++ [t5]) (List.replicate (l.length - (j + 1)) zT) (put6 w5 g (j * 6) t5.f) ∧ EC f y (er t5)) := CC.out.mono fun e w5 ⟨t5, h50, h51, h52, h53, h54⟩ => (by
          have S5 := HS.out.kept h54
          have S6 := S5.next (t := t5) (j := j) HNK.out (by rw [HRP.out]; simp) hzg hwg h51 (h53.mono (fun k hk => Nat.lt_of_lt_of_le hug hk))
          rw [HRP.out] at S6
          refine ⟨t5, h50, S5, S5.row.six j zT (by rw [HRP.out, List.getElem?_append_right (by have := HNK.out; omega), HNK.out, Nat.sub_self]; rfl), S6, h52⟩)
        clear hy CC hb hug hrp
        go_wp2_with (go_at_call 29; (with_reducible refine (CU.out).mono ?_); rintro e w5 ⟨t5, rfl, h51, h52, h53, h54⟩; obtain ⟨y0, y1, y2, y3, y4, y5⟩ := h52; have S5 := hide h51; have fz := fun z => S5.out.row.frz z; unfold put6 at h53; have S6 := hide h53; have E6 := hide h54; clear h51 h53 h54)
        have HEN := hide (show ECs f (l.take (j + 1)) ((nk ++ [t5]).map er) by
          rw [List.take_add_one, HY.out, List.map_append]
          exact HEC.out.snoc E6.out)
        go_roundw
        case rel => exact ⟨j + 1, nk ++ [t5], by omega, by go_num, by rw [List.length_append, HNK.out]; rfl, HEN.out, S6.out⟩
        case measure => simp only [intOf]; omega
      · have i0 : ¬ (j : Int) < (l.length : Int) := by omega
        have hje : j = l.length := by omega
        have S9 := HS.out
        rw [show l.length - j = 0 by omega, List.replicate_zero] at S9
        have hrow := S9.row
        rw [List.append_nil] at hrow
        have hec := HEC.out
        rw [List.take_of_length_le (by omega)] at hec
        have hnl : nk.length = l.length := by have := HNK.out; omega
        have hk2 : ∀ u ∈ nk, u.f.k = 2 := fun u hu => by
          obtain ⟨z, -, hz⟩ := hec.mem (er u) (List.mem_map_of_mem hu)
          rw [← er_k]
          exact hz.k.1
        have hszs : szs nk = nk.length := by
          have : ∀ m : List Tr, (∀ u ∈ m, u ∈ nk) → szs m = m.length := by
            intro m
            induction m with
            | nil => intro _; rw [szs_nil]; rfl
            | cons u m ih =>
              intro h
              obtain ⟨z, -, hz⟩ := hec.mem (er u) (List.mem_map_of_mem (h u (List.mem_cons_self ..)))
              have h1 : u.sz = 1 := by rw [← er_sz, esz_eq, hz.k.2, eszs_nil]
              rw [szs_cons, h1, ih (fun v hv => h v (List.mem_cons_of_mem _ hv)), List.length_cons]
              omega
          exact this nk (fun _ h => h)
        have CT := cat_c (hrow.arg (Nat.le_refl nk.length) (by rw [hnl]; exact hmx)) (fun u hu => (S9.new u hu).1) (by rw [hszs, hnl]; omega)
        rw [flat_sets hk2, hnl] at CT
        have HCT := hide CT
        have HRES := hide S9.res
        have HBEL := hide S9.bel
        have HEC9 := hide hec
        have LZ := lt_of_heap S9.res
        clear CT S9 hrow hec hnl hk2 hszs hje HS HEC HNK
        go_upto_region 11 with (go_at_call 13; (with_reducible refine (HCT.out).mono ?_); rintro e w9 ⟨t9, rfl, h91, h92, h93, h94⟩; have R9 : w9.heap[bz]? = some (.cells #[.int .i64 0, .int .i64 0, .int .i64 0, .int .i64 0, .slice none 0 0, .slice none 0 0] 25 (0, 0)) := (h94.block _ LZ).trans HRES.out; have r0 := cell_row R9 (i := 0) rfl; have r1 := cell_row R9 (i := 1) rfl; have r2 := cell_row R9 (i := 2) rfl; have r3 := cell_row R9 (i := 3) rfl; have r4 := cell_row R9 (i := 4) rfl; have r5 := cell_row R9 (i := 5) rfl; have fz := fun z => frz_row R9 z; have L9 := hide (laid_res h91 (h92.mono (fun k hk => Nat.lt_of_lt_of_le LZ hk)) R9); have X9 := hide L9.out.1; have P9 := hide L9.out.2.2; unfold put6 at X9 P9; have Q9 := hide (⟨h93, chain HBEL.out h94 (Nat.le_refl _)⟩ : er t9 = _ ∧ Below w.heap.size w w9); clear h91 h92 h93 h94)
        refine ret_lit X9.out rfl rfl rfl (.inr ⟨HX.out, t9, nk.map er, rfl, L9.out.2.1, Q9.out.1, by rw [HL.out]; exact HEC9.out, chainF Q9.out.2 P9.out (Nat.le_refl _) (fun k e => by omega)⟩)
  · have e0 : (x != 0) = true := by simpa using hx0
    have r0 := cell_row Z5.out (i := 0) rfl
    have r1 := cell_row Z5.out (i := 1) rfl
    have r2 := cell_row Z5.out (i := 2) rfl
    have r3 := cell_row Z5.out (i := 3) rfl
    have r4 := cell_row Z5.out (i := 4) rfl
    have r5 := cell_row Z5.out (i := 5) rfl
    have fz := fun z => frz_row Z5.out z
    have L9 := hide (laid_res (bare_ta w5 0) (bare_foot (fun i => bz < i) 0) Z5.out)
    have X9 := hide L9.out.1
    have P9 := hide L9.out.2.2
    unfold put6 at X9 P9
    have HX0 := hide hx0
    clear hx0
    go_wp2
    refine ret_lit (f := bare 0) X9.out rfl rfl rfl (.inl ⟨by rw [HX.out]; exact HX0.out, by rw [HX.out]; rfl, chainF B6.out P9.out (Nat.le_refl _) (fun k e => by omega)⟩)
end Go.Proofs.Ytlodjinejeajcab
namespace Go.Proofs.Ytlodjinejeajcab
open Go Go.RowKit

theorem ret_rcat {R : Ending → World → Prop} {a : Act} {W : World} {b : Nat} {f : Fl} (h : Six W b 0 f) (ha : a.tmps[2]?.getD undef = .pointer (some ⟨b, 0, none⟩)) (hd : a.defers = []) (hR : R (.returned (.agg #[.int .i64 f.k, .int .i64 f.n, .int .i64 f.mn, .int .i64 f.mx, .slice f.rq f.rs.length f.rc, .slice f.kq f.kl f.kc])) W) : bodyPost Try.prog Try.f32 R .ret a W := by
  obtain ⟨z0, z1, z2, z3, z4, z5⟩ := h
  simp only [Nat.zero_add] at z1 z2 z3 z4 z5
  refine bodyPost_ret (v := .agg #[.int .i64 f.k, .int .i64 f.n, .int .i64 f.mn, .int .i64 f.mx, .slice f.rq f.rs.length f.rc, .slice f.kq f.kl f.kc]) ?_ hd hR
  simp [results, Try.results32, go_sem, ha, z0, z1, z2, z3, z4, z5]
theorem joinE_two (k : Int) : ∀ (L : List Er) (no : Er), 2 ≤ L.length → joinE k L no = .mk k 0 0 0 [] L
  | [], _, h => by simp at h
  | [_], _, h => by simp at h
  | _ :: _ :: _, _, _ => rfl
/-- A call that makes a tree, of what lay there too. -/
def MkO (w : World) (ks : List Tr) (x : Er) (e : Ending) (w' : World) : Prop := ∃ t', e = .returned (.agg #[.int .i64 t'.f.k, .int .i64 t'.f.n, .int .i64 t'.f.mn, .int .i64 t'.f.mx, .slice t'.f.rq t'.f.rs.length t'.f.rc, .slice t'.f.kq t'.f.kl t'.f.kc]) ∧ TA w' t' ∧ er t' = x ∧ (∀ N : Nat → Prop, (∀ k, w.heap.size ≤ k → N k) → (∀ u ∈ ks, Foot N u) → Foot N t') ∧ Below w.heap.size w w'
set_option maxRecDepth 100000 in
set_option maxHeartbeats 8000000 in
theorem rcat_c {w : World} {q : Option Addr} {c : Nat} {ks : List Tr} (h : ArgK w (.slice q ks.length c) ks) (hta : ∀ u ∈ ks, TA w u) (hk2 : ∀ u ∈ ks, u.f.k = 2) (hl : ks.length ≤ 100000) :
    Calls Try.prog 32 #[.slice q ks.length c] w (MkO w ks (joinE 5 (ks.map er) (.mk 1 0 0 0 [] []))) := by
  obtain ⟨t0, hi, hz0, hz1, hz2⟩ := info_parts size_node
  have B0 : Hid (Below w.heap.size w (w.alloc (.cells #[.int .i64 0, .int .i64 0, .int .i64 0, .int .i64 0, .slice none 0 0, .slice none 0 0] 25))) := (Below.refl _ _).alloc (Nat.le_refl _) _
  have R0 : Hid ((w.alloc (.cells #[.int .i64 0, .int .i64 0, .int .i64 0, .int .i64 0, .slice none 0 0, .slice none 0 0] 25)).heap[w.heap.size]? = some (.cells #[.int .i64 0, .int .i64 0, .int .i64 0, .int .i64 0, .slice none 0 0, .slice none 0 0] 25 (0, 0))) := alloc_new w _
  have HS0 := hide (World.size_alloc w (.cells #[.int .i64 0, .int .i64 0, .int .i64 0, .int .i64 0, .slice none 0 0, .slice none 0 0] 25))
  obtain ⟨q', cap, e, -, -, hx⟩ := h.slice
  injection e with e1 _ e3
  subst e1 e3
  have HX := hide hx
  have HT := hide hta
  have H2 := hide hk2
  clear h hta hk2 hx
  go_enter Try.func32, Try.ntmps32
  go_upto_region 3 with fail
  generalize (w.alloc (.cells #[.int .i64 0, .int .i64 0, .int .i64 0, .int .i64 0, .slice none 0 0, .slice none 0 0] 25)) = W0 at B0 R0 HS0 ⊢
  go_loopw [4, 3] (fun i v wr => ∃ (j : Nat) (qq : Option Addr) (cc : Nat), j ≤ ks.length ∧ i = .int .i64 (j : Int) ∧ v = .slice qq j cc ∧ wr.ownsRow W0.heap.size 25 6 (.slice qq j cc) j (cellsK (ks.take j)) ∧ Below W0.heap.size W0 wr) (fun i _ _ => ks.length - (intOf i).toNat)
  case atStart => exact ⟨0, none, 0, Nat.zero_le _, rfl, rfl, World.ownsRow_nil _ _ _ _, Below.refl _ _⟩
  case round =>
    obtain ⟨j, qq, cc, hj, rfl, rfl, ho, hb⟩ := hrel
    have HO := hide ho
    have HB := hide hb
    have BW := hide (chain B0.out hb (Nat.le_refl _))
    have LZ := lt_of_heap R0.out
    have R1 := hide ((hb.block _ LZ).trans R0.out)
    clear ho hb
    by_cases hjl : j < ks.length
    · have i0 : (j : Int) < (ks.length : Int) := by omega
      obtain ⟨u, hu⟩ : ∃ u, ks[j]? = some u := ⟨_, List.getElem?_eq_getElem hjl⟩
      have hin : u ∈ ks := List.mem_of_getElem? hu
      obtain ⟨g, off, hq, hg, hsix⟩ := HX.out j u hu
      subst hq
      obtain ⟨c0, c1, c2, c3, c4, c5⟩ := hsix.ck (CK.of_below BW.out) hg
      have hk := H2.out u hin
      have K5 : Below wr.heap.size wr (wr.alloc (.cells #[.int .i64 u.f.k, .int .i64 u.f.n, .int .i64 u.f.mn, .int .i64 u.f.mx, .slice u.f.rq u.f.rs.length u.f.rc, .slice u.f.kq u.f.kl u.f.kc] 25)) := (Below.refl _ _).alloc (Nat.le_refl _) _
      have N5 := hide (six_news (alloc_new wr (.cells #[.int .i64 u.f.k, .int .i64 u.f.n, .int .i64 u.f.mn, .int .i64 u.f.mx, .slice u.f.rq u.f.rs.length u.f.rc, .slice u.f.kq u.f.kl u.f.kc] 25)))
      have O5 := hide (ownsRow_fr HO.out (Fr.of_below (S := fun _ => False) K5) (fun _ _ z => z))
      have B5 := hide (chain HB.out K5 (Nat.le_refl _))
      have HTK := hide (show cellsK (ks.take (j + 1)) = cellsK (ks.take j) ++ u.f.cells by rw [List.take_add_one, hu, cellsK_append]; simp [cellsK])
      have e1 : (u.f.k == 1) = false := by rw [hk]; rfl
      have e5 : (u.f.k == 5) = false := by rw [hk]; rfl
      clear hu hin hsix hg hk K5
      go_wp2_with (at_builtin; refine wpList_append_own_at _ rfl _ _ 23 rfl W0.heap.size 25 t0 (.agg #[.int .i64 0, .int .i64 0, .int .i64 0, .int .i64 0, .slice none 0 0, .slice none 0 0]) 6 80 und_nodes hi hz0 hz1 hz2 rfl (by decide) (.slice qq j cc) j (cellsK (ks.take j)) rfl O5.out ⟨wr.heap.size, 0, none⟩ 1 1 u.f.cells rfl rfl N5.out (fun v hv => by simp [Fl.cells] at hv; rcases hv with rfl | rfl | rfl | rfl | rfl | rfl <;> rfl) (by unfold maxLen; omega) (by omega) B5.out.size ?_; intro v' w6 hown' hgrow _ _; obtain ⟨q6, cap6, rfl⟩ := ownsRow_shape hown'; have O6 := hide hown'; have B6 : Hid (Below W0.heap.size W0 w6) := bel_app B5.out (Nat.le_refl _) O5.out hgrow; clear hown' hgrow)
      go_roundw
      case rel => exact ⟨j + 1, q6, cap6, by omega, by go_num, rfl, by rw [HTK.out]; exact O6.out, B6.out⟩
      case measure => simp only [intOf]; omega
    · have i0 : ¬ (j : Int) < (ks.length : Int) := by omega
      have hje : j = ks.length := by omega
      subst hje
      have O9 := HO.out
      rw [List.take_of_length_le (Nat.le_refl _)] at O9
      have r0 := cell_row R1.out (i := 0) rfl
      have r1 := cell_row R1.out (i := 1) rfl
      have r2 := cell_row R1.out (i := 2) rfl
      have r3 := cell_row R1.out (i := 3) rfl
      have r4 := cell_row R1.out (i := 4) rfl
      have r5 := cell_row R1.out (i := 5) rfl
      have fz := fun z => frz_row R1.out z
      have hsx : ∀ f : Fl, Six (put6 wr w.heap.size 0 f) w.heap.size 0 f := fun f => put6_six (b := w.heap.size) (o := 0) (f := ⟨0, 0, 0, 0, [], none, 0, none, 0, 0⟩) (g := f) ⟨r0, r1, r2, r3, r4, r5⟩
      have hbl : ∀ f : Fl, Below w.heap.size w (put6 wr w.heap.size 0 f) := fun f => chainF BW.out (put6_fr wr w.heap.size 0 f) (Nat.le_refl _) (fun k e => by omega)
      have HBL := hide hbl
      have HSX := hide hsx
      clear hsx hbl
      by_cases h0 : ks = []
      · subst h0
        have X9 := hide (HSX.out (bare 1))
        have B9 := hide (HBL.out (bare 1))
        unfold put6 at X9 B9
        clear O9 HO
        go_wp2
        refine ret_rcat X9.out rfl rfl ?_
        exact ⟨.mk (bare 1) [], rfl, bare_ta _ 1, by rw [er_eq]; rfl, fun N _ _ => bare_foot N 1, B9.out⟩
      · by_cases h1 : ks.length = 1
        · obtain ⟨u, rfl⟩ : ∃ u, ks = [u] := by
            match ks, h1 with
            | [u], _ => exact ⟨u, rfl⟩
          obtain ⟨g9, c9, hq9⟩ := ownsRow_some O9 (by simp)
          injection hq9 with hq91 _ hq92
          subst hq91 hq92
          have cl : ∀ (k : Nat) (v : Value), u.f.cells[k]? = some v → wr.cell? ⟨g9, k, none⟩ = some v := fun k v hv => ownsRow_cell O9 (by simpa [cellsK] using hv)
          have d0 := cl 0 _ rfl
          have d1 := cl 1 _ rfl
          have d2 := cl 2 _ rfl
          have d3 := cl 3 _ rfl
          have d4 := cl 4 _ rfl
          have d5 := cl 5 _ rfl
          have X9 := hide (HSX.out u.f)
          have B9 := hide (HBL.out u.f)
          have T9 := hide ((HT.out u (by simp)).kept B9.out)
          unfold put6 at X9 B9 T9
          clear O9 HO h0 h1 cl
          go_wp2
          refine ret_rcat X9.out rfl rfl ?_
          exact ⟨u, rfl, T9.out, rfl, fun N _ h => h u (by simp), B9.out⟩
        · have e0 : ((ks.length : Int) == 0) = false := by
            have : ks.length ≠ 0 := fun z => h0 (List.eq_nil_of_length_eq_zero z)
            simp; omega
          have e1 : ((ks.length : Int) == 1) = false := by simp; omega
          have h2 : 2 ≤ ks.length := by
            have : ks.length ≠ 0 := fun z => h0 (List.eq_nil_of_length_eq_zero z)
            omega
          have X9 := hide (HSX.out ⟨5, 0, 0, 0, [], none, 0, qq, ks.length, cc⟩)
          have B9 := hide (HBL.out ⟨5, 0, 0, 0, [], none, 0, qq, ks.length, cc⟩)
          have HQB := hide (show ∀ a, qq = some a → w.heap.size ≤ a.block from fun a e => by subst e; have := (ownsRow_at O9 (g := a.block) rfl).1; have := HS0.out; omega)
          have O10 := ownsRow_fr O9 (put6_fr wr w.heap.size 0 ⟨5, 0, 0, 0, [], none, 0, qq, ks.length, cc⟩) (fun k hk e => by have := (ownsRow_at O9 hk).1; have := HS0.out; omega)
          have T9 : Hid (TA (put6 wr w.heap.size 0 ⟨5, 0, 0, 0, [], none, 0, qq, ks.length, cc⟩) (.mk ⟨5, 0, 0, 0, [], none, 0, qq, ks.length, cc⟩ ks)) := (every_eq _).2 ⟨⟨.inl ⟨none, 0, rfl, rfl, fun _ => rfl⟩, row_arg O10, fit_nil, by simp [Tr.f]⟩, (everyL_iff _).2 fun u hu => (HT.out u hu).kept B9.out⟩
          have HJ := hide (joinE_two 5 (ks.map er) (.mk 1 0 0 0 [] []) (by rw [List.length_map]; exact h2))
          unfold put6 at X9 B9 T9
          clear O9 O10 HO h0 h1 h2
          go_wp2
          refine ret_rcat X9.out rfl rfl ?_
          exact ⟨.mk ⟨5, 0, 0, 0, [], none, 0, qq, ks.length, cc⟩ ks, rfl, T9.out, by rw [HJ.out, er_eq]; rfl, fun N hN h => (every_eq _).2 ⟨⟨fun a e => (by cases e), fun a e _ => hN _ (HQB.out a e)⟩, (everyL_iff _).2 fun u hu => h u hu⟩, B9.out⟩
end Go.Proofs.Ytlodjinejeajcab
namespace Go.Proofs.Ytlodjinejeajcab
open Go Go.RowKit

def isC (c : Int) : Bool := decide (0 ≤ c ∧ c ≤ 1114111 ∧ (c < 55296 ∨ 57343 < c))
def txt (l : List UInt8) : ByteArray := ⟨l.toArray⟩

def sl (s : ByteArray) (p n : Nat) : List UInt8 := (s.data.toList.drop p).take n
theorem decL (s : ByteArray) (p : Nat) : Lib.decodeL (s.data.toList.drop p) = Utf8.decode s p := by
  rw [Lib.decodeL_N, Lib.decode_N, List.length_drop]
  simp only [List.getD_eq_getElem?_getD, List.getElem?_drop, Nat.add_zero]
theorem enc_sl (s : ByteArray) (p : Nat) (hp : p < s.size) (hb : bad s p = false) : Lib.encodeRune ((Utf8.decode s p).1 : Int) = sl s p (wd s p) := by
  have hne : s.data.toList.drop p ≠ [] := by
    intro e
    have := congrArg List.length e
    rw [List.length_drop, size_list] at this
    simp at this; omega
  have := Lib.encode_decode (s.data.toList.drop p) hne (by
    rw [decL]
    rintro ⟨h1, h2⟩
    have : bad s p = true := by
      unfold bad
      rw [decide_eq_true_eq]
      exact Prod.ext h1 h2
    rw [hb] at this; cases this)
  rw [decL] at this
  exact this
theorem ext_sl (s : ByteArray) (p n : Nat) : (s.extract p (p + n)).data.toList = sl s p n := by
  rw [ByteArray.data_extract, Array.toList_extract, List.extract_eq_take_drop]
  unfold sl
  congr 1
  omega

theorem bt_get (s : ByteArray) (i : Nat) (h : i < s.size) : (s[i]'h).toNat = bt s i := by
  have e : s.data.toList[i]? = some (s.data.toList[i]'(by rw [size_list]; exact h)) := List.getElem?_eq_getElem _
  unfold bt
  rw [List.getD_eq_getElem?_getD, e]
  rfl
theorem good_shape {s : ByteArray} {p : Nat} (hb : bad s p = false) : (bt s p < 128 ∧ Utf8.decode s p = (bt s p, 1)) ∨
    (1 < s.size - p ∧ bt s p / 32 = 6 ∧ bt s (p + 1) / 64 = 2 ∧ 128 ≤ bt s p % 32 * 64 + bt s (p + 1) % 64 ∧ Utf8.decode s p = (bt s p % 32 * 64 + bt s (p + 1) % 64, 2)) ∨
    (2 < s.size - p ∧ bt s p / 16 = 14 ∧ bt s (p + 1) / 64 = 2 ∧ bt s (p + 2) / 64 = 2 ∧ 2048 ≤ bt s p % 16 * 4096 + bt s (p + 1) % 64 * 64 + bt s (p + 2) % 64 ∧ Utf8.decode s p = (bt s p % 16 * 4096 + bt s (p + 1) % 64 * 64 + bt s (p + 2) % 64, 3)) ∨
    (3 < s.size - p ∧ bt s p / 8 = 30 ∧ bt s (p + 1) / 64 = 2 ∧ bt s (p + 2) / 64 = 2 ∧ bt s (p + 3) / 64 = 2 ∧ 65536 ≤ bt s p % 8 * 262144 + bt s (p + 1) % 64 * 4096 + bt s (p + 2) % 64 * 64 + bt s (p + 3) % 64 ∧ Utf8.decode s p = (bt s p % 8 * 262144 + bt s (p + 1) % 64 * 4096 + bt s (p + 2) % 64 * 64 + bt s (p + 3) % 64, 4)) := by
  have hn : Utf8.decode s p ≠ (65533, 1) := by simpa [bad] using hb
  have e := dec_eq s p
  rcases decN_cases (s.size - p) (bt s p) (bt s (p + 1)) (bt s (p + 2)) (bt s (p + 3)) with k | ⟨a1, k⟩ | ⟨a1, a2, a3, a4, k⟩ | ⟨a1, a2, a3, a4, a5, a6, k⟩ | ⟨a1, a2, a3, a4, a5, a6, a7, k⟩
  · rw [k] at e; exact absurd e hn
  · rw [k] at e; exact .inl ⟨a1, e⟩
  · rw [k] at e; exact .inr (.inl ⟨a1, a2, a3, a4, e⟩)
  · rw [k] at e; exact .inr (.inr (.inl ⟨a1, a2, a3, a4, a5, e⟩))
  · rw [k] at e; exact .inr (.inr (.inr ⟨a1, a2, a3, a4, a5, a6, e⟩))

def Lead (b0 n : Nat) (c0 : Int) : Prop := (n = 2 ∧ 192 ≤ b0 ∧ b0 < 224 ∧ c0 = b0 - 192) ∨ (n = 3 ∧ 224 ≤ b0 ∧ b0 < 240 ∧ c0 = b0 - 224) ∨ (n = 4 ∧ 240 ≤ b0 ∧ b0 < 248 ∧ c0 = b0 - 240)
def cvF (s : ByteArray) (p : Nat) (c0 : Int) : Nat → Int
  | 0 => c0
  | j + 1 => 64 * cvF s p c0 j + bt s (p + (j + 1)) - 128
def Conts (s : ByteArray) (p k : Nat) : Prop := ∀ j, 1 ≤ j → j < k → 128 ≤ bt s (p + j) ∧ bt s (p + j) ≤ 191
theorem cvF_range {s : ByteArray} {p : Nat} {c0 : Int} (h0 : 0 ≤ c0) (h1 : c0 ≤ 31) : ∀ j, j ≤ 3 → Conts s p (j + 1) → 0 ≤ cvF s p c0 j ∧ cvF s p c0 j < 16777216
  | 0, _, _ => by simp [cvF]; omega
  | 1, _, hc => by have c1 := hc 1 (by omega) (by omega); simp only [cvF, Nat.zero_add]; omega
  | 2, _, hc => by have c1 := hc 1 (by omega) (by omega); have c2 := hc 2 (by omega) (by omega); simp only [cvF, Nat.zero_add, Nat.reduceAdd]; omega
  | 3, _, hc => by have c1 := hc 1 (by omega) (by omega); have c2 := hc 2 (by omega) (by omega); have c3 := hc 3 (by omega) (by omega); simp only [cvF, Nat.zero_add, Nat.reduceAdd]; omega

theorem bad_lead {s : ByteArray} {p : Nat} (h : (128 ≤ bt s p ∧ bt s p < 192) ∨ 248 ≤ bt s p) : bad s p = true := by
  rcases hb : bad s p with _ | _
  · exfalso
    have := bt_lt s p
    rcases good_shape hb with ⟨a1, _⟩ | ⟨_, a2, _⟩ | ⟨_, a2, _⟩ | ⟨_, a2, _⟩ <;> omega
  · rfl
theorem bad_short {s : ByteArray} {p n : Nat} {c0 : Int} (h : Lead (bt s p) n c0) (hn : s.size - p < n) : bad s p = true := by
  rcases hb : bad s p with _ | _
  · exfalso
    rcases h with h | h | h <;> rcases good_shape hb with ⟨a1, _⟩ | ⟨_, a2, _⟩ | ⟨_, a2, _⟩ | ⟨_, a2, _⟩ <;> omega
  · rfl
theorem bad_cont {s : ByteArray} {p n j : Nat} {c0 : Int} (h : Lead (bt s p) n c0) (h1 : 1 ≤ j) (hj : j < n) (hb' : bt s (p + j) < 128 ∨ 191 < bt s (p + j)) : bad s p = true := by
  rcases hb : bad s p with _ | _
  · exfalso
    have hj' : j = 1 ∨ j = 2 ∨ j = 3 := by rcases h with h | h | h <;> omega
    rcases hj' with rfl | rfl | rfl <;> rcases h with h | h | h <;> rcases good_shape hb with ⟨a1, _⟩ | ⟨_, a2, a3, _⟩ | ⟨_, a2, a3, a4, _⟩ | ⟨_, a2, a3, a4, a5, _⟩ <;> omega
  · rfl
theorem good_val {s : ByteArray} {p n : Nat} {c0 : Int} (h : Lead (bt s p) n c0) (hc : Conts s p n) (hb : bad s p = false) : (Utf8.decode s p).1 = cvF s p c0 (n - 1) ∧ wd s p = n := by
  unfold wd
  rcases h with ⟨rfl, h⟩ | ⟨rfl, h⟩ | ⟨rfl, h⟩
  · have c1 := hc 1 (by omega) (by omega)
    rcases good_shape hb with ⟨a1, e⟩ | ⟨_, a2, a3, _, e⟩ | ⟨_, a2, a3, a4, _, e⟩ | ⟨_, a2, a3, a4, a5, _, e⟩
    · omega
    · have e2 : cvF s p c0 (2 - 1) = 64 * c0 + bt s (p + 1) - 128 := rfl
      rw [e, e2]
      refine ⟨?_, rfl⟩
      simp only
      omega
    · omega
    · omega
  · have c1 := hc 1 (by omega) (by omega)
    have c2 := hc 2 (by omega) (by omega)
    rcases good_shape hb with ⟨a1, e⟩ | ⟨_, a2, a3, _, e⟩ | ⟨_, a2, a3, a4, _, e⟩ | ⟨_, a2, a3, a4, a5, _, e⟩
    · omega
    · omega
    · have e2 : cvF s p c0 (3 - 1) = 64 * (64 * c0 + bt s (p + 1) - 128) + bt s (p + 2) - 128 := rfl
      rw [e, e2]
      refine ⟨?_, rfl⟩
      simp only
      omega
    · omega
  · have c1 := hc 1 (by omega) (by omega)
    have c2 := hc 2 (by omega) (by omega)
    have c3 := hc 3 (by omega) (by omega)
    rcases good_shape hb with ⟨a1, e⟩ | ⟨_, a2, a3, _, e⟩ | ⟨_, a2, a3, a4, _, e⟩ | ⟨_, a2, a3, a4, a5, _, e⟩
    · omega
    · omega
    · omega
    · have e2 : cvF s p c0 (4 - 1) = 64 * (64 * (64 * c0 + bt s (p + 1) - 128) + bt s (p + 2) - 128) + bt s (p + 3) - 128 := rfl
      rw [e, e2]
      refine ⟨?_, rfl⟩
      simp only
      omega

theorem sl_bt {s : ByteArray} {p n i : Nat} {l : List UInt8} (h : sl s p n = l) (hi : i < l.length) : bt s (p + i) = (l[i]).toNat ∧ i < s.size - p := by
  have hl : i < ((s.data.toList.drop p).take n).length := by rw [show (s.data.toList.drop p).take n = l from h]; exact hi
  have hl' := hl
  rw [List.length_take, List.length_drop, size_list] at hl'
  have e : l[i]? = s.data.toList[p + i]? := by
    rw [← h, sl, List.getElem?_take_of_lt (by omega), List.getElem?_drop]
  rw [List.getElem?_eq_getElem hi] at e
  refine ⟨?_, by omega⟩
  unfold bt
  rw [List.getD_eq_getElem?_getD, ← e]
  rfl
theorem dec_of_enc {s : ByteArray} {p : Nat} {c : Int} (hc : 0 ≤ c ∧ c ≤ 1114111 ∧ (c < 55296 ∨ 57343 < c)) (h : sl s p (Lib.encodeRune c).length = Lib.encodeRune c) : ((Utf8.decode s p).1 : Int) = c ∧ wd s p = (Lib.encodeRune c).length ∧ bad s p = false := by
  obtain ⟨r0, r1, r2⟩ := hc
  have key : ∀ (m : Nat), Utf8.decode s p = (c.toNat, m) → (c.toNat, m) ≠ ((65533, 1) : Nat × Nat) → ((Utf8.decode s p).1 : Int) = c ∧ wd s p = m ∧ bad s p = false := fun m e hne => by
    refine ⟨by rw [e]; simp only; omega, by unfold wd; rw [e], ?_⟩
    unfold bad
    rw [e]
    simpa using hne
  by_cases h1 : c ≤ 127
  · have hE : Lib.encodeRune c = [c].map fun x => x.toNat.toUInt8 := by rw [Lib.encodeRune, Lib.encodeRuneZ_one r0 h1]
    rw [hE] at h ⊢
    obtain ⟨b0, s0⟩ := sl_bt h (i := 0) (by simp)
    simp at b0
    refine key 1 ?_ (by simp; omega)
    rw [dec_eq]
    have : bt s p = c.toNat := by omega
    rw [this]
    unfold Lib.decodeN
    rw [if_pos (by omega)]
  by_cases h2 : c ≤ 2047
  · have hE : Lib.encodeRune c = [192 + c / 64, 128 + c % 64].map fun x => x.toNat.toUInt8 := by rw [Lib.encodeRune, Lib.encodeRuneZ_two (by omega) h2]
    rw [hE] at h ⊢
    obtain ⟨b0, s0⟩ := sl_bt h (i := 0) (by simp)
    obtain ⟨b1, s1⟩ := sl_bt h (i := 1) (by simp)
    simp at b0 b1
    refine key 2 ?_ (by simp)
    rw [dec_eq]
    have e0 : bt s p = 192 + c.toNat / 64 := by omega
    have e1 : bt s (p + 1) = 128 + c.toNat % 64 := by omega
    have hl : c.toNat ≤ 2047 := by omega
    have hg : 128 ≤ c.toNat := by omega
    rw [e0, e1]
    generalize c.toNat = m at *
    unfold Lib.decodeN
    rw [if_neg (by omega), if_pos (by omega), if_pos (by omega)]
    apply Prod.ext <;> simp only <;> omega
  by_cases h3 : c ≤ 65535
  · have hE : Lib.encodeRune c = [224 + c / 4096, 128 + c / 64 % 64, 128 + c % 64].map fun x => x.toNat.toUInt8 := by rw [Lib.encodeRune, Lib.encodeRuneZ_three (by omega)]
    rw [hE] at h ⊢
    obtain ⟨b0, s0⟩ := sl_bt h (i := 0) (by simp)
    obtain ⟨b1, s1⟩ := sl_bt h (i := 1) (by simp)
    obtain ⟨b2, s2⟩ := sl_bt h (i := 2) (by simp)
    simp at b0 b1 b2
    refine key 3 ?_ (by simp)
    rw [dec_eq]
    have e0 : bt s p = 224 + c.toNat / 4096 := by omega
    have e1 : bt s (p + 1) = 128 + c.toNat / 64 % 64 := by omega
    have e2 : bt s (p + 2) = 128 + c.toNat % 64 := by omega
    have hl : c.toNat ≤ 65535 := by omega
    have hg : 2048 ≤ c.toNat := by omega
    have hv : c.toNat < 55296 ∨ 57344 ≤ c.toNat := by omega
    rw [e0, e1, e2]
    generalize c.toNat = m at *
    unfold Lib.decodeN
    rw [if_neg (by omega), if_neg (by omega), if_pos (by omega), if_pos (by omega)]
    apply Prod.ext <;> simp only <;> omega
  · have hE : Lib.encodeRune c = [240 + c / 262144, 128 + c / 4096 % 64, 128 + c / 64 % 64, 128 + c % 64].map fun x => x.toNat.toUInt8 := by rw [Lib.encodeRune, Lib.encodeRuneZ_four (by omega) (by omega)]
    rw [hE] at h ⊢
    obtain ⟨b0, s0⟩ := sl_bt h (i := 0) (by simp)
    obtain ⟨b1, s1⟩ := sl_bt h (i := 1) (by simp)
    obtain ⟨b2, s2⟩ := sl_bt h (i := 2) (by simp)
    obtain ⟨b3, s3⟩ := sl_bt h (i := 3) (by simp)
    simp at b0 b1 b2 b3
    refine key 4 ?_ (by simp)
    rw [dec_eq]
    have e0 : bt s p = 240 + c.toNat / 262144 := by omega
    have e1 : bt s (p + 1) = 128 + c.toNat / 4096 % 64 := by omega
    have e2 : bt s (p + 2) = 128 + c.toNat / 64 % 64 := by omega
    have e3 : bt s (p + 3) = 128 + c.toNat % 64 := by omega
    have hl : c.toNat ≤ 1114111 := by omega
    have hg : 65536 ≤ c.toNat := by omega
    rw [e0, e1, e2, e3]
    generalize c.toNat = m at *
    unfold Lib.decodeN
    rw [if_neg (by omega), if_neg (by omega), if_neg (by omega), if_pos (by omega), if_pos (by omega)]
    apply Prod.ext <;> simp only <;> omega
theorem dec_valid (s : ByteArray) (p : Nat) : Lib.validRune ((Utf8.decode s p).1 : Int) = true := by
  have q0 := bt_lt s p
  rw [dec_eq]
  unfold Lib.validRune
  rw [decide_eq_true_eq]
  rcases decN_cases (s.size - p) (bt s p) (bt s (p + 1)) (bt s (p + 2)) (bt s (p + 3)) with k | ⟨_, k⟩ | ⟨_, _, _, _, k⟩ | ⟨_, _, _, _, _, _, k⟩ | ⟨_, _, _, _, _, _, _, k⟩
  all_goals (rw [k]; simp only; omega)

end Go.Proofs.Ytlodjinejeajcab
namespace Go.Proofs.Ytlodjinejeajcab
open Go Go.RowKit
attribute [local go_sem] ext_cell

set_option maxHeartbeats 4000000 in
set_option maxRecDepth 1000000 in
theorem rIs_c (c : Int) (w : World) : Calls Try.prog 64 #[.int .i64 c] w fun e w' => e = .returned (.bool (isC c)) ∧ w' = w := by
  by_cases h0 : 0 ≤ c
  · by_cases h1 : c ≤ 1114111
    · by_cases h2 : c < 55296
      · have hv : Hid (isC c = true) := by show isC c = true; simp [isC]; omega
        go_enter Try.func64, Try.ntmps64
        go_wp2
        go_ret
        exact ⟨by rw [hv.out]; rfl, rfl⟩
      · by_cases h3 : 57343 < c
        · have hv : Hid (isC c = true) := by show isC c = true; simp [isC]; omega
          go_enter Try.func64, Try.ntmps64
          go_wp2
          go_ret
          exact ⟨by rw [hv.out]; rfl, rfl⟩
        · have hv : Hid (isC c = false) := by show isC c = false; simp [isC]; omega
          go_enter Try.func64, Try.ntmps64
          go_wp2
          go_ret
          exact ⟨by rw [hv.out]; rfl, rfl⟩
    · have hv : Hid (isC c = false) := by show isC c = false; simp [isC]; omega
      go_enter Try.func64, Try.ntmps64
      go_wp2
      go_ret
      exact ⟨by rw [hv.out]; rfl, rfl⟩
  · have hv : Hid (isC c = false) := by show isC c = false; simp [isC]; omega
    go_enter Try.func64, Try.ntmps64
    go_wp2
    go_ret
    exact ⟨by rw [hv.out]; rfl, rfl⟩

/-- A text out of bytes that were just laid. -/
theorem conv_new (w : World) (l : List Int) (hl : ∀ x ∈ l, 0 ≤ x ∧ x < 256) :
    (convert 98 9 (.slice (some ⟨w.heap.size, 0, none⟩) l.length l.length)).run Try.prog (w.alloc (.cells (l.map (Value.int .u8)).toArray 5)) = .ok (.string (txt (l.map fun x => x.toNat.toUInt8))) (w.alloc (.cells (l.map (Value.int .u8)).toArray 5)) := by
  have := run_convert_bytes_back (P := Try.prog) (w.alloc (.cells (l.map (Value.int .u8)).toArray 5)) 98 9 5 ⟨w.heap.size, 0, none⟩ l.length (l.map fun x => x.toNat.toUInt8) Try.underlying98 Try.underlying5 Try.underlying9 (fun j hj => by
    have hj' : j < l.length := by simpa using hj
    have e : (⟨w.heap.size, 0, none⟩ : Addr).add j = ⟨w.heap.size, j, none⟩ := by unfold Addr.add; simp; omega
    rw [e]
    refine (cell_row (alloc_new w _) (i := j) (v := .int .u8 l[j]) (by simp [hj'])).trans ?_
    have := hl l[j] (List.getElem_mem hj')
    simp
    omega)
  rw [List.length_map] at this
  exact this

set_option maxHeartbeats 4000000 in
set_option maxRecDepth 1000000 in
theorem rText_c (c : Int) (w : World) (hc : isC c = true) : Calls Try.prog 65 #[.int .i64 c] w fun e w' => e = .returned (.string (txt (Lib.encodeRune c))) ∧ Below w.heap.size w w' := by
  have hr : 0 ≤ c ∧ c ≤ 1114111 ∧ (c < 55296 ∨ 57343 < c) := by simpa [isC] using hc
  obtain ⟨r0, r1, r2⟩ := hr
  clear hc
  by_cases h1 : c < 128
  · have hE : Hid (Lib.encodeRune c = [c].map fun x => x.toNat.toUInt8) := by show Lib.encodeRune c = _; rw [Lib.encodeRune, Lib.encodeRuneZ_one r0 (by omega)]
    have hcv := conv_new w [c] (by simp; omega)
    have w1 : IntKind.wrap .u8 c = c := by rw [IntKind.wrap_u8]; omega
    simp only [List.map_cons, List.map_nil, List.length_cons, List.length_nil] at hcv hE
    clear r2
    go_enter Try.func65, Try.ntmps65
    go_wp2
    go_ret
    rw [hE.out]
    exact ⟨rfl, (Below.refl _ w).alloc (Nat.le_refl _) _⟩
  by_cases h2 : c < 2048
  · have hE : Hid (Lib.encodeRune c = [192 + c / 64, 128 + c % 64].map fun x => x.toNat.toUInt8) := by show Lib.encodeRune c = _; rw [Lib.encodeRune, Lib.encodeRuneZ_two (by omega) (by omega)]
    have hcv := conv_new w [192 + c / 64, 128 + c % 64] (by simp; omega)
    have q1 : c.tdiv 64 = c / 64 := Int.tdiv_eq_ediv_of_nonneg r0
    have q2 : c.tmod 64 = c % 64 := Int.tmod_eq_emod_of_nonneg r0
    have v1 : IntKind.wrap .i64 (c / 64) = c / 64 := wrap_small _ (by omega) (by omega)
    have v2 : IntKind.wrap .i64 (192 + c / 64) = 192 + c / 64 := wrap_small _ (by omega) (by omega)
    have v3 : IntKind.wrap .u8 (192 + c / 64) = 192 + c / 64 := by rw [IntKind.wrap_u8]; omega
    have v4 : IntKind.wrap .i64 (c % 64) = c % 64 := wrap_small _ (by omega) (by omega)
    have v5 : IntKind.wrap .i64 (128 + c % 64) = 128 + c % 64 := wrap_small _ (by omega) (by omega)
    have v6 : IntKind.wrap .u8 (128 + c % 64) = 128 + c % 64 := by rw [IntKind.wrap_u8]; omega
    simp only [List.map_cons, List.map_nil, List.length_cons, List.length_nil] at hcv hE
    clear r2
    go_enter Try.func65, Try.ntmps65
    go_wp2
    go_ret
    rw [hE.out]
    exact ⟨rfl, (Below.refl _ w).alloc (Nat.le_refl _) _⟩
  have v4 : IntKind.wrap .i64 (c % 64) = c % 64 := wrap_small _ (by omega) (by omega)
  have v5 : IntKind.wrap .i64 (128 + c % 64) = 128 + c % 64 := wrap_small _ (by omega) (by omega)
  have v6 : IntKind.wrap .u8 (128 + c % 64) = 128 + c % 64 := by rw [IntKind.wrap_u8]; omega
  have q1 : c.tdiv 64 = c / 64 := Int.tdiv_eq_ediv_of_nonneg r0
  have q2 : c.tmod 64 = c % 64 := Int.tmod_eq_emod_of_nonneg r0
  have q3 : c.tdiv 4096 = c / 4096 := Int.tdiv_eq_ediv_of_nonneg r0
  have q4 : (c / 64).tmod 64 = c / 64 % 64 := Int.tmod_eq_emod_of_nonneg (by omega)
  have u1 : IntKind.wrap .i64 (c / 64) = c / 64 := wrap_small _ (by omega) (by omega)
  have u2 : IntKind.wrap .i64 (c / 4096) = c / 4096 := wrap_small _ (by omega) (by omega)
  have u3 : IntKind.wrap .i64 (c / 64 % 64) = c / 64 % 64 := wrap_small _ (by omega) (by omega)
  have u4 : IntKind.wrap .i64 (128 + c / 64 % 64) = 128 + c / 64 % 64 := wrap_small _ (by omega) (by omega)
  have u5 : IntKind.wrap .u8 (128 + c / 64 % 64) = 128 + c / 64 % 64 := by rw [IntKind.wrap_u8]; omega
  by_cases h3 : c < 65536
  · have hE : Hid (Lib.encodeRune c = [224 + c / 4096, 128 + c / 64 % 64, 128 + c % 64].map fun x => x.toNat.toUInt8) := by show Lib.encodeRune c = _; rw [Lib.encodeRune, Lib.encodeRuneZ_three (by omega)]
    have hcv := conv_new w [224 + c / 4096, 128 + c / 64 % 64, 128 + c % 64] (by simp; omega)
    have u6 : IntKind.wrap .i64 (224 + c / 4096) = 224 + c / 4096 := wrap_small _ (by omega) (by omega)
    have u7 : IntKind.wrap .u8 (224 + c / 4096) = 224 + c / 4096 := by rw [IntKind.wrap_u8]; omega
    simp only [List.map_cons, List.map_nil, List.length_cons, List.length_nil] at hcv hE
    clear r2
    go_enter Try.func65, Try.ntmps65
    go_wp2
    go_ret
    rw [hE.out]
    exact ⟨rfl, (Below.refl _ w).alloc (Nat.le_refl _) _⟩
  · have hE : Hid (Lib.encodeRune c = [240 + c / 262144, 128 + c / 4096 % 64, 128 + c / 64 % 64, 128 + c % 64].map fun x => x.toNat.toUInt8) := by show Lib.encodeRune c = _; rw [Lib.encodeRune, Lib.encodeRuneZ_four (by omega) (by omega)]
    have hcv := conv_new w [240 + c / 262144, 128 + c / 4096 % 64, 128 + c / 64 % 64, 128 + c % 64] (by simp; omega)
    have q5 : c.tdiv 262144 = c / 262144 := Int.tdiv_eq_ediv_of_nonneg r0
    have q6 : (c / 4096).tmod 64 = c / 4096 % 64 := Int.tmod_eq_emod_of_nonneg (by omega)
    have u6 : IntKind.wrap .i64 (c / 262144) = c / 262144 := wrap_small _ (by omega) (by omega)
    have u7 : IntKind.wrap .i64 (240 + c / 262144) = 240 + c / 262144 := wrap_small _ (by omega) (by omega)
    have u8 : IntKind.wrap .u8 (240 + c / 262144) = 240 + c / 262144 := by rw [IntKind.wrap_u8]; omega
    have u9 : IntKind.wrap .i64 (c / 4096 % 64) = c / 4096 % 64 := wrap_small _ (by omega) (by omega)
    have u10 : IntKind.wrap .i64 (128 + c / 4096 % 64) = 128 + c / 4096 % 64 := wrap_small _ (by omega) (by omega)
    have u11 : IntKind.wrap .u8 (128 + c / 4096 % 64) = 128 + c / 4096 % 64 := by rw [IntKind.wrap_u8]; omega
    simp only [List.map_cons, List.map_nil, List.length_cons, List.length_nil] at hcv hE
    clear r2
    go_enter Try.func65, Try.ntmps65
    go_wp2
    go_ret
    rw [hE.out]
    exact ⟨rfl, (Below.refl _ w).alloc (Nat.le_refl _) _⟩
end Go.Proofs.Ytlodjinejeajcab
