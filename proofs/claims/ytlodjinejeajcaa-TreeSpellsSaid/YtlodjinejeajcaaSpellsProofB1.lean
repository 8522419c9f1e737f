/-
  Literal: the tree of a text. Units of a text that is put together of two. A right tree without groups: its Kids are right by themselves. What Literal makes is right; of two texts it is Cat of both.
-/
import Derived.Test.YtlodjinejeajcaaSpellsProofB0
import Derived.Test.YtlodjinejeajcaaC14
namespace Go.Proofs.Ytlodjinejeajcaa
open Go Go.RowKit

theorem us_bd (s : ByteArray) : ∀ f p, ∀ u ∈ uFrom s f p, u.2 ≤ 1114111
  | 0, p, u, h => by simp [uFrom] at h
  | f + 1, p, u, h => by
    by_cases hp : p < s.size
    · rw [uFrom_more s f p hp] at h
      rcases List.mem_cons.1 h with rfl | h
      · show ch s p ≤ _
        by_cases hb : bad s p = true
        · rw [(ch_bad hb).1]; omega
        · rw [ch_good (by simpa using hb)]; have := dec_le s p; omega
      · exact us_bd s f _ u h
    · rw [uFrom_end s _ p hp] at h; cases h
theorem litL_bd (c : Bool) (s : ByteArray) : ∀ x ∈ litL c s, 0 ≤ x ∧ x ≤ 1114111 := by
  intro x hx
  unfold litL at hx
  cases c with
  | true =>
    simp only [if_true] at hx
    unfold dList at hx
    split at hx
    · rename_i hg
      obtain ⟨u, hu, rfl⟩ := List.mem_map.1 hx
      have h1 := List.all_eq_true.1 hg u hu
      exact ⟨by simpa using h1, us_bd s _ _ u hu⟩
    · cases hx
  | false =>
    simp only [Bool.false_eq_true, if_false, byL] at hx
    obtain ⟨b, -, rfl⟩ := List.mem_map.1 hx
    have := b.toNat_lt
    omega
theorem litL_len (c : Bool) (s : ByteArray) : (litL c s).length ≤ s.size := by
  unfold litL
  cases c with
  | true =>
    simp only [if_true]
    unfold dList
    split
    · rw [chs_len]; exact us_length s
    · exact Nat.zero_le _
  | false => simp [byL]
def zT : Tr := .mk (bare 0) []
theorem made_nodes (n : Nat) : (madeCells (Value.agg #[.int .i64 0, .int .i64 0, .int .i64 0, .int .i64 0, .slice none 0 0, .slice none 0 0]).cells (n * 6)).toList = cellsK (List.replicate n zT) := by
  refine List.ext_getElem (by simp [madeCells, cellsK_length]) fun i h1 h2 => ?_
  have hi : i < n * 6 := by simpa [madeCells] using h1
  have hc : (cellsK (List.replicate n zT))[i]? = zT.f.cells[i % 6]? := by
    have := cellsK_get (List.replicate n zT) (i / 6) (i % 6) zT (by rw [List.getElem?_replicate, if_pos (by omega)]) (Nat.mod_lt _ (by omega))
    rwa [show i / 6 * 6 + i % 6 = i by omega] at this
  have h3 : (cellsK (List.replicate n zT))[i]? = some ((cellsK (List.replicate n zT))[i]) := List.getElem?_eq_getElem h2
  rw [hc] at h3
  have h4 : i % 6 < 6 := Nat.mod_lt _ (by omega)
  have h5 : ((madeCells (Value.agg #[.int .i64 0, .int .i64 0, .int .i64 0, .int .i64 0, .slice none 0 0, .slice none 0 0]).cells (n * 6)).toList)[i] = #[.int .i64 0, .int .i64 0, .int .i64 0, .int .i64 0, .slice none 0 0, .slice none 0 0][i % 6]! := by
    simp [madeCells, Value.cells]
  rw [h5]
  generalize i % 6 = j at h3 h4
  match j, h4, h3 with
  | 0, _, h3 => injection h3
  | 1, _, h3 => injection h3
  | 2, _, h3 => injection h3
  | 3, _, h3 => injection h3
  | 4, _, h3 => injection h3
  | 5, _, h3 => injection h3
/-- How Literal's loop stands. -/
structure LtS (w : World) (bm bz g : Nat) (c f : Bool) (q : Option Addr) (k : Nat) (l : List Int) (nk old : List Tr) (W : World) : Prop where
  md : W.heap[bm]? = some (.cells #[.bool c, .bool f] 27 (0, 0))
  res : W.heap[bz]? = some (.cells #[.int .i64 0, .int .i64 0, .int .i64 0, .int .i64 0, .slice none 0 0, .slice none 0 0] 25 (0, 0))
  lst : W.ownsRow w.heap.size 3 1 (.slice q l.length k) l.length (ints l)
  bel : Below w.heap.size w W
  row : KR W g (nk ++ old)
  new : ∀ u ∈ nk, TA W u ∧ Foot (fun k => g < k) u
theorem LtS.kept {w W W' : World} {bm bz g k : Nat} {c f : Bool} {q : Option Addr} {l : List Int} {nk old : List Tr} (h : LtS w bm bz g c f q k l nk old W) (hb : Below W.heap.size W W') : LtS w bm bz g c f q k l nk old W' :=
  ⟨(hb.block _ (lt_of_heap h.md)).trans h.md, (hb.block _ (lt_of_heap h.res)).trans h.res, ownsRow_fr h.lst (Fr.of_below (S := fun _ => False) hb) (fun _ _ z => z), chain h.bel hb (Nat.le_refl _), h.row.kept hb, fun u hu => ⟨(h.new u hu).1.kept hb, (h.new u hu).2⟩⟩
theorem LtS.next {w W : World} {bm bz g k j : Nat} {c f : Bool} {q : Option Addr} {l : List Int} {nk old : List Tr} {t : Tr} (h : LtS w bm bz g c f q k l nk old W) (hj : nk.length = j) (ho : old ≠ []) (hz : bz ≠ g) (hwg : w.heap.size ≤ g) (ht : TA W t) (hf : Foot (fun k => g < k) t) :
    LtS w bm bz g c f q k l (nk ++ [t]) old.tail (put6 W g (j * 6) t.f) := by
  have F := put6_fr W g (j * 6) t.f
  have hl : j < (nk ++ old).length := by
    rw [List.length_append]
    cases old with
    | nil => exact absurd rfl ho
    | cons x r => simp; omega
  obtain ⟨cur, hcur⟩ := h.row.blk
  have K : CKeep (fun k => g < k) W (put6 W g (j * 6) t.f) := F.ckeep (fun k e z => by omega)
  refine ⟨(F.block _ (lt_of_heap h.md) (fun e => ?_)).trans h.md, (F.block _ (lt_of_heap h.res) hz).trans h.res, ownsRow_fr h.lst F (fun k hk e => ?_), chainF h.bel F (Nat.le_refl _) (fun k e => by omega), ?_, fun u hu => ?_⟩
  · subst e
    have := h.md
    rw [hcur] at this
    cases this
  · subst e
    exact ownsRow_not h.lst hcur (by decide) hk
  · have := h.row.set hl t
    cases old with
    | nil => exact absurd rfl ho
    | cons x r =>
      rw [List.set_append_right _ _ (by omega), hj, Nat.sub_self, List.set_cons_zero] at this
      rw [List.append_assoc]
      exact this
  · rcases List.mem_append.1 hu with q | q
    · exact ⟨(h.new u q).1.ckN (h.new u q).2 K, (h.new u q).2⟩
    · simp at q
      subst q
      exact ⟨ht.ckN hf K, hf⟩
/-- Sets of characters, one behind the other. -/
def ECs (f : Bool) : List Int → List Er → Prop
  | [], [] => True
  | c :: l, E :: L => EC f c E ∧ ECs f l L
  | _, _ => False
theorem ECs.snoc {f : Bool} : ∀ {l : List Int} {L : List Er} {c : Int} {E : Er}, ECs f l L → EC f c E → ECs f (l ++ [c]) (L ++ [E])
  | [], [], _, _, _, h => ⟨h, trivial⟩
  | [], _ :: _, _, _, h, _ => h.elim
  | _ :: _, [], _, _, h, _ => h.elim
  | _ :: _, _ :: _, _, _, h, k => ⟨h.1, h.2.snoc k⟩
theorem ECs.one {f : Bool} : ∀ {l : List Int} {L M : List Er}, ECs f l L → ECs f l M → L = M
  | [], [], [], _, _ => rfl
  | [], _ :: _, _, h, _ => h.elim
  | [], [], _ :: _, _, h => h.elim
  | _ :: _, [], _, h, _ => h.elim
  | _ :: _, _ :: _, [], _, h => h.elim
  | _ :: _, _ :: _, _ :: _, h, k => by rw [h.1.one k.1, h.2.one k.2]
theorem ECs.app {f : Bool} : ∀ {l m : List Int} {L M : List Er}, ECs f l L → ECs f m M → ECs f (l ++ m) (L ++ M)
  | [], _, [], _, _, h => h
  | [], _, _ :: _, _, h, _ => h.elim
  | _ :: _, _, [], _, h, _ => h.elim
  | _ :: _, _, _ :: _, _, h, k => ⟨h.1, h.2.app k⟩
theorem ECs.mem {f : Bool} : ∀ {l : List Int} {L : List Er}, ECs f l L → ∀ E ∈ L, ∃ c ∈ l, EC f c E
  | [], [], _, E, hE => by cases hE
  | [], _ :: _, h, _, _ => h.elim
  | _ :: _, [], h, _, _ => h.elim
  | c :: l, E :: L, h, F, hF => by
    rcases List.mem_cons.1 hF with rfl | hF
    · exact ⟨c, List.mem_cons_self, h.1⟩
    · obtain ⟨d, hd, hk⟩ := h.2.mem F hF
      exact ⟨d, List.mem_cons_of_mem _ hd, hk⟩
theorem ECs.len {f : Bool} : ∀ {l : List Int} {L : List Er}, ECs f l L → L.length = l.length
  | [], [], _ => rfl
  | [], _ :: _, h => h.elim
  | _ :: _, [], h => h.elim
  | _ :: _, _ :: _, h => by rw [List.length_cons, List.length_cons, h.2.len]
theorem EC.k {f : Bool} {c : Int} {E : Er} (h : EC f c E) : E.k = 2 ∧ E.ks = [] := by
  obtain ⟨C, rfl, -⟩ := h
  exact ⟨rfl, rfl⟩
/-- What Literal answers. -/
def LitIs (w : World) (c f : Bool) (s : ByteArray) (e : Ending) (w' : World) : Prop :=
  (litE c s ≠ 0 ∧ e = .returned (.tuple #[.agg #[.int .i64 0, .int .i64 0, .int .i64 0, .int .i64 0, .slice none 0 0, .slice none 0 0], .int .i64 (litE c s)]) ∧ Below w.heap.size w w') ∨
  (litE c s = 0 ∧ ∃ t' L, e = .returned (.tuple #[.agg #[.int .i64 t'.f.k, .int .i64 t'.f.n, .int .i64 t'.f.mn, .int .i64 t'.f.mx, .slice t'.f.rq t'.f.rs.length t'.f.rc, .slice t'.f.kq t'.f.kl t'.f.kc], .int .i64 0]) ∧ TA w' t' ∧ er t' = joinE 5 L (.mk 1 0 0 0 [] []) ∧ ECs f (litL c s) L ∧ Below w.heap.size w w')
theorem ret_lit {R : Ending → World → Prop} {a : Act} {W : World} {b : Nat} {f : Fl} {x : Int} (h : Six W b 0 f) (ha : a.tmps[4]?.getD undef = .pointer (some ⟨b, 0, none⟩)) (hb : a.tmps[5]?.getD undef = .int .i64 x) (hd : a.defers = []) (hR : R (.returned (.tuple #[.agg #[.int .i64 f.k, .int .i64 f.n, .int .i64 f.mn, .int .i64 f.mx, .slice f.rq f.rs.length f.rc, .slice f.kq f.kl f.kc], .int .i64 x])) W) : bodyPost Try.prog Try.f19 R .ret a W := by
  obtain ⟨z0, z1, z2, z3, z4, z5⟩ := h
  simp only [Nat.zero_add] at z1 z2 z3 z4 z5
  refine bodyPost_ret (v := .tuple #[.agg #[.int .i64 f.k, .int .i64 f.n, .int .i64 f.mn, .int .i64 f.mx, .slice f.rq f.rs.length f.rc, .slice f.kq f.kl f.kc], .int .i64 x]) ?_ hd hR
  simp [results, Try.results19, go_sem, ha, hb, z0, z1, z2, z3, z4, z5]
theorem flat_sets {ks : List Tr} (h : ∀ u ∈ ks, u.f.k = 2) : ks.flatMap catT = ks := by
  induction ks with
  | nil => rfl
  | cons u ks ih =>
    rw [List.flatMap_cons, ih (fun v hv => h v (List.mem_cons_of_mem _ hv))]
    have := h u (List.mem_cons_self ..)
    unfold catT
    rw [if_neg (by omega), if_neg (by omega)]
    rfl
set_option maxRecDepth 1000000 in
set_option maxHeartbeats 8000000 in
theorem literal_c (s : ByteArray) (w : World) (c f : Bool) (hs : s.size ≤ 2000) :
    Calls Try.prog 19 #[.string s, .agg #[.bool c, .bool f]] w (LitIs w c f s) := by
  have CH := hide (fun W => characters_c s W c f (by omega))
  have hlen : (litL c s).length ≤ 2000 := Nat.le_trans (litL_len c s) hs
  have BD := hide (litL_bd c s)
  obtain ⟨l, hl⟩ : ∃ l, litL c s = l := ⟨_, rfl⟩
  have HL := hide hl
  rw [hl] at CH hlen BD
  obtain ⟨x, hx⟩ : ∃ x, litE c s = x := ⟨_, rfl⟩
  have HX := hide hx
  rw [hx] at CH
  have B1 : Hid (Below w.heap.size w ((w.alloc (.cells #[.bool c, .bool f] 27)).alloc (.cells #[.int .i64 0, .int .i64 0, .int .i64 0, .int .i64 0, .slice none 0 0, .slice none 0 0] 25))) := ((Below.refl _ _).alloc (Nat.le_refl _) _).alloc (by simp) _
  have M1 : Hid (((w.alloc (.cells #[.bool c, .bool f] 27)).alloc (.cells #[.int .i64 0, .int .i64 0, .int .i64 0, .int .i64 0, .slice none 0 0, .slice none 0 0] 25)).heap[w.heap.size]? = some (.cells #[.bool c, .bool f] 27 (0, 0))) := (Below.heap_alloc _ _ _ (by simp)).trans (alloc_new w _)
  have Z1 : Hid (((w.alloc (.cells #[.bool c, .bool f] 27)).alloc (.cells #[.int .i64 0, .int .i64 0, .int .i64 0, .int .i64 0, .slice none 0 0, .slice none 0 0] 25)).heap[w.heap.size + 1]? = some (.cells #[.int .i64 0, .int .i64 0, .int .i64 0, .int .i64 0, .slice none 0 0, .slice none 0 0] 25 (0, 0))) := (by
    have := alloc_new (w.alloc (.cells #[.bool c, .bool f] 27)) (.cells #[.int .i64 0, .int .i64 0, .int .i64 0, .int .i64 0, .slice none 0 0, .slice none 0 0] 25)
    rwa [World.size_alloc] at this)
  clear hl hx
  go_enter Try.func19, Try.ntmps19
  go_upto_region 1 with fail
  generalize ((w.alloc (.cells #[.bool c, .bool f] 27)).alloc (.cells #[.int .i64 0, .int .i64 0, .int .i64 0, .int .i64 0, .slice none 0 0, .slice none 0 0] 25)) = W1 at B1 M1 Z1 ⊢
  obtain ⟨bz, hbz⟩ : ∃ bz, w.heap.size + 1 = bz := ⟨_, rfl⟩
  rw [hbz] at Z1 ⊢
  have hwz : w.heap.size ≤ bz := by omega
  have m0 := cell_row M1.out (i := 0) rfl
  have m1 := cell_row M1.out (i := 1) rfl
  clear hbz
  go_upto_region 2 with (go_at_call 36; (with_reducible refine (CH.out _).mono ?_); rintro e w5 ⟨v5, rfl, h51, h52⟩; obtain ⟨q5, k5, rfl⟩ := ownsRow_shape h51; have O5 := hide h51; have B5 := hide h52; clear h51 h52)
  have M5 : Hid (w5.heap[w.heap.size]? = some (.cells #[.bool c, .bool f] 27 (0, 0))) := (B5.out.block _ (lt_of_heap M1.out)).trans M1.out
  have Z5 : Hid (w5.heap[bz]? = some (.cells #[.int .i64 0, .int .i64 0, .int .i64 0, .int .i64 0, .slice none 0 0, .slice none 0 0] 25 (0, 0))) := (B5.out.block _ (lt_of_heap Z1.out)).trans Z1.out
  have B6 : Hid (Below w.heap.size w w5) := chain B1.out B5.out (Nat.le_refl _)
  have O6 : Hid (w5.ownsRow w.heap.size 3 1 (.slice q5 l.length k5) l.length (ints l)) := ownsRow_mono O5.out B1.out.size
  have hz1 : bz < w5.heap.size := lt_of_heap Z5.out
  clear m0 m1 M1 Z1 B1 B5 O5 CH
  by_cases hx0 : x = 0
  · have e0 : (x != 0) = false := by simpa using hx0
    subst hx0
    obtain ⟨t0, hi, hz0, hzz1, hzz2⟩ := info_parts size_node
    have hmx : l.length ≤ maxLen := by unfold maxLen; omega
    go_upto_region 6 with (at_make; refine wpList_make_full _ rfl _ _ 23 rfl w.heap.size 25 t0 (.agg #[.int .i64 0, .int .i64 0, .int .i64 0, .int .i64 0, .slice none 0 0, .slice none 0 0]) 6 und_nodes hi hz0 hzz1 .i64 .i64 (l.length : Int) (l.length : Int) l.length rfl rfl rfl rfl (by rw [hzz2]; omega) hmx B6.out.size ?_; intro w7 hown7 hg7; rw [made_nodes] at hown7; have O7 := hide hown7; have B7 : Hid (Below w5.heap.size w5 w7) := ⟨hg7.os, hg7.tape, hg7.output, hg7.size, fun k hk => hg7.block k hk (fun e => by cases e)⟩; clear hown7 hg7)
    have KR7 := hide (KR.of_row O7.out)
    obtain ⟨g, hg⟩ : ∃ g, w5.heap.size = g := ⟨_, rfl⟩
    rw [hg] at KR7 ⊢
    have hwg : w.heap.size ≤ g := by have := B6.out.size; omega
    have hzg : bz ≠ g := by omega
    have C7 : Hid (LtS w w.heap.size bz g c f q5 k5 l [] (List.replicate l.length zT) w7) := ⟨(B7.out.block _ (lt_of_heap M5.out)).trans M5.out, (B7.out.block _ (lt_of_heap Z5.out)).trans Z5.out, ownsRow_fr O6.out (Fr.of_below (S := fun _ => False) B7.out) (fun _ _ z => z), chain B6.out B7.out (Nat.le_refl _), KR7.out, fun u hu => by cases hu⟩
    clear M5 Z5 B6 O6 O7 B7 KR7 hg hz1 t0 hi hz0 hzz1 hzz2
    go_loopw [26] (fun i wr => ∃ (j : Nat) (nk : List Tr), j ≤ l.length ∧ i = .int .i64 (j : Int) ∧ nk.length = j ∧ ECs f (l.take j) (nk.map er) ∧ LtS w w.heap.size bz g c f q5 k5 l nk (List.replicate (l.length - j) zT) wr) (fun i _ => l.length - (intOf i).toNat)
    case atStart => exact ⟨0, [], Nat.zero_le _, rfl, rfl, trivial, C7.out⟩
    case round =>
      clear C7
      obtain ⟨j, nk, hj, rfl, hnk, hec, hcs⟩ := hrel
      have HS := hide hcs
      have HEC := hide hec
      have HNK := hide hnk
      clear hcs hec hnk
      by_cases hjl : j < l.length
      · have i0 : (j : Int) < (l.length : Int) := by omega
        obtain ⟨y, hy⟩ : ∃ y, l[j]? = some y := ⟨_, List.getElem?_eq_getElem hjl⟩
        have HY := hide hy
        obtain ⟨gl, cc, hq⟩ := ownsRow_some HS.out.lst (by omega)
        injection hq with hq1 _ hq2
        subst hq1 hq2
        have ly : wr.cell? ⟨gl, j, none⟩ = some (.int .i64 y) := ownsRow_cell HS.out.lst (by simp [ints, hy])
        have md0 := cell_row HS.out.md (i := 0) rfl
        have md1 := cell_row HS.out.md (i := 1) rfl
        have hb := BD.out y (List.mem_of_getElem? hy)
        have CC := hide (character_c (w := wr) y hb c f)
        have hug := HS.out.row.lt
        have hrp : List.replicate (l.length - j) zT = zT :: List.replicate (l.length - (j + 1)) zT := by rw [show l.length - j = (l.length - (j + 1)) + 1 by omega, List.replicate_succ]
        have HRP := hide hrp
        have CU : Hid (Calls Try.prog 37 #[.int .i64 y, .agg #[.bool c, .bool f]] wr fun e w5 => ∃ t5 : Tr, e = .returned (.agg #[.int .i64 t5.f.k, .int .i64 t5.f.n, .int .i64 t5.f.mn, .int .i64 t5.f.mx, .slice t5.f.rq t5.f.rs.length t5.f.rc, .slice t5.f.kq t5.f.kl t5.f.kc]) ∧ LtS w w.heap.size bz g c f (some ⟨gl, 0, none⟩) k5 l nk (List.replicate (l.length - j) zT) w5 ∧ Six w5 g (j * 6) zT.f ∧ LtS w w.heap.size bz g c f (some ⟨gl, 0, none⟩) k5 l (nk ++ [t5]) (List.replicate (l.length - (j + 1)) zT) (put6 w5 g (j * 6) t5.f) ∧ EC f y (er t5)) := CC.out.mono fun e w5 ⟨t5, h50, h51, h52, h53, h54⟩ => (by
          have S5 := HS.out.kept h54
          have S6 := S5.next (t := t5) (j := j) HNK.out (by rw [HRP.out]; simp) hzg hwg h51 (h53.mono (fun k hk => Nat.lt_of_lt_of_le hug hk))
          rw [HRP.out] at S6
          refine ⟨t5, h50, S5, S5.row.six j zT (by rw [HRP.out, List.getElem?_append_right (by have := HNK.out; omega), HNK.out, Nat.sub_self]; rfl), S6, h52⟩)
        clear hy CC hb hug hrp
        go_wp2_with (go_at_call 37; (with_reducible refine (CU.out).mono ?_); rintro e w5 ⟨t5, rfl, h51, h52, h53, h54⟩; obtain ⟨y0, y1, y2, y3, y4, y5⟩ := h52; have S5 := hide h51; have fz := fun z => S5.out.row.frz z; unfold put6 at h53; have S6 := hide h53; have E6 := hide h54; clear h51 h53 h54)
        have HEN := hide (show ECs f (l.take (j + 1)) ((nk ++ [t5]).map er) by
          rw [List.take_add_one, HY.out, List.map_append]
          exact HEC.out.snoc E6.out)
        go_roundw
        case rel => exact ⟨j + 1, nk ++ [t5], by omega, by go_num, by rw [List.length_append, HNK.out]; rfl, HEN.out, S6.out⟩
        case measure => simp only [intOf]; omega
      · have i0 : ¬ (j : Int) < (l.length : Int) := by omega
        have hje : j = l.length := by omega
        have S9 := HS.out
        rw [show l.length - j = 0 by omega, List.replicate_zero] at S9
        have hrow := S9.row
        rw [List.append_nil] at hrow
        have hec := HEC.out
        rw [List.take_of_length_le (by omega)] at hec
        have hnl : nk.length = l.length := by have := HNK.out; omega
        have hk2 : ∀ u ∈ nk, u.f.k = 2 := fun u hu => by
          obtain ⟨z, -, hz⟩ := hec.mem (er u) (List.mem_map_of_mem hu)
          rw [← er_k]
          exact hz.k.1
        have hszs : szs nk = nk.length := by
          have : ∀ m : List Tr, (∀ u ∈ m, u ∈ nk) → szs m = m.length := by
            intro m
            induction m with
            | nil => intro _; rw [szs_nil]; rfl
            | cons u m ih =>
              intro h
              obtain ⟨z, -, hz⟩ := hec.mem (er u) (List.mem_map_of_mem (h u (List.mem_cons_self ..)))
              have h1 : u.sz = 1 := by rw [← er_sz, esz_eq, hz.k.2, eszs_nil]
              rw [szs_cons, h1, ih (fun v hv => h v (List.mem_cons_of_mem _ hv)), List.length_cons]
              omega
          exact this nk (fun _ h => h)
        have CT := cat_c (hrow.arg (Nat.le_refl nk.length) (by rw [hnl]; exact hmx)) (fun u hu => (S9.new u hu).1) (by rw [hszs, hnl]; omega)
        rw [flat_sets hk2, hnl] at CT
        have HCT := hide CT
        have HRES := hide S9.res
        have HBEL := hide S9.bel
        have HEC9 := hide hec
        have LZ := lt_of_heap S9.res
        clear CT S9 hrow hec hnl hk2 hszs hje HS HEC HNK
        go_upto_region 11 with (go_at_call 16; (with_reducible refine (HCT.out).mono ?_); rintro e w9 ⟨t9, rfl, h91, h92, h93, h94⟩; have R9 : w9.heap[bz]? = some (.cells #[.int .i64 0, .int .i64 0, .int .i64 0, .int .i64 0, .slice none 0 0, .slice none 0 0] 25 (0, 0)) := (h94.block _ LZ).trans HRES.out; have r0 := cell_row R9 (i := 0) rfl; have r1 := cell_row R9 (i := 1) rfl; have r2 := cell_row R9 (i := 2) rfl; have r3 := cell_row R9 (i := 3) rfl; have r4 := cell_row R9 (i := 4) rfl; have r5 := cell_row R9 (i := 5) rfl; have fz := fun z => frz_row R9 z; have L9 := hide (laid_res h91 (h92.mono (fun k hk => Nat.lt_of_lt_of_le LZ hk)) R9); have X9 := hide L9.out.1; have P9 := hide L9.out.2.2; unfold put6 at X9 P9; have Q9 := hide (⟨h93, chain HBEL.out h94 (Nat.le_refl _)⟩ : er t9 = _ ∧ Below w.heap.size w w9); clear h91 h92 h93 h94)
        refine ret_lit X9.out rfl rfl rfl (.inr ⟨HX.out, t9, nk.map er, rfl, L9.out.2.1, Q9.out.1, by rw [HL.out]; exact HEC9.out, chainF Q9.out.2 P9.out (Nat.le_refl _) (fun k e => by omega)⟩)
  · have e0 : (x != 0) = true := by simpa using hx0
    have r0 := cell_row Z5.out (i := 0) rfl
    have r1 := cell_row Z5.out (i := 1) rfl
    have r2 := cell_row Z5.out (i := 2) rfl
    have r3 := cell_row Z5.out (i := 3) rfl
    have r4 := cell_row Z5.out (i := 4) rfl
    have r5 := cell_row Z5.out (i := 5) rfl
    have fz := fun z => frz_row Z5.out z
    have L9 := hide (laid_res (bare_ta w5 0) (bare_foot (fun i => bz < i) 0) Z5.out)
    have X9 := hide L9.out.1
    have P9 := hide L9.out.2.2
    unfold put6 at X9 P9
    have HX0 := hide hx0
    clear hx0
    go_wp2
    refine ret_lit (f := bare 0) X9.out rfl rfl rfl (.inl ⟨by rw [HX.out]; exact HX0.out, by rw [HX.out]; rfl, chainF B6.out P9.out (Nat.le_refl _) (fun k e => by omega)⟩)
end Go.Proofs.Ytlodjinejeajcaa
namespace Go.Proofs.Ytlodjinejeajcaa
open Go

def sl (s : ByteArray) (p n : Nat) : List UInt8 := (s.data.toList.drop p).take n
theorem decL (s : ByteArray) (p : Nat) : Lib.decodeL (s.data.toList.drop p) = Utf8.decode s p := by
  rw [Lib.decodeL_N, Lib.decode_N, List.length_drop]
  simp only [List.getD_eq_getElem?_getD, List.getElem?_drop, Nat.add_zero]
theorem enc_sl (s : ByteArray) (p : Nat) (hp : p < s.size) (hb : bad s p = false) : Lib.encodeRune ((Utf8.decode s p).1 : Int) = sl s p (wd s p) := by
  have hne : s.data.toList.drop p ≠ [] := by
    intro e
    have := congrArg List.length e
    rw [List.length_drop, size_list] at this
    simp at this; omega
  have := Lib.encode_decode (s.data.toList.drop p) hne (by
    rw [decL]
    rintro ⟨h1, h2⟩
    have : bad s p = true := by
      unfold bad
      rw [decide_eq_true_eq]
      exact Prod.ext h1 h2
    rw [hb] at this; cases this)
  rw [decL] at this
  exact this
theorem dec_valid (s : ByteArray) (p : Nat) : Lib.validRune ((Utf8.decode s p).1 : Int) = true := by
  have q0 := bt_lt s p
  rw [dec_eq]
  unfold Lib.validRune
  rw [decide_eq_true_eq]
  rcases decN_cases (s.size - p) (bt s p) (bt s (p + 1)) (bt s (p + 2)) (bt s (p + 3)) with k | ⟨_, k⟩ | ⟨_, _, _, _, k⟩ | ⟨_, _, _, _, _, _, k⟩ | ⟨_, _, _, _, _, _, _, k⟩
  all_goals (rw [k]; simp only; omega)
theorem sl_bt {s : ByteArray} {p n i : Nat} {l : List UInt8} (h : sl s p n = l) (hi : i < l.length) : bt s (p + i) = (l[i]).toNat ∧ i < s.size - p := by
  have hl : i < ((s.data.toList.drop p).take n).length := by rw [show (s.data.toList.drop p).take n = l from h]; exact hi
  have hl' := hl
  rw [List.length_take, List.length_drop, size_list] at hl'
  have e : l[i]? = s.data.toList[p + i]? := by
    rw [← h, sl, List.getElem?_take_of_lt (by omega), List.getElem?_drop]
  rw [List.getElem?_eq_getElem hi] at e
  refine ⟨?_, by omega⟩
  unfold bt
  rw [List.getD_eq_getElem?_getD, ← e]
  rfl
theorem dec_of_enc {s : ByteArray} {p : Nat} {c : Int} (hc : 0 ≤ c ∧ c ≤ 1114111 ∧ (c < 55296 ∨ 57343 < c)) (h : sl s p (Lib.encodeRune c).length = Lib.encodeRune c) : ((Utf8.decode s p).1 : Int) = c ∧ wd s p = (Lib.encodeRune c).length ∧ bad s p = false := by
  obtain ⟨r0, r1, r2⟩ := hc
  have key : ∀ (m : Nat), Utf8.decode s p = (c.toNat, m) → (c.toNat, m) ≠ ((65533, 1) : Nat × Nat) → ((Utf8.decode s p).1 : Int) = c ∧ wd s p = m ∧ bad s p = false := fun m e hne => by
    refine ⟨by rw [e]; simp only; omega, by unfold wd; rw [e], ?_⟩
    unfold bad
    rw [e]
    simpa using hne
  by_cases h1 : c ≤ 127
  · have hE : Lib.encodeRune c = [c].map fun x => x.toNat.toUInt8 := by rw [Lib.encodeRune, Lib.encodeRuneZ_one r0 h1]
    rw [hE] at h ⊢
    obtain ⟨b0, s0⟩ := sl_bt h (i := 0) (by simp)
    simp at b0
    refine key 1 ?_ (by simp; omega)
    rw [dec_eq]
    have : bt s p = c.toNat := by omega
    rw [this]
    unfold Lib.decodeN
    rw [if_pos (by omega)]
  by_cases h2 : c ≤ 2047
  · have hE : Lib.encodeRune c = [192 + c / 64, 128 + c % 64].map fun x => x.toNat.toUInt8 := by rw [Lib.encodeRune, Lib.encodeRuneZ_two (by omega) h2]
    rw [hE] at h ⊢
    obtain ⟨b0, s0⟩ := sl_bt h (i := 0) (by simp)
    obtain ⟨b1, s1⟩ := sl_bt h (i := 1) (by simp)
    simp at b0 b1
    refine key 2 ?_ (by simp)
    rw [dec_eq]
    have e0 : bt s p = 192 + c.toNat / 64 := by omega
    have e1 : bt s (p + 1) = 128 + c.toNat % 64 := by omega
    have hl : c.toNat ≤ 2047 := by omega
    have hg : 128 ≤ c.toNat := by omega
    rw [e0, e1]
    generalize c.toNat = m at *
    unfold Lib.decodeN
    rw [if_neg (by omega), if_pos (by omega), if_pos (by omega)]
    apply Prod.ext <;> simp only <;> omega
  by_cases h3 : c ≤ 65535
  · have hE : Lib.encodeRune c = [224 + c / 4096, 128 + c / 64 % 64, 128 + c % 64].map fun x => x.toNat.toUInt8 := by rw [Lib.encodeRune, Lib.encodeRuneZ_three (by omega)]
    rw [hE] at h ⊢
    obtain ⟨b0, s0⟩ := sl_bt h (i := 0) (by simp)
    obtain ⟨b1, s1⟩ := sl_bt h (i := 1) (by simp)
    obtain ⟨b2, s2⟩ := sl_bt h (i := 2) (by simp)
    simp at b0 b1 b2
    refine key 3 ?_ (by simp)
    rw [dec_eq]
    have e0 : bt s p = 224 + c.toNat / 4096 := by omega
    have e1 : bt s (p + 1) = 128 + c.toNat / 64 % 64 := by omega
    have e2 : bt s (p + 2) = 128 + c.toNat % 64 := by omega
    have hl : c.toNat ≤ 65535 := by omega
    have hg : 2048 ≤ c.toNat := by omega
    have hv : c.toNat < 55296 ∨ 57344 ≤ c.toNat := by omega
    rw [e0, e1, e2]
    generalize c.toNat = m at *
    unfold Lib.decodeN
    rw [if_neg (by omega), if_neg (by omega), if_pos (by omega), if_pos (by omega)]
    apply Prod.ext <;> simp only <;> omega
  · have hE : Lib.encodeRune c = [240 + c / 262144, 128 + c / 4096 % 64, 128 + c / 64 % 64, 128 + c % 64].map fun x => x.toNat.toUInt8 := by rw [Lib.encodeRune, Lib.encodeRuneZ_four (by omega) (by omega)]
    rw [hE] at h ⊢
    obtain ⟨b0, s0⟩ := sl_bt h (i := 0) (by simp)
    obtain ⟨b1, s1⟩ := sl_bt h (i := 1) (by simp)
    obtain ⟨b2, s2⟩ := sl_bt h (i := 2) (by simp)
    obtain ⟨b3, s3⟩ := sl_bt h (i := 3) (by simp)
    simp at b0 b1 b2 b3
    refine key 4 ?_ (by simp)
    rw [dec_eq]
    have e0 : bt s p = 240 + c.toNat / 262144 := by omega
    have e1 : bt s (p + 1) = 128 + c.toNat / 4096 % 64 := by omega
    have e2 : bt s (p + 2) = 128 + c.toNat / 64 % 64 := by omega
    have e3 : bt s (p + 3) = 128 + c.toNat % 64 := by omega
    have hl : c.toNat ≤ 1114111 := by omega
    have hg : 65536 ≤ c.toNat := by omega
    rw [e0, e1, e2, e3]
    generalize c.toNat = m at *
    unfold Lib.decodeN
    rw [if_neg (by omega), if_neg (by omega), if_neg (by omega), if_pos (by omega), if_pos (by omega)]
    apply Prod.ext <;> simp only <;> omega
theorem uFrom_fuel (s : ByteArray) : ∀ f f' p, s.size ≤ p + f → s.size ≤ p + f' → uFrom s f p = uFrom s f' p
  | 0, f', p, h, _ => by rw [uFrom_end s 0 p (by omega), uFrom_end s f' p (by omega)]
  | f + 1, 0, p, _, h => by rw [uFrom_end s 0 p (by omega), uFrom_end s _ p (by omega)]
  | f + 1, f' + 1, p, h1, h2 => by
    by_cases hp : p < s.size
    · have := wd_pos s p
      rw [uFrom_more s f p hp, uFrom_more s f' p hp, uFrom_fuel s f f' (p + wd s p) (by omega) (by omega)]
    · rw [uFrom_end s _ _ hp, uFrom_end s _ _ hp]

theorem app_list (a b : ByteArray) : (a ++ b).data.toList = a.data.toList ++ b.data.toList := by simp
theorem app_size (a b : ByteArray) : (a ++ b).size = a.size + b.size := by rw [← size_list, app_list, List.length_append, size_list, size_list]
theorem bt_right (a b : ByteArray) (i : Nat) : bt (a ++ b) (a.size + i) = bt b i := by
  unfold bt
  rw [app_list, List.getD_eq_getElem?_getD, List.getD_eq_getElem?_getD, List.getElem?_append_right (by rw [size_list]; omega), size_list, Nat.add_sub_cancel_left]
theorem dec_right (a b : ByteArray) (p : Nat) : Utf8.decode (a ++ b) (a.size + p) = Utf8.decode b p := by
  rw [dec_eq, dec_eq, app_size, Nat.add_assoc, Nat.add_assoc, Nat.add_assoc, bt_right, bt_right, bt_right, bt_right, show a.size + b.size - (a.size + p) = b.size - p by omega]
theorem ch_right (a b : ByteArray) (p : Nat) : ch (a ++ b) (a.size + p) = ch b p ∧ wd (a ++ b) (a.size + p) = wd b p := by
  unfold ch wd bad
  rw [dec_right]
  exact ⟨rfl, rfl⟩
theorem ch_left (a b : ByteArray) (p : Nat) (hp : p < a.size) (hb : bad a p = false) : ch (a ++ b) p = ch a p ∧ wd (a ++ b) p = wd a p := by
  have hw := wd_pos a p
  have hwl := (wd_le a p hp).2
  have es := enc_sl a p hp hb
  have hl : (Lib.encodeRune ((Utf8.decode a p).1 : Int)).length = wd a p := by
    rw [es]; unfold sl; rw [List.length_take, List.length_drop, size_list]; omega
  have hv := dec_valid a p
  have hle := dec_le a p
  have e2 : sl (a ++ b) p (Lib.encodeRune ((Utf8.decode a p).1 : Int)).length = Lib.encodeRune ((Utf8.decode a p).1 : Int) := by
    rw [hl, es]
    unfold sl
    rw [app_list, List.drop_append_of_le_length (by rw [size_list]; omega), List.take_append_of_le_length (by rw [List.length_drop, size_list]; omega)]
  have d := dec_of_enc (s := a ++ b) (p := p) (by simp [Lib.validRune] at hv; omega) e2
  rw [ch_good hb, ch_good d.2.2]
  exact ⟨d.1, d.2.1.trans hl⟩
theorem chs_right (a b : ByteArray) : ∀ f p, chs (uFrom (a ++ b) f (a.size + p)) = chs (uFrom b f p)
  | 0, p => by simp [uFrom, chs]
  | f + 1, p => by
    by_cases hp : p < b.size
    · rw [uFrom_more _ f _ (by rw [app_size]; omega), uFrom_more b f p hp]
      have e := ch_right a b p
      rw [e.1, e.2]
      have ih := chs_right a b f (p + wd b p)
      simp only [chs, List.map_cons] at ih ⊢
      rw [Nat.add_assoc, ih]
    · rw [uFrom_end _ _ _ (by rw [app_size]; omega), uFrom_end b _ p hp]
theorem chs_left (a b : ByteArray) : ∀ f p, p ≤ a.size → a.size ≤ p + f → good (uFrom a f p) = true → chs (uFrom (a ++ b) (f + b.size) p) = chs (uFrom a f p) ++ chs (us b)
  | 0, p, h1, h2, _ => by
    have hp : p = a.size := by omega
    subst hp
    have := chs_right a b (0 + b.size) 0
    rw [Nat.add_zero] at this
    rw [this, Nat.zero_add, uFrom_end a 0 _ (by omega)]
    rfl
  | f + 1, p, h1, h2, hg => by
    by_cases hp : p < a.size
    · rw [uFrom_more a f p hp] at hg ⊢
      have hb : bad a p = false := by
        cases hq : bad a p with
        | false => rfl
        | true =>
          have := (ch_bad hq).1
          unfold good at hg
          rw [List.all_cons, Bool.and_eq_true] at hg
          have h3 := hg.1
          rw [decide_eq_true_eq] at h3
          simp only at h3
          omega
      have hg2 : good (uFrom a f (p + wd a p)) = true := by
        unfold good at hg ⊢
        rw [List.all_cons, Bool.and_eq_true] at hg
        exact hg.2
      have e := ch_left a b p hp hb
      have hwl := (wd_le a p hp).2
      have hw := wd_pos a p
      have ih := chs_left a b f (p + wd a p) hwl (by omega) hg2
      rw [show f + 1 + b.size = (f + b.size) + 1 by omega, uFrom_more _ _ p (by rw [app_size]; omega), e.1, e.2]
      simp only [chs, List.map_cons] at ih ⊢
      rw [ih]
      rfl
    · have hpe : p = a.size := by omega
      subst hpe
      have this : chs (uFrom (a ++ b) (f + 1 + b.size) a.size) = chs (uFrom b (f + 1 + b.size) 0) := chs_right a b (f + 1 + b.size) 0
      rw [this, uFrom_end a _ _ (by omega)]
      unfold us
      rw [uFrom_fuel b (f + 1 + b.size) b.size 0 (by omega) (by omega)]
      rfl
theorem good_chs (l : List (Nat × Int)) : good l = (chs l).all fun x => decide (0 ≤ x) := by
  unfold good chs
  rw [List.all_map]
  rfl
theorem us_app (a b : ByteArray) (hg : good (us a) = true) : chs (us (a ++ b)) = chs (us a) ++ chs (us b) := by
  have := chs_left a b a.size 0 (Nat.zero_le _) (by omega) hg
  rw [← app_size] at this
  exact this
theorem us_app_good (a b : ByteArray) (ha : good (us a) = true) (hb : good (us b) = true) : good (us (a ++ b)) = true := by
  rw [good_chs, us_app a b ha, List.all_append, ← good_chs, ← good_chs, ha, hb]
  rfl
theorem us_valid (s : ByteArray) : ∀ f p, ∀ u ∈ uFrom s f p, 0 ≤ u.2 → u.2 < 55296 ∨ 57343 < u.2
  | 0, p, u, h, _ => by simp [uFrom] at h
  | f + 1, p, u, h, h0 => by
    by_cases hp : p < s.size
    · rw [uFrom_more s f p hp] at h
      rcases List.mem_cons.1 h with rfl | h
      · have h1 : 0 ≤ ch s p := h0
        have hb : bad s p = false := by
          cases hq : bad s p with
          | false => rfl
          | true => rw [(ch_bad hq).1] at h1; omega
        have hv := dec_valid s p
        show ch s p < _ ∨ _ < ch s p
        rw [ch_good hb]
        simp [Lib.validRune] at hv
        omega
      · exact us_valid s f _ u h h0
    · rw [uFrom_end s _ p hp] at h; cases h
end Go.Proofs.Ytlodjinejeajcaa
namespace Go.Proofs.Ytlodjinejeajcaa
open Go Go.RowKit

theorem right_all {c f : Bool} : ∀ (L : List El) (ah gr : Nat), rightM c f ah gr L = 0 → ∀ pre x post, L = pre ++ x :: post → lookM c f x.1 x.2 (ah + pre.length) (gr + grpM pre) = 0
  | [], _, _, _, pre, x, post, h => by cases pre <;> cases h
  | y :: L, ah, gr, hr, pre, x, post, h => by
    unfold rightM at hr
    by_cases hy : lookM c f y.1 y.2 ah gr = 0
    · rw [if_neg (by simpa using hy)] at hr
      cases pre with
      | nil =>
        simp at h
        obtain ⟨rfl, rfl⟩ := h
        simpa [grpM] using hy
      | cons z pre =>
        simp at h
        obtain ⟨rfl, rfl⟩ := h
        have := right_all (pre ++ x :: post) (ah + 1) (gr + (if y.2.f.k = 7 then 1 else 0)) hr pre x post rfl
        simp only [List.length_cons, grpM]
        rw [show ah + (pre.length + 1) = ah + 1 + pre.length by omega, show gr + ((if y.2.f.k = 7 then 1 else 0) + grpM pre) = gr + (if y.2.f.k = 7 then 1 else 0) + grpM pre by omega]
        exact this
    · rw [if_pos hy] at hr
      exact absurd hr hy
theorem all_right {c f : Bool} : ∀ (L : List El) (ah gr : Nat), (∀ pre x post, L = pre ++ x :: post → lookM c f x.1 x.2 (ah + pre.length) (gr + grpM pre) = 0) → rightM c f ah gr L = 0
  | [], _, _, _ => rfl
  | y :: L, ah, gr, h => by
    unfold rightM
    have hy := h [] y L rfl
    simp only [List.length_nil, Nat.add_zero, grpM] at hy
    rw [if_neg (by simpa using hy)]
    refine all_right L (ah + 1) (gr + (if y.2.f.k = 7 then 1 else 0)) fun pre x post e => ?_
    have := h (y :: pre) x post (by rw [e]; rfl)
    simp only [List.length_cons, grpM] at this
    rw [show ah + 1 + pre.length = ah + (pre.length + 1) by omega, show gr + (if y.2.f.k = 7 then 1 else 0) + grpM pre = gr + ((if y.2.f.k = 7 then 1 else 0) + grpM pre) by omega]
    exact this
theorem pps_way {ks : List Tr} (s : Way) (h : ∀ t ∈ ks, ∀ p, pp (p ++ s) t = (pp p t).map fun z => (z.1 ++ s, z.2)) (par : Tr) (p : Way) (i : Nat) : pps par (p ++ s) i ks = (pps par p i ks).map fun z => (z.1 ++ s, z.2) := by
  induction ks generalizing i with
  | nil => rw [pps_nil, pps_nil]; rfl
  | cons t ts ih => rw [pps_cons, pps_cons, List.map_append, ← ih (fun u hu => h u (List.mem_cons_of_mem _ hu)), ← h t (List.mem_cons_self ..)]; rfl
theorem pp_way (s : Way) (t : Tr) : ∀ p, pp (p ++ s) t = (pp p t).map fun z => (z.1 ++ s, z.2) := by
  refine Tr.ind (P := fun t => ∀ p, pp (p ++ s) t = (pp p t).map fun z => (z.1 ++ s, z.2)) (fun t ih p => ?_) t
  rw [pp_eq, pp_eq, List.map_cons, pps_way s ih]
/-- Where a Kid's nodes stand. -/
theorem pps_split {par : Tr} {p : Way} {ks : List Tr} {i : Nat} {u : Tr} (h : ks[i]? = some u) : ∃ a b, pps par p 0 ks = a ++ pp ((par, i) :: p) u ++ b := by
  have e : ks = ks.take i ++ u :: ks.drop (i + 1) := by
    have hi := (List.getElem?_eq_some_iff.1 h).1
    have := List.take_append_drop i ks
    rw [List.drop_eq_getElem_cons hi, (List.getElem?_eq_some_iff.1 h).2] at this
    exact this.symm
  have hl : (ks.take i).length = i := by rw [List.length_take]; have := (List.getElem?_eq_some_iff.1 h).1; omega
  refine ⟨pps par p 0 (ks.take i), pps par p (i + 1) (ks.drop (i + 1)), ?_⟩
  have := pps_append par p (ks.take i) (u :: ks.drop (i + 1)) 0
  rw [← e, hl, pps_cons, Nat.zero_add] at this
  rw [this, List.append_assoc]
theorem grpM_map (s : Way) (l : List El) : grpM (l.map fun z => (z.1 ++ s, z.2)) = grpM l := by
  induction l with
  | nil => rfl
  | cons x l ih => simp only [List.map_cons, grpM, ih]
theorem stand_kind {pk seen k : Int} {kl : Nat} (h : standB pk seen kl k = true) : kindB k = true := by
  have ht : thingB k = true → kindB k = true := by
    intro z
    simp [thingB] at z
    simp [kindB]
    omega
  unfold standB at h
  split at h
  · simp at h
    rcases h with (z | z) | z
    · exact ht z
    · obtain ⟨rfl, -⟩ := z; rfl
    · obtain ⟨rfl, -⟩ := z; rfl
  · split at h
    · exact ht h
    · split at h
      · simp at h; exact h.1
      · exact h
theorem right_len {c f : Bool} {L : List El} (hr : rightM c f 0 0 L = 0) : L.length ≤ 2000 := by
  rcases Nat.lt_or_ge 2000 L.length with h | h
  · exfalso
    have e : L = L.take 2000 ++ L[2000] :: L.drop 2001 := by
      have := List.take_append_drop 2000 L
      rw [List.drop_eq_getElem_cons h] at this
      exact this.symm
    have := right_all L 0 0 hr _ _ _ e
    rw [show 0 + (L.take 2000).length = 2000 by rw [List.length_take]; omega] at this
    unfold lookM at this
    rw [if_pos rfl] at this
    cases this
  · exact h
theorem kid_right {c f : Bool} {t u : Tr} (hu : u ∈ t.ks) (hr : rightM c f 0 0 (pp [] t) = 0) (hg : grpM (pp [] t) = 0) : rightM c f 0 0 (pp [] u) = 0 ∧ grpM (pp [] u) = 0 := by
  obtain ⟨i, hi, hui⟩ := List.getElem_of_mem hu
  have hgi : t.ks[i]? = some u := by rw [List.getElem?_eq_getElem hi, hui]
  obtain ⟨a, b, hab⟩ := pps_split (par := t) (p := []) hgi
  have hw : pp [(t, i)] u = (pp [] u).map fun z => (z.1 ++ [(t, i)], z.2) := pp_way [(t, i)] u []
  rw [hw] at hab
  have hL : pp [] t = (([], t) :: a) ++ ((pp [] u).map fun z => (z.1 ++ [(t, i)], z.2)) ++ b := by rw [pp_eq, hab]; simp
  have hgs : grpM (([], t) :: a) = 0 ∧ grpM (pp [] u) = 0 := by
    rw [hL, grpM_append, grpM_append, grpM_map] at hg
    omega
  refine ⟨all_right _ 0 0 fun pre x post e => ?_, hgs.2⟩
  have h1 := right_all _ 0 0 hr ((([], t) :: a) ++ pre.map fun z => (z.1 ++ [(t, i)], z.2)) (x.1 ++ [(t, i)], x.2) ((post.map fun z => (z.1 ++ [(t, i)], z.2)) ++ b) (by rw [hL, e]; simp)
  have hg2 : grpM pre = 0 ∧ x.2.f.k ≠ 7 := by
    have := hgs.2
    rw [e, grpM_append] at this
    simp only [grpM] at this
    refine ⟨by omega, fun z => ?_⟩
    rw [if_pos z] at this
    omega
  have e1 : grpM ((([], t) :: a) ++ pre.map fun z => (z.1 ++ [(t, i)], z.2)) = 0 := by rw [grpM_append, grpM_map, hgs.1, hg2.1]
  rw [e1, Nat.zero_add, Nat.zero_add] at h1
  rw [hg2.1, Nat.zero_add, Nat.add_zero]
  unfold lookM at h1 ⊢
  simp only [List.length_append, List.length_cons, List.length_nil, List.length_map] at h1
  have hlen := right_len hr
  have hpl : pre.length < 2000 := by
    rw [hL, e] at hlen
    simp at hlen
    omega
  rw [if_neg (by omega)]
  split at h1
  · cases h1
  · split at h1
    · cases h1
    · split at h1
      · cases h1
      · rename_i n1 n2 n3
        have n3' := Classical.not_not.1 n3
        split at h1
        · cases h1
        · split at h1
          · cases h1
          · rename_i n4 n5
            rw [if_neg (by omega), if_neg, if_neg (fun z => hg2.2 z.1), if_neg (fun z => ?_)]
            · have hf := n3'.2.1
              unfold fieldsM at hf
              rw [if_neg (by omega), if_neg (by omega), if_pos z.1] at hf
              exact n5 ⟨z.1, fun q => by have := q.2; omega⟩
            · refine fun q => q ⟨?_, n3'.2⟩
              have hst := n3'.1
              cases hx : x.1 with
              | nil =>
                rw [hx] at hst
                exact stand_kind hst
              | cons y ys =>
                rw [hx] at hst
                exact hst
end Go.Proofs.Ytlodjinejeajcaa
namespace Go.Proofs.Ytlodjinejeajcaa
open Go Go.RowKit

theorem litE_bytes (s : ByteArray) : litE false s = 0 := rfl
theorem lit_good {s : ByteArray} (h : litE true s = 0) : good (us s) = true := by
  unfold litE dErr at h
  simp only [if_true] at h
  cases hg : good (us s) with
  | true => rfl
  | false => rw [hg] at h; simp at h
theorem lit_app {c : Bool} {a b : ByteArray} (ha : litE c a = 0) (hb : litE c b = 0) : litE c (a ++ b) = 0 ∧ litL c (a ++ b) = litL c a ++ litL c b := by
  cases c with
  | true =>
    have ga := lit_good ha
    have gb := lit_good hb
    have gab := us_app_good a b ga gb
    unfold litE litL dErr dList
    simp only [if_true, ga, gb, gab, us_app a b ga]
    exact ⟨trivial, trivial⟩
  | false =>
    refine ⟨rfl, ?_⟩
    unfold litL byL
    simp
theorem lit_char {c : Bool} {s : ByteArray} : ∀ x ∈ litL c s, isChar c x := by
  intro x hx
  have hbd := litL_bd c s x hx
  cases c with
  | true =>
    refine ⟨hbd.1, hbd.2, fun _ => ?_⟩
    unfold litL dList at hx
    simp only [if_true] at hx
    split at hx
    · obtain ⟨u, hu, rfl⟩ := List.mem_map.1 hx
      exact us_valid s _ _ u hu hbd.1
    · cases hx
  | false =>
    unfold litL byL at hx
    simp only [Bool.false_eq_true, if_false] at hx
    obtain ⟨b, -, rfl⟩ := List.mem_map.1 hx
    have := b.toNat_lt
    exact ⟨by omega, by simp [top]; omega, fun h => by cases h⟩
theorem catE_join {L : List Er} (h : ∀ E ∈ L, E.k = 2) : catE (joinE 5 L (.mk 1 0 0 0 [] [])) = L := by
  match L, h with
  | [], _ => rfl
  | [x], h =>
    have := h x List.mem_cons_self
    show catE x = [x]
    unfold catE
    rw [if_neg (by omega), if_neg (by omega)]
  | x :: y :: r, _ => rfl
theorem cat_join {L M : List Er} (hL : ∀ E ∈ L, E.k = 2) (hM : ∀ E ∈ M, E.k = 2) : catX (joinE 5 L (.mk 1 0 0 0 [] [])) (joinE 5 M (.mk 1 0 0 0 [] [])) = joinE 5 (L ++ M) (.mk 1 0 0 0 [] []) := by
  unfold catX
  rw [catE_join hL, catE_join hM]
theorem set_ok {c f : Bool} {y : Int} {C : List (Int × Int)} (h : IsC C (oneP f y)) (hy : isChar c y) : setM c f C := by
  cases f with
  | false =>
    have hm : ∀ x, In C x ↔ x = y := fun x => by rw [h.mem]; simp [oneP]
    refine ⟨h.to fun x => ?_, fun z => by cases z⟩
    rw [hm]
    simp only [oneP, Bool.false_eq_true, if_false]
    constructor
    · rintro rfl; exact ⟨rfl, hy⟩
    · exact fun z => z.1
  | true =>
    have hm : ∀ x, In C x ↔ (x = y ∨ (x - 32 = y ∧ 65 ≤ x - 32 ∧ x - 32 ≤ 90) ∨ (x + 32 = y ∧ 97 ≤ x + 32 ∧ x + 32 ≤ 122)) := fun x => by
      have hi : ∀ z, In [(y, y)] z ↔ z = y := fun z => by
        constructor
        · rintro ⟨r, hr, h1, h2⟩; simp at hr; subst hr; simp at h1 h2; omega
        · rintro rfl; exact ⟨_, List.mem_cons_self, Int.le_refl _, Int.le_refl _⟩
      rw [h.mem]
      simp only [oneP, if_true, foldP, hi]
    obtain ⟨h0, h1, h2⟩ := hy
    refine ⟨h.to fun x => ?_, fun _ x => ?_⟩
    · rw [← h.mem]
      constructor
      · intro z
        refine ⟨z, ?_⟩
        rcases (hm x).1 z with rfl | ⟨e, e1, e2⟩ | ⟨e, e1, e2⟩
        · exact ⟨h0, h1, h2⟩
        · refine ⟨by omega, ?_, fun _ => by omega⟩
          cases c <;> simp [top] <;> omega
        · refine ⟨by omega, ?_, fun _ => by omega⟩
          cases c <;> simp [top] <;> omega
      · exact fun z => z.1
    · unfold foldP
      rw [hm, hm, hm]
      omega
/-- A node that has nothing to say but its kind. -/
theorem look_set {c f : Bool} {p : Way} {t : Tr} {ah gr : Nat} (ha : ah < 2000) (hp : p.length ≤ 1) (hs : standP p 2 = true) (hk : t.f.k = 2) (hn : t.f.n = 0 ∧ t.f.mn = 0 ∧ t.f.mx = 0) (hr : setM c f t.f.rs) (hks : t.ks = []) : lookM c f p t ah gr = 0 := by
  unfold lookM
  rw [if_neg (by omega), if_neg (by omega), if_neg, if_neg (by omega), if_neg (by omega)]
  refine fun z => z ⟨by rw [hk]; exact hs, ?_, by rw [hk, hks]; rfl⟩
  unfold fieldsM
  rw [if_pos hk]
  exact ⟨hr, hn⟩
theorem look_bare {c f : Bool} {t : Tr} {ah gr : Nat} (ha : ah < 2000) (hk : (t.f.k = 1 ∧ t.ks = []) ∨ (t.f.k = 5 ∧ 2 ≤ t.ks.length)) (hn : t.f.n = 0 ∧ t.f.mn = 0 ∧ t.f.mx = 0) (hr : t.f.rs = []) : lookM c f [] t ah gr = 0 := by
  unfold lookM
  rw [if_neg (by omega), if_neg (by simp), if_neg, if_neg (by omega), if_neg (by omega)]
  refine fun z => z ⟨?_, ?_, ?_⟩
  · unfold standP kindB
    rcases hk with h | h <;> rw [h.1] <;> rfl
  · unfold fieldsM
    rw [if_neg (by omega), if_neg (by omega), if_neg (by omega), if_neg (by omega)]
    exact ⟨hn.1, hn.2.1, hn.2.2, by rw [hr]; rfl⟩
  · unfold kidsB
    rcases hk with h | h
    · rw [if_neg (by omega), if_neg (by omega), h.2]; rfl
    · rw [if_pos (by omega)]
      exact decide_eq_true h.2
theorem er_parts {t : Tr} {k n mn mx : Int} {rs : List (Int × Int)} {ks : List Er} (h : er t = .mk k n mn mx rs ks) : t.f.k = k ∧ t.f.n = n ∧ t.f.mn = mn ∧ t.f.mx = mx ∧ t.f.rs = rs ∧ t.ks.map er = ks := by
  rw [er_eq] at h
  injection h with h1 h2 h3 h4 h5 h6
  exact ⟨h1, h2, h3, h4, h5, h6⟩
/-- The node of a character, wherever it may stand. -/
theorem look_char {c f : Bool} {p : Way} {t : Tr} {ah gr : Nat} {y : Int} (ha : ah < 2000) (hp : p.length ≤ 1) (hs : standP p 2 = true) (h : EC f y (er t)) (hy : isChar c y) : lookM c f p t ah gr = 0 ∧ t.ks = [] := by
  obtain ⟨C, e, hC⟩ := h
  obtain ⟨h1, h2, h3, h4, h5, h6⟩ := er_parts e
  have hk : t.ks = [] := List.map_eq_nil_iff.1 h6
  exact ⟨look_set ha hp hs h1 ⟨h2, h3, h4⟩ (by rw [h5]; exact set_ok hC hy) hk, hk⟩
theorem pps_mem {par : Tr} {p : Way} : ∀ {ks : List Tr} {i : Nat}, (∀ u ∈ ks, u.ks = []) → ∀ x ∈ pps par p i ks, ∃ j u, u ∈ ks ∧ x = ((par, j) :: p, u)
  | [], i, _, x, hx => by rw [pps_nil] at hx; cases hx
  | u :: ks, i, h, x, hx => by
    rw [pps_cons] at hx
    rcases List.mem_append.1 hx with hx | hx
    · rw [pp_eq, h u List.mem_cons_self, pps_nil, List.mem_singleton] at hx
      exact ⟨i, u, List.mem_cons_self, hx⟩
    · obtain ⟨j, v, hv, e⟩ := pps_mem (fun v hv => h v (List.mem_cons_of_mem _ hv)) x hx
      exact ⟨j, v, List.mem_cons_of_mem _ hv, e⟩
theorem lit_right {c f : Bool} {l : List Int} {L : List Er} {t : Tr} (hE : ECs f l L) (hl : ∀ x ∈ l, isChar c x) (hn : l.length ≤ 1999) (ht : er t = joinE 5 L (.mk 1 0 0 0 [] [])) : rightM c f 0 0 (pp [] t) = 0 ∧ (er t).sz ≤ 2000 := by
  have hz : (er t).sz ≤ 2000 := by
    have h1 := join_sz 5 L 1
    have h2 : ∀ M : List Er, (∀ E ∈ M, E ∈ L) → eszs M = M.length := by
      intro M
      induction M with
      | nil => intro _; rw [eszs_nil]; rfl
      | cons E M ih =>
        intro h
        obtain ⟨z, -, hz⟩ := hE.mem E (h E List.mem_cons_self)
        rw [eszs_cons, esz_eq, hz.k.2, eszs_nil, ih (fun v hv => h v (List.mem_cons_of_mem _ hv)), List.length_cons]
        omega
    rw [ht]
    have := h2 L (fun _ h => h)
    have := hE.len
    omega
  refine ⟨all_right _ 0 0 fun pre x post e => ?_, hz⟩
  have hah : 0 + pre.length < 2000 := by
    have := congrArg List.length e
    rw [pp_len, ← er_sz] at this
    simp at this
    omega
  have hx : x ∈ pp [] t := by rw [e]; simp
  match L, hE, ht with
  | [], _, ht =>
    obtain ⟨h1, h2, h3, h4, h5, h6⟩ := er_parts ht
    have hk : t.ks = [] := List.map_eq_nil_iff.1 h6
    rw [pp_eq, hk, pps_nil, List.mem_singleton] at hx
    subst hx
    exact look_bare hah (.inl ⟨h1, hk⟩) ⟨h2, h3, h4⟩ h5
  | [E], hE, ht =>
    have ht' : er t = E := ht
    obtain ⟨y, hy, hEC⟩ := hE.mem E List.mem_cons_self
    rw [← ht'] at hEC
    have hk := (look_char (c := c) (p := []) (ah := 0) (gr := 0) (by omega) (by simp) rfl hEC (hl y hy)).2
    rw [pp_eq, hk, pps_nil, List.mem_singleton] at hx
    subst hx
    exact (look_char hah (by simp) rfl hEC (hl y hy)).1
  | E :: F :: R, hE, ht =>
    obtain ⟨h1, h2, h3, h4, h5, h6⟩ := er_parts ht
    have hk : ∀ u ∈ t.ks, ∃ y ∈ l, EC f y (er u) := fun u hu => hE.mem _ (by rw [← h6]; exact List.mem_map_of_mem hu)
    rw [pp_eq] at hx
    rcases List.mem_cons.1 hx with hx | hx
    · subst hx
      refine look_bare hah (.inr ⟨h1, ?_⟩) ⟨h2, h3, h4⟩ h5
      have := congrArg List.length h6
      rw [List.length_map, List.length_cons, List.length_cons] at this
      show 2 ≤ t.ks.length
      omega
    · obtain ⟨j, u, hu, rfl⟩ := pps_mem (fun u hu => by
        obtain ⟨y, hy, hEC⟩ := hk u hu
        exact (look_char (c := c) (p := []) (ah := 0) (gr := 0) (by omega) (by simp) rfl hEC (hl y hy)).2) x hx
      obtain ⟨y, hy, hEC⟩ := hk u hu
      refine (look_char hah (by simp) ?_ hEC (hl y hy)).1
      show standB t.f.k _ _ 2 = true
      rw [h1]
      rfl
end Go.Proofs.Ytlodjinejeajcaa
