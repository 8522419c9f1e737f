/-
  Literal: the tree of a text. Trees out of parts: where their lists lie; the trees of what stands within a part. A part as a tree. A part as a tree: rows and choices. (mknd9.py writes it.)
-/
import Derived.Test.YtpfdapnfkghgkaaGreatDoorC18
import Derived.Test.YtpfdapnfkghgkaaGreatDoorC5
import Derived.Test.YtpfdapnfkghgkaaGreatDoorC16
namespace Go.Proofs.YtpfdapnfkghgkaaGreatDoor
open Go Go.RowKit

theorem us_bd (s : ByteArray) : ∀ f p, ∀ u ∈ uFrom s f p, u.2 ≤ 1114111
  | 0, p, u, h => by simp [uFrom] at h
  | f + 1, p, u, h => by
    by_cases hp : p < s.size
    · rw [uFrom_more s f p hp] at h
      rcases List.mem_cons.1 h with rfl | h
      · show ch s p ≤ _
        by_cases hb : bad s p = true
        · rw [(ch_bad hb).1]; omega
        · rw [ch_good (by simpa using hb)]; have := dec_le s p; omega
      · exact us_bd s f _ u h
    · rw [uFrom_end s _ p hp] at h; cases h
theorem litL_bd (c : Bool) (s : ByteArray) : ∀ x ∈ litL c s, 0 ≤ x ∧ x ≤ 1114111 := by
  intro x hx
  unfold litL at hx
  cases c with
  | true =>
    simp only [if_true] at hx
    unfold dList at hx
    split at hx
    · rename_i hg
      obtain ⟨u, hu, rfl⟩ := List.mem_map.1 hx
      have h1 := List.all_eq_true.1 hg u hu
      exact ⟨by simpa using h1, us_bd s _ _ u hu⟩
    · cases hx
  | false =>
    simp only [Bool.false_eq_true, if_false, byL] at hx
    obtain ⟨b, -, rfl⟩ := List.mem_map.1 hx
    have := b.toNat_lt
    omega
theorem litL_len (c : Bool) (s : ByteArray) : (litL c s).length ≤ s.size := by
  unfold litL
  cases c with
  | true =>
    simp only [if_true]
    unfold dList
    split
    · rw [chs_len]; exact us_length s
    · exact Nat.zero_le _
  | false => simp [byL]
def zT : Tr := .mk (bare 0) []
theorem made_nodes (n : Nat) : (madeCells (Value.agg #[.int .i64 0, .int .i64 0, .int .i64 0, .int .i64 0, .slice none 0 0, .slice none 0 0]).cells (n * 6)).toList = cellsK (List.replicate n zT) := by
  refine List.ext_getElem (by simp [madeCells, cellsK_length]) fun i h1 h2 => ?_
  have hi : i < n * 6 := by simpa [madeCells] using h1
  have hc : (cellsK (List.replicate n zT))[i]? = zT.f.cells[i % 6]? := by
    have := cellsK_get (List.replicate n zT) (i / 6) (i % 6) zT (by rw [List.getElem?_replicate, if_pos (by omega)]) (Nat.mod_lt _ (by omega))
    rwa [show i / 6 * 6 + i % 6 = i by omega] at this
  have h3 : (cellsK (List.replicate n zT))[i]? = some ((cellsK (List.replicate n zT))[i]) := List.getElem?_eq_getElem h2
  rw [hc] at h3
  have h4 : i % 6 < 6 := Nat.mod_lt _ (by omega)
  have h5 : ((madeCells (Value.agg #[.int .i64 0, .int .i64 0, .int .i64 0, .int .i64 0, .slice none 0 0, .slice none 0 0]).cells (n * 6)).toList)[i] = #[.int .i64 0, .int .i64 0, .int .i64 0, .int .i64 0, .slice none 0 0, .slice none 0 0][i % 6]! := by
    simp [madeCells, Value.cells]
  rw [h5]
  generalize i % 6 = j at h3 h4
  match j, h4, h3 with
  | 0, _, h3 => injection h3
  | 1, _, h3 => injection h3
  | 2, _, h3 => injection h3
  | 3, _, h3 => injection h3
  | 4, _, h3 => injection h3
  | 5, _, h3 => injection h3
/-- How Literal's loop stands. -/
structure LtS (w : World) (bm bz g : Nat) (c f : Bool) (q : Option Addr) (k : Nat) (l : List Int) (nk old : List Tr) (W : World) : Prop where
  md : W.heap[bm]? = some (.cells #[.bool c, .bool f] 23 (0, 0))
  res : W.heap[bz]? = some (.cells #[.int .i64 0, .int .i64 0, .int .i64 0, .int .i64 0, .slice none 0 0, .slice none 0 0] 28 (0, 0))
  lst : W.ownsRow w.heap.size 3 1 (.slice q l.length k) l.length (ints l)
  bel : Below w.heap.size w W
  row : KR W g (nk ++ old)
  new : ∀ u ∈ nk, TA W u ∧ Foot (fun k => g < k) u
theorem LtS.kept {w W W' : World} {bm bz g k : Nat} {c f : Bool} {q : Option Addr} {l : List Int} {nk old : List Tr} (h : LtS w bm bz g c f q k l nk old W) (hb : Below W.heap.size W W') : LtS w bm bz g c f q k l nk old W' :=
  ⟨(hb.block _ (lt_of_heap h.md)).trans h.md, (hb.block _ (lt_of_heap h.res)).trans h.res, ownsRow_fr h.lst (Fr.of_below (S := fun _ => False) hb) (fun _ _ z => z), chain h.bel hb (Nat.le_refl _), h.row.kept hb, fun u hu => ⟨(h.new u hu).1.kept hb, (h.new u hu).2⟩⟩
theorem LtS.next {w W : World} {bm bz g k j : Nat} {c f : Bool} {q : Option Addr} {l : List Int} {nk old : List Tr} {t : Tr} (h : LtS w bm bz g c f q k l nk old W) (hj : nk.length = j) (ho : old ≠ []) (hz : bz ≠ g) (hwg : w.heap.size ≤ g) (ht : TA W t) (hf : Foot (fun k => g < k) t) :
    LtS w bm bz g c f q k l (nk ++ [t]) old.tail (put6 W g (j * 6) t.f) := by
  have F := put6_fr W g (j * 6) t.f
  have hl : j < (nk ++ old).length := by
    rw [List.length_append]
    cases old with
    | nil => exact absurd rfl ho
    | cons x r => simp; omega
  obtain ⟨cur, hcur⟩ := h.row.blk
  have K : CKeep (fun k => g < k) W (put6 W g (j * 6) t.f) := F.ckeep (fun k e z => by omega)
  refine ⟨(F.block _ (lt_of_heap h.md) (fun e => ?_)).trans h.md, (F.block _ (lt_of_heap h.res) hz).trans h.res, ownsRow_fr h.lst F (fun k hk e => ?_), chainF h.bel F (Nat.le_refl _) (fun k e => by omega), ?_, fun u hu => ?_⟩
  · subst e
    have := h.md
    rw [hcur] at this
    cases this
  · subst e
    exact ownsRow_not h.lst hcur (by decide) hk
  · have := h.row.set hl t
    cases old with
    | nil => exact absurd rfl ho
    | cons x r =>
      rw [List.set_append_right _ _ (by omega), hj, Nat.sub_self, List.set_cons_zero] at this
      rw [List.append_assoc]
      exact this
  · rcases List.mem_append.1 hu with q | q
    · exact ⟨(h.new u q).1.ckN (h.new u q).2 K, (h.new u q).2⟩
    · simp at q
      subst q
      exact ⟨ht.ckN hf K, hf⟩
/-- Sets of characters, one behind the other. -/
def ECs (f : Bool) : List Int → List Er → Prop
  | [], [] => True
  | c :: l, E :: L => EC f c E ∧ ECs f l L
  | _, _ => False
theorem ECs.snoc {f : Bool} : ∀ {l : List Int} {L : List Er} {c : Int} {E : Er}, ECs f l L → EC f c E → ECs f (l ++ [c]) (L ++ [E])
  | [], [], _, _, _, h => ⟨h, trivial⟩
  | [], _ :: _, _, _, h, _ => h.elim
  | _ :: _, [], _, _, h, _ => h.elim
  | _ :: _, _ :: _, _, _, h, k => ⟨h.1, h.2.snoc k⟩
theorem ECs.one {f : Bool} : ∀ {l : List Int} {L M : List Er}, ECs f l L → ECs f l M → L = M
  | [], [], [], _, _ => rfl
  | [], _ :: _, _, h, _ => h.elim
  | [], [], _ :: _, _, h => h.elim
  | _ :: _, [], _, h, _ => h.elim
  | _ :: _, _ :: _, [], _, h => h.elim
  | _ :: _, _ :: _, _ :: _, h, k => by rw [h.1.one k.1, h.2.one k.2]
theorem ECs.app {f : Bool} : ∀ {l m : List Int} {L M : List Er}, ECs f l L → ECs f m M → ECs f (l ++ m) (L ++ M)
  | [], _, [], _, _, h => h
  | [], _, _ :: _, _, h, _ => h.elim
  | _ :: _, _, [], _, h, _ => h.elim
  | _ :: _, _, _ :: _, _, h, k => ⟨h.1, h.2.app k⟩
theorem ECs.mem {f : Bool} : ∀ {l : List Int} {L : List Er}, ECs f l L → ∀ E ∈ L, ∃ c ∈ l, EC f c E
  | [], [], _, E, hE => by cases hE
  | [], _ :: _, h, _, _ => h.elim
  | _ :: _, [], h, _, _ => h.elim
  | c :: l, E :: L, h, F, hF => by
    rcases List.mem_cons.1 hF with rfl | hF
    · exact ⟨c, List.mem_cons_self, h.1⟩
    · obtain ⟨d, hd, hk⟩ := h.2.mem F hF
      exact ⟨d, List.mem_cons_of_mem _ hd, hk⟩
theorem ECs.len {f : Bool} : ∀ {l : List Int} {L : List Er}, ECs f l L → L.length = l.length
  | [], [], _ => rfl
  | [], _ :: _, h => h.elim
  | _ :: _, [], h => h.elim
  | _ :: _, _ :: _, h => by rw [List.length_cons, List.length_cons, h.2.len]
theorem EC.k {f : Bool} {c : Int} {E : Er} (h : EC f c E) : E.k = 2 ∧ E.ks = [] := by
  obtain ⟨C, rfl, -⟩ := h
  exact ⟨rfl, rfl⟩
/-- What Literal answers. -/
def LitIs (w : World) (c f : Bool) (s : ByteArray) (e : Ending) (w' : World) : Prop :=
  (litE c s ≠ 0 ∧ e = .returned (.tuple #[.agg #[.int .i64 0, .int .i64 0, .int .i64 0, .int .i64 0, .slice none 0 0, .slice none 0 0], .int .i64 (litE c s)]) ∧ Below w.heap.size w w') ∨
  (litE c s = 0 ∧ ∃ t' L, e = .returned (.tuple #[.agg #[.int .i64 t'.f.k, .int .i64 t'.f.n, .int .i64 t'.f.mn, .int .i64 t'.f.mx, .slice t'.f.rq t'.f.rs.length t'.f.rc, .slice t'.f.kq t'.f.kl t'.f.kc], .int .i64 0]) ∧ TA w' t' ∧ er t' = joinE 5 L (.mk 1 0 0 0 [] []) ∧ ECs f (litL c s) L ∧ Below w.heap.size w w')
theorem ret_lit {R : Ending → World → Prop} {a : Act} {W : World} {b : Nat} {f : Fl} {x : Int} (h : Six W b 0 f) (ha : a.tmps[4]?.getD undef = .pointer (some ⟨b, 0, none⟩)) (hb : a.tmps[5]?.getD undef = .int .i64 x) (hd : a.defers = []) (hR : R (.returned (.tuple #[.agg #[.int .i64 f.k, .int .i64 f.n, .int .i64 f.mn, .int .i64 f.mx, .slice f.rq f.rs.length f.rc, .slice f.kq f.kl f.kc], .int .i64 x])) W) : bodyPost Tryz.prog Tryz.f18 R .ret a W := by
  obtain ⟨z0, z1, z2, z3, z4, z5⟩ := h
  simp only [Nat.zero_add] at z1 z2 z3 z4 z5
  refine bodyPost_ret (v := .tuple #[.agg #[.int .i64 f.k, .int .i64 f.n, .int .i64 f.mn, .int .i64 f.mx, .slice f.rq f.rs.length f.rc, .slice f.kq f.kl f.kc], .int .i64 x]) ?_ hd hR
  simp [results, Tryz.results18, go_sem, ha, hb, z0, z1, z2, z3, z4, z5]
theorem flat_sets {ks : List Tr} (h : ∀ u ∈ ks, u.f.k = 2) : ks.flatMap catT = ks := by
  induction ks with
  | nil => rfl
  | cons u ks ih =>
    rw [List.flatMap_cons, ih (fun v hv => h v (List.mem_cons_of_mem _ hv))]
    have := h u (List.mem_cons_self ..)
    unfold catT
    rw [if_neg (by omega), if_neg (by omega)]
    rfl
set_option maxRecDepth 1000000 in
set_option maxHeartbeats 8000000 in
theorem literal_c (s : ByteArray) (w : World) (c f : Bool) (hs : s.size ≤ 2000) :
    Calls Tryz.prog 18 #[.string s, .agg #[.bool c, .bool f]] w (LitIs w c f s) := by
  have CH := hide (fun W => characters_c s W c f (by omega))
  have hlen : (litL c s).length ≤ 2000 := Nat.le_trans (litL_len c s) hs
  have BD := hide (litL_bd c s)
  obtain ⟨l, hl⟩ : ∃ l, litL c s = l := ⟨_, rfl⟩
  have HL := hide hl
  rw [hl] at CH hlen BD
  obtain ⟨x, hx⟩ : ∃ x, litE c s = x := ⟨_, rfl⟩
  have HX := hide hx
  rw [hx] at CH
  have B1 : Hid (Below w.heap.size w ((w.alloc (.cells #[.bool c, .bool f] 23)).alloc (.cells #[.int .i64 0, .int .i64 0, .int .i64 0, .int .i64 0, .slice none 0 0, .slice none 0 0] 28))) := ((Below.refl _ _).alloc (Nat.le_refl _) _).alloc (by simp) _
  have M1 : Hid (((w.alloc (.cells #[.bool c, .bool f] 23)).alloc (.cells #[.int .i64 0, .int .i64 0, .int .i64 0, .int .i64 0, .slice none 0 0, .slice none 0 0] 28)).heap[w.heap.size]? = some (.cells #[.bool c, .bool f] 23 (0, 0))) := (Below.heap_alloc _ _ _ (by simp)).trans (alloc_new w _)
  have Z1 : Hid (((w.alloc (.cells #[.bool c, .bool f] 23)).alloc (.cells #[.int .i64 0, .int .i64 0, .int .i64 0, .int .i64 0, .slice none 0 0, .slice none 0 0] 28)).heap[w.heap.size + 1]? = some (.cells #[.int .i64 0, .int .i64 0, .int .i64 0, .int .i64 0, .slice none 0 0, .slice none 0 0] 28 (0, 0))) := (by
    have := alloc_new (w.alloc (.cells #[.bool c, .bool f] 23)) (.cells #[.int .i64 0, .int .i64 0, .int .i64 0, .int .i64 0, .slice none 0 0, .slice none 0 0] 28)
    rwa [World.size_alloc] at this)
  clear hl hx
  go_enter Tryz.func18, Tryz.ntmps18
  go_upto_region 1 with fail
  generalize ((w.alloc (.cells #[.bool c, .bool f] 23)).alloc (.cells #[.int .i64 0, .int .i64 0, .int .i64 0, .int .i64 0, .slice none 0 0, .slice none 0 0] 28)) = W1 at B1 M1 Z1 ⊢
  obtain ⟨bz, hbz⟩ : ∃ bz, w.heap.size + 1 = bz := ⟨_, rfl⟩
  rw [hbz] at Z1 ⊢
  have hwz : w.heap.size ≤ bz := by omega
  have m0 := cell_row M1.out (i := 0) rfl
  have m1 := cell_row M1.out (i := 1) rfl
  clear hbz
  go_upto_region 2 with (go_at_call 36; (with_reducible refine (CH.out _).mono ?_); rintro e w5 ⟨v5, rfl, h51, h52⟩; obtain ⟨q5, k5, rfl⟩ := ownsRow_shape h51; have O5 := hide h51; have B5 := hide h52; clear h51 h52)
  have M5 : Hid (w5.heap[w.heap.size]? = some (.cells #[.bool c, .bool f] 23 (0, 0))) := (B5.out.block _ (lt_of_heap M1.out)).trans M1.out
  have Z5 : Hid (w5.heap[bz]? = some (.cells #[.int .i64 0, .int .i64 0, .int .i64 0, .int .i64 0, .slice none 0 0, .slice none 0 0] 28 (0, 0))) := (B5.out.block _ (lt_of_heap Z1.out)).trans Z1.out
  have B6 : Hid (Below w.heap.size w w5) := chain B1.out B5.out (Nat.le_refl _)
  have O6 : Hid (w5.ownsRow w.heap.size 3 1 (.slice q5 l.length k5) l.length (ints l)) := ownsRow_mono O5.out B1.out.size
  have hz1 : bz < w5.heap.size := lt_of_heap Z5.out
  clear m0 m1 M1 Z1 B1 B5 O5 CH
  by_cases hx0 : x = 0
  · have e0 : (x != 0) = false := by simpa using hx0
    subst hx0
    obtain ⟨t0, hi, hz0, hzz1, hzz2⟩ := info_parts size_node
    have hmx : l.length ≤ maxLen := by unfold maxLen; omega
    go_upto_region 6 with (at_make; refine wpList_make_full _ rfl _ _ 26 rfl w.heap.size 28 t0 (.agg #[.int .i64 0, .int .i64 0, .int .i64 0, .int .i64 0, .slice none 0 0, .slice none 0 0]) 6 und_nodes hi hz0 hzz1 .i64 .i64 (l.length : Int) (l.length : Int) l.length rfl rfl rfl rfl (by rw [hzz2]; omega) hmx B6.out.size ?_; intro w7 hown7 hg7; rw [made_nodes] at hown7; have O7 := hide hown7; have B7 : Hid (Below w5.heap.size w5 w7) := ⟨hg7.os, hg7.tape, hg7.output, hg7.size, fun k hk => hg7.block k hk (fun e => by cases e)⟩; clear hown7 hg7)
    have KR7 := hide (KR.of_row O7.out)
    obtain ⟨g, hg⟩ : ∃ g, w5.heap.size = g := ⟨_, rfl⟩
    rw [hg] at KR7 ⊢
    have hwg : w.heap.size ≤ g := by have := B6.out.size; omega
    have hzg : bz ≠ g := by omega
    have C7 : Hid (LtS w w.heap.size bz g c f q5 k5 l [] (List.replicate l.length zT) w7) := ⟨(B7.out.block _ (lt_of_heap M5.out)).trans M5.out, (B7.out.block _ (lt_of_heap Z5.out)).trans Z5.out, ownsRow_fr O6.out (Fr.of_below (S := fun _ => False) B7.out) (fun _ _ z => z), chain B6.out B7.out (Nat.le_refl _), KR7.out, fun u hu => by cases hu⟩
    clear M5 Z5 B6 O6 O7 B7 KR7 hg hz1 t0 hi hz0 hzz1 hzz2
    go_loopw [26] (fun i wr => ∃ (j : Nat) (nk : List Tr), j ≤ l.length ∧ i = .int .i64 (j : Int) ∧ nk.length = j ∧ ECs f (l.take j) (nk.map er) ∧ LtS w w.heap.size bz g c f q5 k5 l nk (List.replicate (l.length - j) zT) wr) (fun i _ => l.length - (intOf i).toNat)
    case atStart => exact ⟨0, [], Nat.zero_le _, rfl, rfl, trivial, C7.out⟩
    case round =>
      clear C7
      obtain ⟨j, nk, hj, rfl, hnk, hec, hcs⟩ := hrel
      have HS := hide hcs
      have HEC := hide hec
      have HNK := hide hnk
      clear hcs hec hnk
      by_cases hjl : j < l.length
      · have i0 : (j : Int) < (l.length : Int) := by omega
        obtain ⟨y, hy⟩ : ∃ y, l[j]? = some y := ⟨_, List.getElem?_eq_getElem hjl⟩
        have HY := hide hy
        obtain ⟨gl, cc, hq⟩ := ownsRow_some HS.out.lst (by omega)
        injection hq with hq1 _ hq2
        subst hq1 hq2
        have ly : wr.cell? ⟨gl, j, none⟩ = some (.int .i64 y) := ownsRow_cell HS.out.lst (by simp [ints, hy])
        have md0 := cell_row HS.out.md (i := 0) rfl
        have md1 := cell_row HS.out.md (i := 1) rfl
        have hb := BD.out y (List.mem_of_getElem? hy)
        have CC := hide (character8_c (w := wr) y hb c f)
        have hug := HS.out.row.lt
        have hrp : List.replicate (l.length - j) zT = zT :: List.replicate (l.length - (j + 1)) zT := by rw [show l.length - j = (l.length - (j + 1)) + 1 by omega, List.replicate_succ]
        have HRP := hide hrp
        have CU : Hid (Calls Tryz.prog 37 #[.int .i64 y, .agg #[.bool c, .bool f]] wr fun e w5 => ∃ t5 : Tr, e = .returned (.agg #[.int .i64 t5.f.k, .int .i64 t5.f.n, .int .i64 t5.f.mn, .int .i64 t5.f.mx, .slice t5.f.rq t5.f.rs.length t5.f.rc, .slice t5.f.kq t5.f.kl t5.f.kc]) ∧ LtS w w.heap.size bz g c f (some ⟨gl, 0, none⟩) k5 l nk (List.replicate (l.length - j) zT) w5 ∧ Six w5 g (j * 6) zT.f ∧ LtS w w.heap.size bz g c f (some ⟨gl, 0, none⟩) k5 l (nk ++ [t5]) (List.replicate (l.length - (j + 1)) zT) (put6 w5 g (j * 6) t5.f) ∧ EC f y (er t5)) := CC.out.mono fun e w5 ⟨t5, h50, h51, h52, h53, h54⟩ => (by
          have S5 := HS.out.kept h54
          have S6 := S5.next (t := t5) (j := j) HNK.out (by rw [HRP.out]; simp) hzg hwg h51 (h53.mono (fun k hk => Nat.lt_of_lt_of_le hug hk))
          rw [HRP.out] at S6
          refine ⟨t5, h50, S5, S5.row.six j zT (by rw [HRP.out, List.getElem?_append_right (by have := HNK.out; omega), HNK.out, Nat.sub_self]; rfl), S6, h52⟩)
        clear hy CC hb hug hrp
        go_wp2_with (go_at_call 37; (with_reducible refine (CU.out).mono ?_); rintro e w5 ⟨t5, rfl, h51, h52, h53, h54⟩; obtain ⟨y0, y1, y2, y3, y4, y5⟩ := h52; have S5 := hide h51; have fz := fun z => S5.out.row.frz z; unfold put6 at h53; have S6 := hide h53; have E6 := hide h54; clear h51 h53 h54)
        have HEN := hide (show ECs f (l.take (j + 1)) ((nk ++ [t5]).map er) by
          rw [List.take_add_one, HY.out, List.map_append]
          exact HEC.out.snoc E6.out)
        go_roundw
        case rel => exact ⟨j + 1, nk ++ [t5], by omega, by go_num, by rw [List.length_append, HNK.out]; rfl, HEN.out, S6.out⟩
        case measure => simp only [intOf]; omega
      · have i0 : ¬ (j : Int) < (l.length : Int) := by omega
        have hje : j = l.length := by omega
        have S9 := HS.out
        rw [show l.length - j = 0 by omega, List.replicate_zero] at S9
        have hrow := S9.row
        rw [List.append_nil] at hrow
        have hec := HEC.out
        rw [List.take_of_length_le (by omega)] at hec
        have hnl : nk.length = l.length := by have := HNK.out; omega
        have hk2 : ∀ u ∈ nk, u.f.k = 2 := fun u hu => by
          obtain ⟨z, -, hz⟩ := hec.mem (er u) (List.mem_map_of_mem hu)
          rw [← er_k]
          exact hz.k.1
        have hszs : szs nk = nk.length := by
          have : ∀ m : List Tr, (∀ u ∈ m, u ∈ nk) → szs m = m.length := by
            intro m
            induction m with
            | nil => intro _; rw [szs_nil]; rfl
            | cons u m ih =>
              intro h
              obtain ⟨z, -, hz⟩ := hec.mem (er u) (List.mem_map_of_mem (h u (List.mem_cons_self ..)))
              have h1 : u.sz = 1 := by rw [← er_sz, esz_eq, hz.k.2, eszs_nil]
              rw [szs_cons, h1, ih (fun v hv => h v (List.mem_cons_of_mem _ hv)), List.length_cons]
              omega
          exact this nk (fun _ h => h)
        have CT := cat_c (hrow.arg (Nat.le_refl nk.length) (by rw [hnl]; exact hmx)) (fun u hu => (S9.new u hu).1) (by rw [hszs, hnl]; omega)
        rw [flat_sets hk2, hnl] at CT
        have HCT := hide CT
        have HRES := hide S9.res
        have HBEL := hide S9.bel
        have HEC9 := hide hec
        have LZ := lt_of_heap S9.res
        clear CT S9 hrow hec hnl hk2 hszs hje HS HEC HNK
        go_upto_region 11 with (go_at_call 38; (with_reducible refine (HCT.out).mono ?_); rintro e w9 ⟨t9, rfl, h91, h92, h93, h94⟩; have R9 : w9.heap[bz]? = some (.cells #[.int .i64 0, .int .i64 0, .int .i64 0, .int .i64 0, .slice none 0 0, .slice none 0 0] 28 (0, 0)) := (h94.block _ LZ).trans HRES.out; have r0 := cell_row R9 (i := 0) rfl; have r1 := cell_row R9 (i := 1) rfl; have r2 := cell_row R9 (i := 2) rfl; have r3 := cell_row R9 (i := 3) rfl; have r4 := cell_row R9 (i := 4) rfl; have r5 := cell_row R9 (i := 5) rfl; have fz := fun z => frz_row R9 z; have L9 := hide (laid_res h91 (h92.mono (fun k hk => Nat.lt_of_lt_of_le LZ hk)) R9); have X9 := hide L9.out.1; have P9 := hide L9.out.2.2; unfold put6 at X9 P9; have Q9 := hide (⟨h93, chain HBEL.out h94 (Nat.le_refl _)⟩ : er t9 = _ ∧ Below w.heap.size w w9); clear h91 h92 h93 h94)
        refine ret_lit X9.out rfl rfl rfl (.inr ⟨HX.out, t9, nk.map er, rfl, L9.out.2.1, Q9.out.1, by rw [HL.out]; exact HEC9.out, chainF Q9.out.2 P9.out (Nat.le_refl _) (fun k e => by omega)⟩)
  · have e0 : (x != 0) = true := by simpa using hx0
    have r0 := cell_row Z5.out (i := 0) rfl
    have r1 := cell_row Z5.out (i := 1) rfl
    have r2 := cell_row Z5.out (i := 2) rfl
    have r3 := cell_row Z5.out (i := 3) rfl
    have r4 := cell_row Z5.out (i := 4) rfl
    have r5 := cell_row Z5.out (i := 5) rfl
    have fz := fun z => frz_row Z5.out z
    have L9 := hide (laid_res (bare_ta w5 0) (bare_foot (fun i => bz < i) 0) Z5.out)
    have X9 := hide L9.out.1
    have P9 := hide L9.out.2.2
    unfold put6 at X9 P9
    have HX0 := hide hx0
    clear hx0
    go_wp2
    refine ret_lit (f := bare 0) X9.out rfl rfl rfl (.inl ⟨by rw [HX.out]; exact HX0.out, by rw [HX.out]; rfl, chainF B6.out P9.out (Nat.le_refl _) (fun k e => by omega)⟩)
end Go.Proofs.YtpfdapnfkghgkaaGreatDoor
namespace Go.Proofs.YtpfdapnfkghgkaaGreatDoor
open Go Go.RowKit

/-- The blocks in which the Kids' lists lie; the ranges'. -/
def FK (N : Nat → Prop) (t : Tr) : Prop := Every (fun t => ∀ a, t.f.kq = some a → t.ks ≠ [] → N a.block) t
def FR (N : Nat → Prop) (t : Tr) : Prop := Every (fun t => ∀ a, t.f.rq = some a → t.f.rs ≠ [] → N a.block) t
theorem FK.mono {N M : Nat → Prop} {t : Tr} (h : FK N t) (hm : ∀ k, N k → M k) : FK M t := every_imp (fun _ q => fun a e z => hm _ (q a e z)) t h
theorem FR.mono {N M : Nat → Prop} {t : Tr} (h : FR N t) (hm : ∀ k, N k → M k) : FR M t := every_imp (fun _ q => fun a e z => hm _ (q a e z)) t h
theorem foot_fk {N : Nat → Prop} {t : Tr} (h : Foot N t) : FK N t := every_imp (fun _ q => q.2) t h
theorem foot_fr {N : Nat → Prop} {t : Tr} (h : Foot N t) : FR N t := every_imp (fun _ q => q.1) t h
theorem fk_fr {N : Nat → Prop} {t : Tr} (h : FK N t) (k : FR N t) : Foot N t := every_two (fun _ a b => ⟨b, a⟩) t h k
/-- A block of nodes that is none of a tree's is written. -/
theorem TA.write {W W' : World} {t : Tr} {g : Nat} (h : TA W t) (hk : FK (fun k => k ≠ g) t) (hg : ∃ cur, W.heap[g]? = some (.cells cur 28 (0, 0))) (hf : Fr (fun z => z = g) W W') : TA W' t := by
  obtain ⟨cur, hc⟩ := hg
  have hr : FR (fun k => k ≠ g) t := every_imp (fun u q => fun a e z => by
    obtain ⟨cur2, hc2⟩ := (show NA W u from q).own.1 a e z
    exact fun e2 => by rw [e2] at hc2; rw [hc] at hc2; cases hc2) t h
  exact h.ckN (fk_fr hk hr) (hf.ckeep (fun k e z => z e))
/-- What a call answers that makes a tree of a part. -/
def NodeIs (base : Nat) (W : World) (x : Ps) (e : Ending) (w' : World) : Prop := ∃ t', e = .returned (.agg #[.int .i64 t'.f.k, .int .i64 t'.f.n, .int .i64 t'.f.mn, .int .i64 t'.f.mx, .slice t'.f.rq t'.f.rs.length t'.f.rc, .slice t'.f.kq t'.f.kl t'.f.kc]) ∧ TA w' t' ∧ er t' = te x ∧ Below W.heap.size W w' ∧ FK (fun k => W.heap.size ≤ k) t' ∧ FR (fun k => base ≤ k) t'
def NodesIs (base : Nat) (W : World) (x : Ps) (e : Ending) (w' : World) : Prop := ∃ g ks, e = .returned (.slice (some ⟨g, 0, none⟩) ks.length ks.length) ∧ KR w' g ks ∧ ks.map er = x.kids.map te ∧ (∀ u ∈ ks, TA w' u ∧ FK (fun k => g < k) u ∧ FR (fun k => base ≤ k) u) ∧ W.heap.size ≤ g ∧ Below W.heap.size W w' ∧ ks.length = x.kids.length
structure NdS (w : World) (base g : Nat) (nk old : List Tr) (W : World) : Prop where
  bel : Below w.heap.size w W
  row : KR W g (nk ++ old)
  new : ∀ u ∈ nk, TA W u ∧ FK (fun k => g < k) u ∧ FR (fun k => base ≤ k) u
theorem NdS.kept {w W W' : World} {base g : Nat} {nk old : List Tr} (h : NdS w base g nk old W) (hb : Below W.heap.size W W') : NdS w base g nk old W' :=
  ⟨chain h.bel hb (Nat.le_refl _), h.row.kept hb, fun u hu => ⟨(h.new u hu).1.kept hb, (h.new u hu).2⟩⟩
theorem NdS.next {w W : World} {base g j : Nat} {nk old : List Tr} {t : Tr} (h : NdS w base g nk old W) (hj : nk.length = j) (ho : old ≠ []) (hwg : w.heap.size ≤ g) (ht : TA W t) (hk : FK (fun k => g < k) t) (hr : FR (fun k => base ≤ k) t) :
    NdS w base g (nk ++ [t]) old.tail (put6 W g (j * 6) t.f) := by
  have F := put6_fr W g (j * 6) t.f
  have hl : j < (nk ++ old).length := by
    rw [List.length_append]
    cases old with
    | nil => exact absurd rfl ho
    | cons x r => simp; omega
  refine ⟨chainF h.bel F (Nat.le_refl _) (fun k e => by omega), ?_, fun u hu => ?_⟩
  · have := h.row.set hl t
    cases old with
    | nil => exact absurd rfl ho
    | cons x r =>
      rw [List.set_append_right _ _ (by omega), hj, Nat.sub_self, List.set_cons_zero] at this
      rw [List.append_assoc]
      exact this
  · rcases List.mem_append.1 hu with q | q
    · obtain ⟨a, b, c⟩ := h.new u q
      exact ⟨a.write (b.mono (fun k hk => by omega)) h.row.blk F, b, c⟩
    · simp at q
      subst q
      exact ⟨ht.write (hk.mono (fun k hk => by omega)) h.row.blk F, hk, hr⟩
set_option maxRecDepth 1000000 in
set_option maxHeartbeats 8000000 in
theorem nodes_c9 {base : Nat} {N : Nat → Prop} {x : Ps} {W : World} {v : Value} (ih : ∀ (y : Ps) (W : World) (v : Value), y ∈ x.kids → PV base N W y v → base ≤ W.heap.size → Calls Tryz.prog 27 #[v] W (NodeIs base W y)) (hsz : x.sz ≤ 1000000) (hb : base ≤ W.heap.size) (h : PV base N W x v) :
    Calls Tryz.prog 56 #[v] W (NodesIs base W x) := by
  obtain ⟨T, u, F, rfl, hmeth, hcf, hc⟩ := win_leaf h
  have WC := hide hc
  have IH := hide ih
  have hnl : x.kids.length ≤ 1000000 := by
    have : ∀ l : List Ps, l.length ≤ pszs l := by
      intro l
      induction l with
      | nil => simp
      | cons y l ih => rw [pszs_cons, List.length_cons]; have := psz_pos y; omega
    have := this x.kids
    have := psz_kids x
    omega
  obtain ⟨n, hn⟩ : ∃ n, x.kids.length = n := ⟨_, rfl⟩
  have HN := hide hn
  have WC2 : Hid (Calls Tryz.prog F #[u] W fun e w' => ∃ (q : Option Addr) (c : Nat) (vs : List Value), e = .returned (.slice q n c) ∧ Below W.heap.size W w' ∧ vs.length = n ∧ (∀ (i : Nat) (u : Value), vs[i]? = some u → ∃ g, q = some ⟨g, 0, none⟩ ∧ g < w'.heap.size ∧ w'.cell? ⟨g, i, none⟩ = some u) ∧ ∀ (i : Nat) (y : Ps) (u : Value), x.kids[i]? = some y → vs[i]? = some u → PV base N w' y u) := by
    have := WC.out
    unfold WinP at this
    rw [hn] at this
    exact this
  rw [hn] at hnl
  obtain ⟨t0, hi, hz0, hzz1, hzz2⟩ := info_parts size_node
  have hmx : n ≤ maxLen := by unfold maxLen; omega
  clear ih h hc hn WC hsz
  go_enter Tryz.func56, Tryz.ntmps56
  go_upto_region 3 with first
    | ((with_reducible refine (WC2.out).mono ?_); rintro e w5 ⟨q5, c5, vs, rfl, h1, h2, h3, h4⟩; have B5 := hide h1; have L5 := hide h2; have R5 := hide h3; have V5 := hide h4; clear h1 h2 h3 h4)
    | (at_make; refine wpList_make_full _ rfl _ _ 26 rfl w5.heap.size 28 t0 (.agg #[.int .i64 0, .int .i64 0, .int .i64 0, .int .i64 0, .slice none 0 0, .slice none 0 0]) 6 und_nodes hi hz0 hzz1 .i64 .i64 (n : Int) (n : Int) n rfl rfl rfl rfl (by rw [hzz2]; omega) hmx (Nat.le_refl _) ?_; intro w7 hown7 hg7; rw [made_nodes] at hown7; have O7 := hide hown7; have B7 : Hid (Below w5.heap.size w5 w7) := ⟨hg7.os, hg7.tape, hg7.output, hg7.size, fun k hk => hg7.block k hk (fun e => by cases e)⟩; clear hown7 hg7)
  have KR7 := hide (KR.of_row O7.out)
  obtain ⟨g, hg⟩ : ∃ g, w5.heap.size = g := ⟨_, rfl⟩
  rw [hg] at KR7 ⊢
  have S7 : Hid (NdS w5 base g [] (List.replicate n zT) w7) := ⟨B7.out, KR7.out, fun u hu => by cases hu⟩
  have hb5 : base ≤ w5.heap.size := Nat.le_trans hb B5.out.size
  clear O7 B7 KR7 t0 hi hz0 hzz1 hzz2
  go_wp2
  go_loopw [14] (fun i wr => ∃ (j : Nat) (nk : List Tr), j ≤ n ∧ i = .int .i64 (j : Int) ∧ nk.length = j ∧ nk.map er = (x.kids.take j).map te ∧ NdS w5 base g nk (List.replicate (n - j) zT) wr) (fun i _ => n - (intOf i).toNat)
  case atStart => exact ⟨0, [], Nat.zero_le _, rfl, rfl, rfl, S7.out⟩
  case round =>
    clear S7
    obtain ⟨j, nk, hj, rfl, hnk, hme, hcs⟩ := hrel
    have HS := hide hcs
    have HME := hide hme
    have HNK := hide hnk
    clear hcs hme hnk
    by_cases hjl : j < n
    · have i0 : (j : Int) < (n : Int) := by omega
      obtain ⟨y, hy⟩ : ∃ y, x.kids[j]? = some y := ⟨_, List.getElem?_eq_getElem (by have := HN.out; omega)⟩
      obtain ⟨uu, hu⟩ : ∃ uu, vs[j]? = some uu := ⟨_, List.getElem?_eq_getElem (by have := L5.out; omega)⟩
      obtain ⟨gq, rfl, hgq, hcell⟩ := R5.out j uu hu
      have hV := (V5.out j y uu hy hu).kept HS.out.bel
      obtain ⟨T6, u6, rfl⟩ := hV.shape
      have cc := (HS.out.bel.cell (p := ⟨gq, j, none⟩) hgq).trans hcell
      have lg : gq < wr.heap.size := Nat.lt_of_lt_of_le hgq HS.out.bel.size
      have hym : y ∈ x.kids := List.mem_of_getElem? hy
      have CC := IH.out y wr (.iface T6 u6) hym hV (Nat.le_trans hb5 HS.out.bel.size)
      have hug := HS.out.row.lt
      have HRP := hide (show List.replicate (n - j) zT = zT :: List.replicate (n - (j + 1)) zT by rw [show n - j = (n - (j + 1)) + 1 by omega, List.replicate_succ])
      have HY := hide hy
      have CU : Hid (Calls Tryz.prog 27 #[.iface T6 u6] wr fun e w8 => ∃ t5 : Tr, e = .returned (.agg #[.int .i64 t5.f.k, .int .i64 t5.f.n, .int .i64 t5.f.mn, .int .i64 t5.f.mx, .slice t5.f.rq t5.f.rs.length t5.f.rc, .slice t5.f.kq t5.f.kl t5.f.kc]) ∧ NdS w5 base g nk (List.replicate (n - j) zT) w8 ∧ Six w8 g (j * 6) zT.f ∧ NdS w5 base g (nk ++ [t5]) (List.replicate (n - (j + 1)) zT) (put6 w8 g (j * 6) t5.f) ∧ er t5 = te y) := CC.mono fun e w8 ⟨t5, h50, h51, h52, h53, h54, h55⟩ => (by
        have S5 := HS.out.kept h53
        have S6 := S5.next (t := t5) (j := j) HNK.out (by rw [HRP.out]; simp) (by omega) h51 (h54.mono (fun k hk => Nat.lt_of_lt_of_le hug hk)) h55
        rw [HRP.out] at S6
        exact ⟨t5, h50, S5, S5.row.six j zT (by rw [HRP.out, List.getElem?_append_right (by have := HNK.out; omega), HNK.out, Nat.sub_self]; rfl), S6, h52⟩)
      clear hy hu hcell hV hym CC hug
      go_wp2_with (go_at_call 27; (with_reducible refine (CU.out).mono ?_); rintro e w8 ⟨t5, rfl, h51, h52, h53, h54⟩; obtain ⟨y0, y1, y2, y3, y4, y5⟩ := h52; have S5 := hide h51; have fz := fun z => S5.out.row.frz z; unfold put6 at h53; have S6 := hide h53; have E6 := hide h54; clear h51 h53 h54)
      have HEN := hide (show (nk ++ [t5]).map er = (x.kids.take (j + 1)).map te by
        rw [List.take_add_one, HY.out, List.map_append, HME.out, List.map_append]
        simp [E6.out])
      go_roundw
      case rel => exact ⟨j + 1, nk ++ [t5], by omega, by go_num, by rw [List.length_append, HNK.out]; rfl, HEN.out, S6.out⟩
      case measure => simp only [intOf]; omega
    · have i0 : ¬ (j : Int) < (n : Int) := by omega
      have S9 := HS.out
      rw [show n - j = 0 by omega, List.replicate_zero] at S9
      have hrow := S9.row
      rw [List.append_nil] at hrow
      have hme := HME.out
      rw [List.take_of_length_le (by have := HN.out; omega)] at hme
      have hnl2 : nk.length = n := by have := HNK.out; omega
      have RES := hide (show NodesIs base W x (.returned (.slice (some ⟨g, 0, none⟩) n n)) wr from ⟨g, nk, by rw [hnl2], hrow, hme, S9.new, by have := B5.out.size; omega, chain B5.out S9.bel (Nat.le_refl _), by rw [hnl2, HN.out]⟩)
      clear S9 hrow hme hnl2 HS HME HNK
      go_wp2
      go_ret
      exact RES.out
end Go.Proofs.YtpfdapnfkghgkaaGreatDoor
namespace Go.Proofs.YtpfdapnfkghgkaaGreatDoor
open Go Go.RowKit

theorem ta_leaf (u : Value) (w : World) : (Instr.typeAssert (.iface 120 u) 58 120 true).run Tryz.prog w = .ok (.tuple #[u, .bool true]) w := by kernel_rfl
theorem ta_group (u : Value) (w : World) : (Instr.typeAssert (.iface 122 u) 58 122 true).run Tryz.prog w = .ok (.tuple #[u, .bool true]) w := by kernel_rfl
theorem ta_group_leaf (u : Value) (w : World) : (Instr.typeAssert (.iface 122 u) 58 120 true).run Tryz.prog w = .ok (.tuple #[.agg #[.int .i64 0, .int .i64 0, .int .i64 0, .int .i64 0, .slice none 0 0, .slice none 0 0], .bool false]) w := by kernel_rfl
theorem ta_turns (u : Value) (w : World) : (Instr.typeAssert (.iface 125 u) 58 125 true).run Tryz.prog w = .ok (.tuple #[u, .bool true]) w := by kernel_rfl
theorem ta_turns_leaf (u : Value) (w : World) : (Instr.typeAssert (.iface 125 u) 58 120 true).run Tryz.prog w = .ok (.tuple #[.agg #[.int .i64 0, .int .i64 0, .int .i64 0, .int .i64 0, .slice none 0 0, .slice none 0 0], .bool false]) w := by kernel_rfl
theorem ta_turns_group (u : Value) (w : World) : (Instr.typeAssert (.iface 125 u) 58 122 true).run Tryz.prog w = .ok (.tuple #[.agg #[.int .i64 0, .nilIface], .bool false]) w := by kernel_rfl
theorem ta_row (u : Value) (w : World) : (Instr.typeAssert (.iface 127 u) 58 127 true).run Tryz.prog w = .ok (.tuple #[u, .bool true]) w := by kernel_rfl
theorem ta_row_leaf (u : Value) (w : World) : (Instr.typeAssert (.iface 127 u) 58 120 true).run Tryz.prog w = .ok (.tuple #[.agg #[.int .i64 0, .int .i64 0, .int .i64 0, .int .i64 0, .slice none 0 0, .slice none 0 0], .bool false]) w := by kernel_rfl
theorem ta_row_group (u : Value) (w : World) : (Instr.typeAssert (.iface 127 u) 58 122 true).run Tryz.prog w = .ok (.tuple #[.agg #[.int .i64 0, .nilIface], .bool false]) w := by kernel_rfl
theorem ta_row_turns (u : Value) (w : World) : (Instr.typeAssert (.iface 127 u) 58 125 true).run Tryz.prog w = .ok (.tuple #[.agg #[.int .i64 0, .int .i64 0, .nilIface], .bool false]) w := by kernel_rfl
theorem ta_choice (u : Value) (w : World) : (Instr.typeAssert (.iface 117 u) 58 117 true).run Tryz.prog w = .ok (.tuple #[u, .bool true]) w := by kernel_rfl
theorem ta_choice_leaf (u : Value) (w : World) : (Instr.typeAssert (.iface 117 u) 58 120 true).run Tryz.prog w = .ok (.tuple #[.agg #[.int .i64 0, .int .i64 0, .int .i64 0, .int .i64 0, .slice none 0 0, .slice none 0 0], .bool false]) w := by kernel_rfl
theorem ta_choice_group (u : Value) (w : World) : (Instr.typeAssert (.iface 117 u) 58 122 true).run Tryz.prog w = .ok (.tuple #[.agg #[.int .i64 0, .nilIface], .bool false]) w := by kernel_rfl
theorem ta_choice_turns (u : Value) (w : World) : (Instr.typeAssert (.iface 117 u) 58 125 true).run Tryz.prog w = .ok (.tuple #[.agg #[.int .i64 0, .int .i64 0, .nilIface], .bool false]) w := by kernel_rfl
theorem ta_choice_row (u : Value) (w : World) : (Instr.typeAssert (.iface 117 u) 58 127 true).run Tryz.prog w = .ok (.tuple #[.agg #[.slice none 0 0], .bool false]) w := by kernel_rfl
theorem ret_node {R : Ending → World → Prop} {a : Act} {W : World} {b : Nat} {f : Fl} (h : Six W b 0 f) (ha : a.tmps[2]?.getD undef = .pointer (some ⟨b, 0, none⟩)) (hd : a.defers = []) (hR : R (.returned (.agg #[.int .i64 f.k, .int .i64 f.n, .int .i64 f.mn, .int .i64 f.mx, .slice f.rq f.rs.length f.rc, .slice f.kq f.kl f.kc])) W) : bodyPost Tryz.prog Tryz.f27 R .ret a W := by
  obtain ⟨z0, z1, z2, z3, z4, z5⟩ := h
  simp only [Nat.zero_add] at z1 z2 z3 z4 z5
  refine bodyPost_ret (v := .agg #[.int .i64 f.k, .int .i64 f.n, .int .i64 f.mn, .int .i64 f.mx, .slice f.rq f.rs.length f.rc, .slice f.kq f.kl f.kc]) ?_ hd hR
  simp [results, Tryz.results27, go_sem, ha, z0, z1, z2, z3, z4, z5]
abbrev nodeZ : Obj := .cells #[.int .i64 0, .int .i64 0, .int .i64 0, .int .i64 0, .slice none 0 0, .slice none 0 0] 28
set_option maxRecDepth 100000 in
set_option maxHeartbeats 8000000 in
theorem node_leaf {base : Nat} {N : Nat → Prop} {W : World} {k n : Int} {rs : List (Int × Int)} {v : Value} (h : PV base N W (.lf k n rs) v) : Calls Tryz.prog 27 #[v] W (NodeIs base W (.lf k n rs)) := by
  cases h with
  | lf _ _ _ q c hr hf hl =>
    have HR := hide hr
    have ta1 := ta_leaf (.agg #[.int .i64 k, .int .i64 n, .int .i64 0, .int .i64 0, .slice q rs.length c, .slice none 0 0])
    clear hr
    go_enter Tryz.func27, Tryz.ntmps27
    go_wp2
    have B : Below W.heap.size W ((W.alloc (.cells #[.int .i64 k, .int .i64 n, .int .i64 0, .int .i64 0, .slice q rs.length c, .slice none 0 0] 28)).alloc (.cells #[.int .i64 k, .int .i64 n, .int .i64 0, .int .i64 0, .slice q rs.length c, .slice none 0 0] 120)) := ((Below.refl _ _).alloc (Nat.le_refl _) _).alloc (by simp) _
    have N1 : BoxN ((W.alloc (.cells #[.int .i64 k, .int .i64 n, .int .i64 0, .int .i64 0, .slice q rs.length c, .slice none 0 0] 28)).alloc (.cells #[.int .i64 k, .int .i64 n, .int .i64 0, .int .i64 0, .slice q rs.length c, .slice none 0 0] 120)) W.heap.size ⟨k, n, 0, 0, rs, q, c, none, 0, 0⟩ := (Below.heap_alloc _ _ _ (by simp)).trans (alloc_new W _)
    have R1 := HR.out.kept B
    refine ret_node N1.six rfl rfl ⟨.mk ⟨k, n, 0, 0, rs, q, c, none, 0, 0⟩ [], rfl, (every_eq _).2 ⟨⟨R1.arg, .inl ⟨none, 0, rfl, rfl, fun _ => rfl⟩, hf, ?_, NO.rows R1 (fun a e _ => by cases e)⟩, (everyL_iff _).2 fun u hu => by cases hu⟩, ?_, B, (every_eq _).2 ⟨fun a e => (by cases e), (everyL_iff _).2 fun u hu => by cases hu⟩, (every_eq _).2 ⟨fun a e _ => ?_, (everyL_iff _).2 fun u hu => by cases hu⟩⟩
    · show rs.length + 3 ≤ 8796093022208
      omega
    · rw [er_eq, te]; rfl
    · have e' : q = some a := e
      exact (ownsRow_at R1 (g := a.block) (by rw [e']; rfl)).1
theorem szs_te {ks : List Tr} {l : List Ps} (h : ks.map er = l.map te) : szs ks = pszs l := by
  induction l generalizing ks with
  | nil => obtain rfl : ks = [] := by simpa using h
           rw [szs_nil, pszs_nil]
  | cons x l ih =>
    match ks, h with
    | u :: ks, h =>
      rw [List.map_cons, List.map_cons] at h
      injection h with h1 h2
      rw [szs_cons, pszs_cons, ih h2, ← er_sz, h1, te_sz]
theorem cat_kids {ks : List Tr} {l : List Ps} (h : ks.map er = l.map te) (hi : ∀ y ∈ l, isItm y = true ∧ wf y) : (ks.flatMap catT).map er = l.map te := by
  induction l generalizing ks with
  | nil => obtain rfl : ks = [] := by simpa using h
           rfl
  | cons x l ih =>
    match ks, h with
    | u :: ks, h =>
      rw [List.map_cons, List.map_cons] at h
      injection h with h1 h2
      rw [List.flatMap_cons, List.map_append, catT_er, h1, ih h2 (fun y hy => hi y (List.mem_cons_of_mem _ hy)), List.map_cons]
      have hx := hi x (List.mem_cons_self ..)
      have hk : x.kd ≠ 1 ∧ x.kd ≠ 5 := by
        have hw := hx.2
        cases x with
        | lf k n rs => rw [wf] at hw; rcases hw with rfl | rfl | rfl | rfl <;> simp [Ps.kd]
        | grp => simp [Ps.kd]
        | rep => simp [Ps.kd]
        | row => simp [isItm] at hx
        | alt => simp [isItm] at hx
      rw [catE_one (by rw [te_k]; exact hk.1) (by rw [te_k]; exact hk.2)]
      rfl
theorem alt_kids {ks : List Tr} {l : List Ps} (h : ks.map er = l.map te) (hi : ∀ y ∈ l, isBr y = true ∧ wf y) : (ks.flatMap altT).map er = l.map te := by
  induction l generalizing ks with
  | nil => obtain rfl : ks = [] := by simpa using h
           rfl
  | cons x l ih =>
    match ks, h with
    | u :: ks, h =>
      rw [List.map_cons, List.map_cons] at h
      injection h with h1 h2
      rw [List.flatMap_cons, List.map_append, altT_er, h1, ih h2 (fun y hy => hi y (List.mem_cons_of_mem _ hy)), List.map_cons]
      have hx := hi x (List.mem_cons_self ..)
      rw [altE_one (by rw [te_k]; exact (kd_br hx.1 hx.2).2)]
      rfl
theorem te_row {l : List Ps} (h : l.length ≠ 1) : joinE 5 (l.map te) (.mk 1 0 0 0 [] []) = te (.row l) := by
  rw [te]
  match l, h with
  | [], _ => rfl
  | x :: y :: l, _ => rw [tes_map]; rfl
theorem te_alt {l : List Ps} (h : 2 ≤ l.length) (no : Er) : joinE 6 (l.map te) no = te (.alt l) := by
  rw [te]
  match l, h with
  | x :: y :: l, _ => rw [tes_map]; rfl
end Go.Proofs.YtpfdapnfkghgkaaGreatDoor
namespace Go.Proofs.YtpfdapnfkghgkaaGreatDoor
open Go Go.RowKit

theorem laid9 {W : World} {bz : Nat} {t : Tr} {f : Fl} (ht : TA W t) (hk : FK (fun k => bz < k) t) (hr : ∃ cur, W.heap[bz]? = some (.cells cur 28 (0, 0))) (h6 : Six W bz 0 f) :
    Six (put6 W bz 0 t.f) bz 0 t.f ∧ TA (put6 W bz 0 t.f) t ∧ Fr (fun z => z = bz) W (put6 W bz 0 t.f) ∧ ∃ cur, (put6 W bz 0 t.f).heap[bz]? = some (.cells cur 28 (0, 0)) := by
  have F := put6_fr W bz 0 t.f
  refine ⟨put6_six h6, ht.write (hk.mono (fun k q => by omega)) hr F, F, ?_⟩
  unfold put6
  exact blk_set (blk_set (blk_set (blk_set (blk_set (blk_set hr _ _) _ _) _ _) _ _) _ _) _ _
set_option maxRecDepth 100000 in
set_option maxHeartbeats 8000000 in
theorem node_row {base : Nat} {N : Nat → Prop} {W : World} {l : List Ps} {v : Value} (h : PV base N W (.row l) v) (hw : wf (.row l)) (hb : base ≤ W.heap.size) (hsz : (Ps.row l).sz ≤ 100000)
    (nd : ∀ W v, PV base N W (.row l) v → base ≤ W.heap.size → Calls Tryz.prog 56 #[v] W (NodesIs base W (.row l))) : Calls Tryz.prog 27 #[v] W (NodeIs base W (.row l)) := by
  have HV := hide h
  rw [wf] at hw
  obtain ⟨hw1, hw2, hw3⟩ := hw
  cases h with
  | row _ vs q c hl ho hN he =>
    have ta0 := ta_row_leaf (.agg #[.slice q l.length c])
    have ta1 := ta_row_group (.agg #[.slice q l.length c])
    have ta2 := ta_row_turns (.agg #[.slice q l.length c])
    have ta3 := ta_row (.agg #[.slice q l.length c])
    have B2 : Hid (Below W.heap.size W ((W.alloc nodeZ).alloc (.cells #[.slice q l.length c] 127))) := ((Below.refl _ _).alloc (Nat.le_refl _) _).alloc (by simp) _
    have Z2 : Hid (((W.alloc nodeZ).alloc (.cells #[.slice q l.length c] 127)).heap[W.heap.size]? = some nodeZ) := (Below.heap_alloc _ _ _ (by simp)).trans (alloc_new W _)
    have M2 : ((W.alloc nodeZ).alloc (.cells #[.slice q l.length c] 127)).heap[W.heap.size + 1]? = some (.cells #[.slice q l.length c] 127 (0, 0)) := (by
      have := alloc_new (W.alloc nodeZ) (.cells #[.slice q l.length c] 127)
      rwa [World.size_alloc] at this)
    have HM2 := hide M2
    have ND := hide (nd _ _ (HV.out.kept B2.out) (Nat.le_trans hb B2.out.size))
    have HX := hide (show ∀ ks : List Tr, ks.map er = (Ps.row l).kids.map te → szs ks < 1000000 ∧ joinE 5 ((ks.flatMap catT).map er) (.mk 1 0 0 0 [] []) = te (.row l) from fun ks hk => ⟨by rw [szs_te hk]; have := psz_kids (.row l); omega, by
      rw [cat_kids (l := l) hk (fun y hy => by
        obtain ⟨i, hi, e⟩ := List.getElem_of_mem hy
        exact ⟨(hw2 i y (by rw [List.getElem?_eq_getElem hi, e])).1, (wfs_iff l).1 hw3 y hy⟩), te_row hw1]⟩)
    clear hl ho hN he hw1 hw2 hw3 hsz nd M2
    go_enter Tryz.func27, Tryz.ntmps27
    go_upto_region 13 with fail
    generalize ((W.alloc nodeZ).alloc (.cells #[.slice q l.length c] 127)) = W2 at B2 Z2 HM2 ND ⊢
    have c0 := cell_row HM2.out (i := 0) rfl
    have lm := lt_of_heap HM2.out
    go_upto_region 17 with first
      | (go_at_call 56; (with_reducible refine (ND.out).mono ?_); rintro e w5 ⟨g5, ks, rfl, h51, h52, h53, h54, h55, h56⟩; have R5 := hide h51; have E5 := hide h52; have A5 := hide h53; have G5 := hide h54; have B5 := hide h55; have LN5 := hide h56; have CT := hide (cat_c (R5.out.arg (Nat.le_refl ks.length) (by unfold maxLen; have := len_szs ks; have := (HX.out ks E5.out).1; omega)) (fun u hu => (A5.out u hu).1) (HX.out ks E5.out).1); clear h51 h52 h53 h54 h55 h56)
      | (go_at_call 38; (with_reducible refine (CT.out).mono ?_); rintro e w6 ⟨t6, rfl, h61, h62, h63, h64⟩; have Z6 : w6.heap[W.heap.size]? = some nodeZ := (h64.block _ (Nat.lt_of_lt_of_le (lt_of_heap Z2.out) B5.out.size)).trans ((B5.out.block _ (lt_of_heap Z2.out)).trans Z2.out); have lz := lt_of_heap Z2.out; have s5 := B5.out.size; have s2 := B2.out.size; have r0 := cell_row Z6 (i := 0) rfl; have r1 := cell_row Z6 (i := 1) rfl; have r2 := cell_row Z6 (i := 2) rfl; have r3 := cell_row Z6 (i := 3) rfl; have r4 := cell_row Z6 (i := 4) rfl; have r5 := cell_row Z6 (i := 5) rfl; have fz := fun z => frz_row Z6 z; have FKT := hide ((foot_fk h62).mono (M := fun k => W.heap.size < k) (fun k hk => by omega)); have L9 := hide (laid9 (bz := W.heap.size) (f := bare 0) h61 FKT.out ⟨_, Z6⟩ ⟨r0, r1, r2, r3, r4, r5⟩); unfold put6 at L9; have P6 := hide h62; have E6 := hide h63; have BW6 := hide (chain (chain B2.out B5.out (Nat.le_refl _)) h64 (Nat.le_refl _)); clear h61 h62 h63 h64)
    have RES : Hid (∀ W9, TA W9 t6 → Below W.heap.size W W9 → NodeIs base W (.row l) (.returned (.agg #[.int .i64 t6.f.k, .int .i64 t6.f.n, .int .i64 t6.f.mn, .int .i64 t6.f.mx, .slice t6.f.rq t6.f.rs.length t6.f.rc, .slice t6.f.kq t6.f.kl t6.f.kc])) W9) := fun W9 h1 h2 => ⟨t6, rfl, h1, by rw [E6.out, (HX.out ks E5.out).2], h2, FKT.out.mono (fun k hk => by omega), (foot_fr P6.out).mono (fun k hk => by omega)⟩
    have L10 : Hid (Six ((((((w6.setCell ⟨W.heap.size, 0, none⟩ (.int .i64 t6.f.k)).setCell ⟨W.heap.size, 1, none⟩ (.int .i64 t6.f.n)).setCell ⟨W.heap.size, 2, none⟩ (.int .i64 t6.f.mn)).setCell ⟨W.heap.size, 3, none⟩ (.int .i64 t6.f.mx)).setCell ⟨W.heap.size, 4, none⟩ (.slice t6.f.rq t6.f.rs.length t6.f.rc)).setCell ⟨W.heap.size, 5, none⟩ (.slice t6.f.kq t6.f.kl t6.f.kc)) W.heap.size 0 t6.f ∧ TA ((((((w6.setCell ⟨W.heap.size, 0, none⟩ (.int .i64 t6.f.k)).setCell ⟨W.heap.size, 1, none⟩ (.int .i64 t6.f.n)).setCell ⟨W.heap.size, 2, none⟩ (.int .i64 t6.f.mn)).setCell ⟨W.heap.size, 3, none⟩ (.int .i64 t6.f.mx)).setCell ⟨W.heap.size, 4, none⟩ (.slice t6.f.rq t6.f.rs.length t6.f.rc)).setCell ⟨W.heap.size, 5, none⟩ (.slice t6.f.kq t6.f.kl t6.f.kc)) t6 ∧ Fr (fun z => z = W.heap.size) w6 ((((((w6.setCell ⟨W.heap.size, 0, none⟩ (.int .i64 t6.f.k)).setCell ⟨W.heap.size, 1, none⟩ (.int .i64 t6.f.n)).setCell ⟨W.heap.size, 2, none⟩ (.int .i64 t6.f.mn)).setCell ⟨W.heap.size, 3, none⟩ (.int .i64 t6.f.mx)).setCell ⟨W.heap.size, 4, none⟩ (.slice t6.f.rq t6.f.rs.length t6.f.rc)).setCell ⟨W.heap.size, 5, none⟩ (.slice t6.f.kq t6.f.kl t6.f.kc)) ∧ ∃ cur, ((((((w6.setCell ⟨W.heap.size, 0, none⟩ (.int .i64 t6.f.k)).setCell ⟨W.heap.size, 1, none⟩ (.int .i64 t6.f.n)).setCell ⟨W.heap.size, 2, none⟩ (.int .i64 t6.f.mn)).setCell ⟨W.heap.size, 3, none⟩ (.int .i64 t6.f.mx)).setCell ⟨W.heap.size, 4, none⟩ (.slice t6.f.rq t6.f.rs.length t6.f.rc)).setCell ⟨W.heap.size, 5, none⟩ (.slice t6.f.kq t6.f.kl t6.f.kc)).heap[W.heap.size]? = some (.cells cur 28 (0, 0))) := L9.out
    generalize ((((((w6.setCell ⟨W.heap.size, 0, none⟩ (.int .i64 t6.f.k)).setCell ⟨W.heap.size, 1, none⟩ (.int .i64 t6.f.n)).setCell ⟨W.heap.size, 2, none⟩ (.int .i64 t6.f.mn)).setCell ⟨W.heap.size, 3, none⟩ (.int .i64 t6.f.mx)).setCell ⟨W.heap.size, 4, none⟩ (.slice t6.f.rq t6.f.rs.length t6.f.rc)).setCell ⟨W.heap.size, 5, none⟩ (.slice t6.f.kq t6.f.kl t6.f.kc)) = W7 at L10 ⊢
    clear L9 r0 r1 r2 r3 r4 r5 fz
    obtain ⟨k0, k1, k2, k3, k4, k5⟩ := L10.out.1
    simp only [Nat.zero_add] at k1 k2 k3 k4 k5
    obtain ⟨cur7, hc7⟩ := L10.out.2.2.2
    have HC7 := hide hc7
    have fz := fun z => frz_row HC7.out z
    have l7 := lt_of_heap hc7
    have L11 := hide (laid9 (bz := W.heap.size) L10.out.2.1 FKT.out ⟨cur7, HC7.out⟩ L10.out.1)
    unfold put6 at L11
    clear hc7
    go_wp2
    refine ret_node L11.out.1 rfl rfl ?_
    exact RES.out _ L11.out.2.1 (chainF (chainF BW6.out L10.out.2.2.1 (Nat.le_refl _) (fun k e => by omega)) L11.out.2.2.1 (Nat.le_refl _) (fun k e => by omega))
set_option maxRecDepth 100000 in
set_option maxHeartbeats 8000000 in
theorem node_choice {base : Nat} {N : Nat → Prop} {W : World} {l : List Ps} {v : Value} (h : PV base N W (.alt l) v) (hw : wf (.alt l)) (hb : base ≤ W.heap.size) (hsz : (Ps.alt l).sz ≤ 100000)
    (nd : ∀ W v, PV base N W (.alt l) v → base ≤ W.heap.size → Calls Tryz.prog 56 #[v] W (NodesIs base W (.alt l))) : Calls Tryz.prog 27 #[v] W (NodeIs base W (.alt l)) := by
  have HV := hide h
  rw [wf] at hw
  obtain ⟨hw1, hw2, hw3⟩ := hw
  cases h with
  | alt _ vs q c hl ho hN he =>
    have ta0 := ta_choice_leaf (.agg #[.slice q l.length c])
    have ta1 := ta_choice_group (.agg #[.slice q l.length c])
    have ta2 := ta_choice_turns (.agg #[.slice q l.length c])
    have ta3 := ta_choice_row (.agg #[.slice q l.length c])
    have ta4 := ta_choice (.agg #[.slice q l.length c])
    have B2 : Hid (Below W.heap.size W ((W.alloc nodeZ).alloc (.cells #[.slice q l.length c] 117))) := ((Below.refl _ _).alloc (Nat.le_refl _) _).alloc (by simp) _
    have Z2 : Hid (((W.alloc nodeZ).alloc (.cells #[.slice q l.length c] 117)).heap[W.heap.size]? = some nodeZ) := (Below.heap_alloc _ _ _ (by simp)).trans (alloc_new W _)
    have M2 : ((W.alloc nodeZ).alloc (.cells #[.slice q l.length c] 117)).heap[W.heap.size + 1]? = some (.cells #[.slice q l.length c] 117 (0, 0)) := (by
      have := alloc_new (W.alloc nodeZ) (.cells #[.slice q l.length c] 117)
      rwa [World.size_alloc] at this)
    have HM2 := hide M2
    have ND := hide (nd _ _ (HV.out.kept B2.out) (Nat.le_trans hb B2.out.size))
    have HX := hide (show ∀ ks : List Tr, ks.map er = (Ps.alt l).kids.map te → szs ks < 1000000 ∧ joinE 6 ((ks.flatMap altT).map er) (.mk 2 0 0 0 [] []) = te (.alt l) from fun ks hk => ⟨by rw [szs_te hk]; have := psz_kids (.alt l); omega, by
      rw [alt_kids (l := l) hk (fun y hy => ⟨hw2 y hy, (wfs_iff l).1 hw3 y hy⟩), te_alt hw1]⟩)
    clear hl ho hN he hw1 hw2 hw3 hsz nd M2
    go_enter Tryz.func27, Tryz.ntmps27
    go_upto_region 16 with fail
    generalize ((W.alloc nodeZ).alloc (.cells #[.slice q l.length c] 117)) = W2 at B2 Z2 HM2 ND ⊢
    have c0 := cell_row HM2.out (i := 0) rfl
    have lm := lt_of_heap HM2.out
    go_upto_region 17 with first
      | (go_at_call 56; (with_reducible refine (ND.out).mono ?_); rintro e w5 ⟨g5, ks, rfl, h51, h52, h53, h54, h55, h56⟩; have R5 := hide h51; have E5 := hide h52; have A5 := hide h53; have G5 := hide h54; have B5 := hide h55; have LN5 := hide h56; have CT := hide (alt_c (R5.out.arg (Nat.le_refl ks.length) (by unfold maxLen; have := len_szs ks; have := (HX.out ks E5.out).1; omega)) (fun u hu => (A5.out u hu).1) (HX.out ks E5.out).1); clear h51 h52 h53 h54 h55 h56)
      | (go_at_call 15; (with_reducible refine (CT.out).mono ?_); rintro e w6 ⟨t6, rfl, h61, h62, h63, h64⟩; have Z6 : w6.heap[W.heap.size]? = some nodeZ := (h64.block _ (Nat.lt_of_lt_of_le (lt_of_heap Z2.out) B5.out.size)).trans ((B5.out.block _ (lt_of_heap Z2.out)).trans Z2.out); have lz := lt_of_heap Z2.out; have s5 := B5.out.size; have s2 := B2.out.size; have r0 := cell_row Z6 (i := 0) rfl; have r1 := cell_row Z6 (i := 1) rfl; have r2 := cell_row Z6 (i := 2) rfl; have r3 := cell_row Z6 (i := 3) rfl; have r4 := cell_row Z6 (i := 4) rfl; have r5 := cell_row Z6 (i := 5) rfl; have fz := fun z => frz_row Z6 z; have FKT := hide ((foot_fk h62).mono (M := fun k => W.heap.size < k) (fun k hk => by omega)); have L9 := hide (laid9 (bz := W.heap.size) (f := bare 0) h61 FKT.out ⟨_, Z6⟩ ⟨r0, r1, r2, r3, r4, r5⟩); unfold put6 at L9; have P6 := hide h62; have E6 := hide h63; have BW6 := hide (chain (chain B2.out B5.out (Nat.le_refl _)) h64 (Nat.le_refl _)); clear h61 h62 h63 h64)
    have RES : Hid (∀ W9, TA W9 t6 → Below W.heap.size W W9 → NodeIs base W (.alt l) (.returned (.agg #[.int .i64 t6.f.k, .int .i64 t6.f.n, .int .i64 t6.f.mn, .int .i64 t6.f.mx, .slice t6.f.rq t6.f.rs.length t6.f.rc, .slice t6.f.kq t6.f.kl t6.f.kc])) W9) := fun W9 h1 h2 => ⟨t6, rfl, h1, by rw [E6.out, (HX.out ks E5.out).2], h2, FKT.out.mono (fun k hk => by omega), (foot_fr P6.out).mono (fun k hk => by omega)⟩
    have L10 : Hid (Six ((((((w6.setCell ⟨W.heap.size, 0, none⟩ (.int .i64 t6.f.k)).setCell ⟨W.heap.size, 1, none⟩ (.int .i64 t6.f.n)).setCell ⟨W.heap.size, 2, none⟩ (.int .i64 t6.f.mn)).setCell ⟨W.heap.size, 3, none⟩ (.int .i64 t6.f.mx)).setCell ⟨W.heap.size, 4, none⟩ (.slice t6.f.rq t6.f.rs.length t6.f.rc)).setCell ⟨W.heap.size, 5, none⟩ (.slice t6.f.kq t6.f.kl t6.f.kc)) W.heap.size 0 t6.f ∧ TA ((((((w6.setCell ⟨W.heap.size, 0, none⟩ (.int .i64 t6.f.k)).setCell ⟨W.heap.size, 1, none⟩ (.int .i64 t6.f.n)).setCell ⟨W.heap.size, 2, none⟩ (.int .i64 t6.f.mn)).setCell ⟨W.heap.size, 3, none⟩ (.int .i64 t6.f.mx)).setCell ⟨W.heap.size, 4, none⟩ (.slice t6.f.rq t6.f.rs.length t6.f.rc)).setCell ⟨W.heap.size, 5, none⟩ (.slice t6.f.kq t6.f.kl t6.f.kc)) t6 ∧ Fr (fun z => z = W.heap.size) w6 ((((((w6.setCell ⟨W.heap.size, 0, none⟩ (.int .i64 t6.f.k)).setCell ⟨W.heap.size, 1, none⟩ (.int .i64 t6.f.n)).setCell ⟨W.heap.size, 2, none⟩ (.int .i64 t6.f.mn)).setCell ⟨W.heap.size, 3, none⟩ (.int .i64 t6.f.mx)).setCell ⟨W.heap.size, 4, none⟩ (.slice t6.f.rq t6.f.rs.length t6.f.rc)).setCell ⟨W.heap.size, 5, none⟩ (.slice t6.f.kq t6.f.kl t6.f.kc)) ∧ ∃ cur, ((((((w6.setCell ⟨W.heap.size, 0, none⟩ (.int .i64 t6.f.k)).setCell ⟨W.heap.size, 1, none⟩ (.int .i64 t6.f.n)).setCell ⟨W.heap.size, 2, none⟩ (.int .i64 t6.f.mn)).setCell ⟨W.heap.size, 3, none⟩ (.int .i64 t6.f.mx)).setCell ⟨W.heap.size, 4, none⟩ (.slice t6.f.rq t6.f.rs.length t6.f.rc)).setCell ⟨W.heap.size, 5, none⟩ (.slice t6.f.kq t6.f.kl t6.f.kc)).heap[W.heap.size]? = some (.cells cur 28 (0, 0))) := L9.out
    generalize ((((((w6.setCell ⟨W.heap.size, 0, none⟩ (.int .i64 t6.f.k)).setCell ⟨W.heap.size, 1, none⟩ (.int .i64 t6.f.n)).setCell ⟨W.heap.size, 2, none⟩ (.int .i64 t6.f.mn)).setCell ⟨W.heap.size, 3, none⟩ (.int .i64 t6.f.mx)).setCell ⟨W.heap.size, 4, none⟩ (.slice t6.f.rq t6.f.rs.length t6.f.rc)).setCell ⟨W.heap.size, 5, none⟩ (.slice t6.f.kq t6.f.kl t6.f.kc)) = W7 at L10 ⊢
    clear L9 r0 r1 r2 r3 r4 r5 fz
    obtain ⟨k0, k1, k2, k3, k4, k5⟩ := L10.out.1
    simp only [Nat.zero_add] at k1 k2 k3 k4 k5
    obtain ⟨cur7, hc7⟩ := L10.out.2.2.2
    have HC7 := hide hc7
    have fz := fun z => frz_row HC7.out z
    have l7 := lt_of_heap hc7
    have L11 := hide (laid9 (bz := W.heap.size) L10.out.2.1 FKT.out ⟨cur7, HC7.out⟩ L10.out.1)
    unfold put6 at L11
    clear hc7
    go_wp2
    refine ret_node L11.out.1 rfl rfl ?_
    exact RES.out _ L11.out.2.1 (chainF (chainF BW6.out L10.out.2.2.1 (Nat.le_refl _) (fun k e => by omega)) L11.out.2.2.1 (Nat.le_refl _) (fun k e => by omega))
end Go.Proofs.YtpfdapnfkghgkaaGreatDoor
