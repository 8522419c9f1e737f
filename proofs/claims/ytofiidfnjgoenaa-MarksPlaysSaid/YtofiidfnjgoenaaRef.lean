/-
  The document's own answer, as it lies in memory: a room, and the numbers in a list that may grow. Has, Put, Same.
-/
import Derived.Test.YtofiidfnjgoenaaSameM
import Derived.Maps.AppendAt
namespace Go.Proofs.Ytofiidfnjgoenaa
open Go Go.RowKit
attribute [local go_sem] ext_cell

/-- The document's set: its struct in block rb, its list the value v. -/
structure RAt (w : World) (rb room : Nat) (v : Value) (L : List Int) : Prop where
  hb : w.heap[rb]? = some (.cells #[.int .i64 room, v] 43 (0, 0))
  ho : OwnI w 0 v L
  hr : room ≤ 100000
  hl : L.length ≤ 100000
theorem RAt.ltb {w : World} {rb room : Nat} {v : Value} {L : List Int} (h : RAt w rb room v L) : rb < w.heap.size := lt_of_heap h.hb
theorem RAt.cell0 {w : World} {rb room : Nat} {v : Value} {L : List Int} (h : RAt w rb room v L) : w.cell? ⟨rb, 0, none⟩ = some (.int .i64 room) := by simp [World.cell?, h.hb]
theorem RAt.cell1 {w : World} {rb room : Nat} {v : Value} {L : List Int} (h : RAt w rb room v L) : w.cell? ⟨rb, 1, none⟩ = some v := by simp [World.cell?, h.hb]
theorem RAt.frz {w : World} {rb room : Nat} {v : Value} {L : List Int} (h : RAt w rb room v L) (j : Nat) : w.frozen? ⟨rb, j, none⟩ = false := by simp [World.frozen?, h.hb]
theorem OwnI.fr {S : Nat → Prop} {W W' : World} {base : Nat} {v : Value} {l : List Int} (h : OwnI W base v l) (hf : Fr S W W') (hs : ∀ k, v.ownBlock = some k → ¬ S k) : OwnI W' base v l := by
  refine ⟨h.1, ?_⟩
  rcases h.2 with h0 | ⟨g, cap, cur, rfl, h2, h3, h4⟩
  · exact .inl h0
  · exact .inr ⟨g, cap, cur, rfl, h2, (hf.block g (lt_of_heap h3) (hs g rfl)).trans h3, h4⟩
theorem RAt.fr {S : Nat → Prop} {W W' : World} {rb room : Nat} {v : Value} {L : List Int} (h : RAt W rb room v L) (hf : Fr S W W') (h1 : ¬ S rb) (hs : ∀ k, v.ownBlock = some k → ¬ S k) : RAt W' rb room v L :=
  ⟨(hf.block rb h.ltb h1).trans h.hb, h.ho.fr hf hs, h.hr, h.hl⟩
theorem RAt.kept {W W' : World} {rb room : Nat} {v : Value} {L : List Int} (h : RAt W rb room v L) (hb : Below W.heap.size W W') : RAt W' rb room v L :=
  h.fr (S := fun _ => False) (Fr.of_below hb) (fun q => q) (fun _ _ q => q)

theorem OwnI.not_at {W : World} {base B : Nat} {v : Value} {l : List Int} {cs : Array Value} {t : TypeId} {fr : Nat × Nat} (h : OwnI W base v l) (hB : W.heap[B]? = some (.cells cs t fr)) (ht : t ≠ 3) : v.ownBlock ≠ some B := by
  rcases h.2 with ⟨rfl, _⟩ | ⟨g, cap, cur, rfl, hb, hg, _⟩
  · simp [Value.ownBlock]
  · intro e
    simp [Value.ownBlock] at e
    subst e
    rw [hB] at hg
    injection hg with hg
    injection hg with _ h2 _
    exact ht h2

set_option maxRecDepth 100000 in
set_option maxHeartbeats 1000000 in
theorem rhas_c {w : World} {rb room : Nat} {v : Value} {L : List Int} (h : RAt w rb room v L) (n : Int) :
    Calls Try.prog 33 #[.pointer (some ⟨rb, 0, none⟩), .int .i64 n] w fun e w' => e = .returned (.bool (decide (n ∈ L))) ∧ w' = w := by
  have H : Hid (RAt w rb room v L) := h
  have c1 := h.cell1
  have hll := h.hl
  obtain ⟨q, cap, rfl⟩ := h.ho.slice
  clear h
  go_enter Try.func33, Try.ntmps33
  go_wp2
  go_loopw [5] (fun i wr => ∃ k : Nat, k ≤ L.length ∧ i = .int .i64 k ∧ n ∉ L.take k ∧ wr = w) (fun i _ => L.length - (intOf i).toNat)
  case atStart => exact ⟨0, Nat.zero_le _, rfl, by simp, rfl⟩
  case round =>
    obtain ⟨k, hk, rfl, hn, rfl⟩ := hrel
    have HN : Hid (n ∉ L.take k) := hn
    clear hn
    by_cases hlt : k < L.length
    · have HX : Hid (L.take (k + 1) = L.take k ++ [L[k]]) := take_next L k hlt
      have HM : Hid (L[k] ∈ L) := List.getElem_mem hlt
      obtain ⟨g, c, e, _, _, hc⟩ := H.out.ho.cell (List.getElem?_eq_getElem hlt)
      cases e
      generalize L[k] = x at hc HX HM
      have i0 : (0 : Int) ≤ (k : Int) := by omega
      have i1 : (k : Int) < (L.length : Int) := by omega
      by_cases hx : x = n
      · have he : (x == n) = true := by simp [hx]
        have HD : Hid (decide (n ∈ L) = true) := (show decide (n ∈ L) = true from decide_eq_true (by rw [← hx]; exact HM.out))
        clear hx
        go_wp2
        go_ret
        exact ⟨by rw [HD.out]; rfl, rfl⟩
      · have he : (x == n) = false := by simp [hx]
        have HD : Hid (n ∉ L.take (k + 1)) := (show n ∉ L.take (k + 1) from by
          rw [HX.out]
          intro q
          rcases List.mem_append.1 q with q | q
          · exact HN.out q
          · exact hx (List.mem_singleton.1 q).symm)
        clear hx
        go_wp2
        go_roundw
        case rel => exact ⟨k + 1, by omega, by go_num, HD.out, trivial⟩
        case measure => simp [intOf]; omega
    · have i1 : ¬ ((k : Int) < (L.length : Int)) := by omega
      have HD : Hid (decide (n ∈ L) = false) := (show decide (n ∈ L) = false from decide_eq_false (fun q => HN.out (by rwa [List.take_of_length_le (by omega)])))
      go_wp2
      go_ret
      exact ⟨by rw [HD.out]; rfl, rfl⟩

/-- append to a row of the call's own, with the block in which it lies behind it. -/
theorem wpList_append_at {P : Program} {w : World} {ops : Array Oper} {rest : List Oper} {o : Oper} {a : Act} {Q : Exit → Act → World → Prop} (hgd : o.guard = none) (s x : Operand) (t : TypeId)
    (ho : o.op = .call { callee := .builtin .append, args := #[s, x], argTypes := #[t, t] })
    (base : Nat) (e : TypeId) (i : TypeInfo) (z : Value) (size bytes : Nat) (ht : P.underlying t = some (.slice e)) (hi : P.info? e = some i) (hz : i.zero = some z)
    (hsize : i.size = size) (hby : i.bytes = bytes) (hzs : z.cells.size = size) (hsz : 0 < size)
    (v : Value) (n : Nat) (xs : List Value) (hs : a.eval s = v) (hown : w.ownsRow base e size v n xs)
    (ad : Addr) (m c : Nat) (news : List Value) (hx : a.eval x = .slice (some ad) m c) (hl : news.length = m * size) (hnews : ∀ j u, news[j]? = some u → w.cell? (ad.add j) = some u) (h1 : ∀ u ∈ news, u.oneCell' = true)
    (h63 : n + m ≤ maxLen) (hbytes : (n + m) * bytes ≤ 140737488355328) (hbase : base ≤ w.heap.size)
    (h : ∀ v' w', w'.ownsRow base e size v' (n + m) (xs ++ news) → w.grownBy w' v.ownBlock → (v'.ownBlock = v.ownBlock ∨ v'.ownBlock = some w.heap.size) → wpList P ops Q rest (a.put o.dst v') w') : wpList P ops Q (o :: rest) a w := by
  refine wpList_plain hgd fun K hK => ?_
  obtain ⟨v', w', hrun, h2, h3, _, h5⟩ := run_append_own_at (P := P) w base t o.type e i z size bytes ht hi hz hsize hby hzs hsz v n xs hown ad m c news hl hnews h1 h63 hbytes hbase
  unfold Oper.wp
  simp [execOp, ho, resolve, invoke, builtin, hs, hx, hrun, Result.andThen]
  exact hK _ _ (h v' w' h2 h3 h5)

/-- Where a list may lie behind a call: where it lay, or in a new block. -/
def moved (v v' : Value) (n : Nat) : Prop := v'.ownBlock = v.ownBlock ∨ v'.ownBlock = none ∨ ∃ g, n ≤ g ∧ v'.ownBlock = some g

set_option maxRecDepth 100000 in
set_option maxHeartbeats 1000000 in
theorem rput_c {w : World} {rb room : Nat} {v : Value} {L : List Int} (h : RAt w rb room v L) (hin : ∀ x ∈ L, 0 ≤ x ∧ x < room) (hnd : L.Nodup) (n : Int) :
    Calls Try.prog 34 #[.pointer (some ⟨rb, 0, none⟩), .int .i64 n] w fun e w' => ∃ v', e = .returned (.bool (putB room L n)) ∧ RAt w' rb room v' (putL room L n) ∧ moved v v' w.heap.size ∧ Fr (fun k => k = rb ∨ v.ownBlock = some k) w w' := by
  have H : Hid (RAt w rb room v L) := h
  have c0 := h.cell0
  have c1 := h.cell1
  have hll := h.hl
  obtain ⟨q, cap, rfl⟩ := h.ho.slice
  clear h
  by_cases hok : 0 ≤ n ∧ n < room ∧ n ∉ L
  · have HN : Hid (putB room L n = true ∧ putL room L n = L ++ [n]) := ⟨decide_eq_true hok, if_pos hok⟩
    have hd : decide (n ∈ L) = false := decide_eq_false hok.2.2
    obtain ⟨i0, i1, hni⟩ := hok
    have hlr : (L ++ [n]).length ≤ room := by
      have := pig room ((L ++ [n]).map Int.toNat) ?_ ?_
      · simpa using this
      · rw [List.nodup_iff_pairwise_ne, List.pairwise_map]
        have hnd' : (L ++ [n]).Nodup := by
          rw [List.nodup_append]
          exact ⟨hnd, by simp, fun a ha c hc e => hni (by rw [List.mem_singleton.1 hc] at e; rw [← e]; exact ha)⟩
        refine List.Pairwise.imp_of_mem ?_ (List.nodup_iff_pairwise_ne.1 hnd')
        intro a c ha hc hac e
        have q : ∀ y ∈ L ++ [n], 0 ≤ y := fun y hy => by
          rcases List.mem_append.1 hy with hy | hy
          · exact (hin y hy).1
          · rw [List.mem_singleton.1 hy]; exact i0
        have := q a ha
        have := q c hc
        omega
      · intro y hy
        obtain ⟨z, hz, rfl⟩ := List.mem_map.1 hy
        rcases List.mem_append.1 hz with hz | hz
        · have := hin z hz; omega
        · rw [List.mem_singleton.1 hz]; omega
    have hrm := H.out.hr
    have HL : Hid ((L ++ [n]).length ≤ 100000) := Nat.le_trans hlr hrm
    simp at hlr
    obtain ⟨t0, hi, hz0, hz1, hz2⟩ := info_parts size_int
    have fz := H.out.frz 1
    have lb := H.out.ltb
    clear hin hnd hni
    go_enter Try.func34, Try.ntmps34
    go_wp2_with first | (go_at_call 33; (with_reducible refine (rhas_c H.out n).mono ?_); rw [hd]; rintro e w5 ⟨rfl, h5⟩; subst w5) | (at_builtin; refine wpList_append_at rfl _ _ 41 rfl 0 3 t0 (.int .i64 0) 1 8 und_ints hi hz0 hz1 hz2 rfl (by decide) _ _ _ rfl (World.ownsRow.alloc H.out.ho (.cells #[.int .i64 n] 3)) ⟨w.heap.size, 0, none⟩ 1 1 [.int .i64 n] rfl rfl (cell_one_new _ _ _) (by simp [Value.oneCell']) (by unfold maxLen; omega) (by omega) (Nat.zero_le _) ?_; intro v' w6 hown' hgrow hblk; obtain ⟨g6, cap6, rfl⟩ := ownsRow_succ hown'; have hrb : w6.heap[rb]? = some (.cells #[.int .i64 room, .slice q L.length cap] 43 (0, 0)) := (hgrow.block rb (by simp; omega) (Ne.symm (H.out.ho.not_at H.out.hb (by decide)))).trans ((Below.heap_alloc _ _ _ lb).trans H.out.hb); have HRB : Hid (w6.heap[rb]? = some (.cells #[.int .i64 room, .slice q L.length cap] 43 (0, 0))) := hrb; have HF : Hid (Fr (fun k => k = rb ∨ (Value.slice q L.length cap).ownBlock = some k) w w6) := ((Fr.refl _ w).alloc _).grown hgrow (fun k hk => .inr hk); have HO : Hid (OwnI w6 0 (.slice (some ⟨g6, 0, none⟩) (L.length + 1) cap6) (L ++ [n])) := (show _ from by unfold OwnI; rw [List.length_append, ints_append]; exact hown'); have HB : Hid (moved (.slice q L.length cap) (.slice (some ⟨g6, 0, none⟩) (L.length + 1) cap6) w.heap.size) := (hblk.elim .inl (fun e => .inr (.inr ⟨_, by simp, e⟩))); have c6 : w6.cell? ⟨rb, 1, none⟩ = some (.slice q L.length cap) := (by simp [World.cell?, hrb]); have f6 : w6.frozen? ⟨rb, 1, none⟩ = false := (by simp [World.frozen?, hrb]); clear hown' hgrow hblk hrb)
    go_ret
    refine ⟨_, by rw [HN.out.1]; rfl, ?_, HB.out, HF.out.setCell (.inl rfl) _⟩
    rw [HN.out.2]
    refine ⟨?_, ?_, H.out.hr, HL.out⟩
    · rw [heap_set_in HRB.out]; simp
    · exact ownsRow_setCell_other HO.out (HO.out.not_at HRB.out (by decide)) _
  · have HN : Hid (putB room L n = false ∧ putL room L n = L) := ⟨decide_eq_false hok, if_neg hok⟩
    have hcase : (n < 0) ∨ (0 ≤ n ∧ (room : Int) ≤ n) ∨ (0 ≤ n ∧ n < room ∧ decide (n ∈ L) = true) := by
      by_cases h0 : n < 0
      · exact .inl h0
      · by_cases h1 : n < room
        · exact .inr (.inr ⟨by omega, h1, decide_eq_true (Classical.byContradiction fun q => hok ⟨by omega, h1, q⟩)⟩)
        · exact .inr (.inl ⟨by omega, by omega⟩)
    clear hok
    rcases hcase with h0 | ⟨h0, h1⟩ | ⟨h0, h1, h2⟩
    all_goals
      go_enter Try.func34, Try.ntmps34
      go_wp2_with (go_at_call 33; (with_reducible refine (rhas_c H.out n).mono ?_); rintro e w5 ⟨rfl, h5⟩; subst w5)
    all_goals go_ret
    all_goals exact ⟨_, by rw [HN.out.1]; rfl, by rw [HN.out.2]; exact H.out, .inl rfl, Fr.refl _ _⟩
end Go.Proofs.Ytofiidfnjgoenaa
