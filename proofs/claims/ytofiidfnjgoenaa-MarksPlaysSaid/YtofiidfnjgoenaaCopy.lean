/-
  What Copy answers: another set, in blocks of its own.
-/
import Derived.Test.YtofiidfnjgoenaaOwn
namespace Go.Proofs.Ytofiidfnjgoenaa
open Go Go.RowKit
attribute [local go_sem] ext_cell

theorem size_one : (Try.prog.info? 3).map (·.size) = some 1 := by kernel_rfl

/-- copy into a row, as one step of a region that draws its order. -/
theorem step_copy_row {P : Program} {ops : Array Oper} {o : Oper} {a : Act} {w : World} {K : Act → World → Prop} {Q : Exit → Act → World → Prop} {E : Prop} (hgd : o.guard = none) (d s : Operand) (dT sT : TypeId)
    (ho : o.op = .call { callee := .builtin .copy, args := #[d, s], argTypes := #[dT, sT] }) (elem : TypeId) (hu : P.underlying dT = some (.slice elem)) (hsz : (P.info? elem).map (·.size) = some 1)
    (g dLen dCap : Nat) (ad : Addr) (sLen sCap : Nat) (hd : a.eval d = .slice (some ⟨g, 0, none⟩) dLen dCap) (hs : a.eval s = .slice (some ad) sLen sCap)
    (cur : Array Value) (t : TypeId) (hg : w.heap[g]? = some (.cells cur t (0, 0))) (cs : List Value) (hn : cs.length = Nat.min sLen dLen)
    (hsrc : ∀ j v, cs[j]? = some v → w.cell? (ad.add j) = some v) (hfit : cs.length ≤ cur.size) (h1 : ∀ v ∈ cs, v.oneCell' = true)
    (h : ∀ w', Hid (w'.heap[g]? = some (.cells (cs ++ cur.toList.drop cs.length).toArray t (0, 0))) → Hid (Fr (fun k => k = g) w w') → K (a.put o.dst (goInt cs.length)) w') :
    if Region.wanted o (yielded ops a.tmps) = true then Oper.wp P o a w K Q else E := by
  have hw : Region.wanted o (yielded ops a.tmps) = true := by simp [Region.wanted, hgd]
  rw [if_pos hw]
  have hrun := run_copy_row (P := P) w dT sT o.type elem g 0 dLen dCap ad sLen sCap cur t cs hu hsz hg hn hsrc (by omega) h1
  have hrun' : (Builtin.copy_ #[dT, sT] o.type #[.slice (some ⟨g, 0, none⟩) dLen dCap, .slice (some ad) sLen sCap]).run P w = .ok (goInt cs.length) (w.setRow g (cs ++ cur.toList.drop cs.length).toArray) := by simpa using hrun
  have hK := h (w.setRow g (cs ++ cur.toList.drop cs.length).toArray) (setRow_heap _ _ _ _ _ _ hg) (Fr.setRow (S := fun k => k = g) (Fr.refl _ _) rfl _)
  unfold Oper.wp
  simp [execOp, ho, resolve, invoke, builtin, hd, hs, hrun', Result.andThen]
  exact hK

/-- The copy as it is laid first. -/
structure Laid (w : World) (b o p room n : Nat) : Prop where
  hb : w.heap[b]? = some (.cells #[.slice (some ⟨o, 0, none⟩) n room, .slice (some ⟨p, 0, none⟩) room room] 60 (0, 0))
  ho : w.heap[o]? = some (.cells (madeCells #[.int .i64 0] room) 3 (0, 0))
  hp : w.heap[p]? = some (.cells (madeCells #[.int .i64 0] room) 3 (0, 0))
  hne : o ≠ p

set_option maxRecDepth 100000 in
set_option maxHeartbeats 4000000 in
theorem copy_c {w : World} {b o p room : Nat} {L : List Int} (h : MAt w b o p room L) :
    Calls Try.prog 23 #[.pointer (some ⟨b, 0, none⟩)] w fun e w' => ∃ b' o' p', e = .returned (.pointer (some ⟨b', 0, none⟩)) ∧ MAt w' b' o' p' room L ∧ New3 w.heap.size b' o' p' ∧ Below w.heap.size w w' := by
  have H : Hid (MAt w b o p room L) := h
  have hl := h.len
  have hr := h.hr
  have m0 := make_ints room L.length hl (by omega)
  have m1 := make_ints room room (Nat.le_refl _) (by omega)
  clear h
  go_enter Try.func23, Try.ntmps23
  go_upto_region 1 with fail
  go_cut [3] (fun c wx => ∃ b' o' p', c = .pointer (some ⟨b', 0, none⟩) ∧ Laid wx b' o' p' room L.length ∧ New3 w.heap.size b' o' p' ∧ Below w.heap.size w wx)
  case first =>
    go_region_with first | (go_at_call 12; refine (len_c (H.out.kept ((Below.refl _ _).alloc (Nat.le_refl _) _).drew)).mono ?_; rintro e w2 ⟨rfl, h2⟩; subst w2) | (go_at_call 12; refine (len_c (H.out.kept (Below.refl _ _).drew)).mono ?_; rintro e w2 ⟨rfl, h2⟩; subst w2) | (go_at_call 11; refine (room_c (H.out.kept ((Below.refl _ _).alloc (Nat.le_refl _) _).drew)).mono ?_; rintro e w2 ⟨rfl, h2⟩; subst w2) | (go_at_call 11; refine (room_c (H.out.kept (Below.refl _ _).drew)).mono ?_; rintro e w2 ⟨rfl, h2⟩; subst w2)
    all_goals go_wp2_with fail
    all_goals go_meet
    all_goals first
      | (obtain ⟨e1, e2, e3⟩ := heap_three w (.cells (madeCells #[.int .i64 0] room) 3) (.cells (madeCells #[.int .i64 0] room) 3) (.cells #[.slice (some ⟨w.heap.size, 0, none⟩) L.length room, .slice (some ⟨w.heap.size + 1, 0, none⟩) room room] 60); exact ⟨_, _, _, rfl, ⟨e3, e1, e2, by omega⟩, ⟨by omega, by omega, by omega⟩, below_three _ _ _ _⟩)
      | (obtain ⟨e1, e2, e3⟩ := heap_three w (.cells (madeCells #[.int .i64 0] room) 3) (.cells (madeCells #[.int .i64 0] room) 3) (.cells #[.slice (some ⟨w.heap.size + 1, 0, none⟩) L.length room, .slice (some ⟨w.heap.size, 0, none⟩) room room] 60); exact ⟨_, _, _, rfl, ⟨e3, e2, e1, by omega⟩, ⟨by omega, by omega, by omega⟩, below_three _ _ _ _⟩)
  case rest =>
    obtain ⟨b', o', p', rfl, hlaid, hnew, hb⟩ := hcut
    have D : Hid (Laid wc b' o' p' room L.length) := hlaid
    have N : Hid (New3 w.heap.size b' o' p') := hnew
    have B : Hid (Below w.heap.size w wc) := hb
    clear hlaid hnew hb m0 m1
    have M : Hid (MAt wc b o p room L) := H.out.kept B.out
    have lb := M.out.ltb
    have lb' := lt_of_heap D.out.hb
    have c0 := M.out.cellb0
    have d0 : wc.cell? ⟨b', 0, none⟩ = some (.slice (some ⟨o', 0, none⟩) L.length room) := by simp [World.cell?, D.out.hb]
    have z1 := N.out.b
    have z2 := N.out.o
    have z3 := N.out.p
    have y1 := H.out.ltb
    have y2 := H.out.lto
    have y3 := H.out.ltp
    have hbo : b' ≠ o' := fun e => by
      have q := D.out.hb
      rw [e, D.out.ho] at q
      injection q with q
      injection q with _ q _
      exact absurd q (by decide)
    have hbp : b' ≠ p' := fun e => by
      have q := D.out.hb
      rw [e, D.out.hp] at q
      injection q with q
      injection q with _ q _
      exact absurd q (by decide)
    have hsrc : Hid (∀ j v, (ints L)[j]? = some v → wc.cell? ((⟨o, 0, none⟩ : Addr).add j) = some v) := fun j v hv => by
      have hj : j < L.length := by have := (List.getElem?_eq_some_iff.1 hv).1; rwa [ints_length] at this
      rw [ints_get (List.getElem?_eq_getElem hj)] at hv
      cases hv
      rw [Addr.add_lit, Nat.zero_add]
      exact M.out.cello (List.getElem?_eq_getElem hj)
    go_wp2
    go_region_law (refine step_copy_row rfl _ _ 41 41 rfl 3 und_ints size_one o' L.length room ⟨o, 0, none⟩ L.length room (by simp [Act.eval]) (by simp [Act.eval]) _ _ D.out.ho (ints L) (by rw [ints_length]; exact (Nat.min_self _).symm) hsrc.out (by rw [size_madeCells, ints_length]; omega) (ints_one L) ?_; intro w3 o3 f3)
    all_goals
      have F3 : Hid (Fr (fun k => k = o') wc w3) := ((Fr.refl _ wc).drew).trans f3.out
      have M3 : Hid (MAt w3 b o p room L) := MAt.fr (S := fun k => k = o') M.out F3.out (by omega) (by omega) (by omega)
      clear f3
      have P3 : Hid (w3.heap[p']? = some (.cells (madeCells #[.int .i64 0] room) 3 (0, 0))) := (F3.out.block _ (lt_of_heap D.out.hp) (Ne.symm D.out.hne)).trans D.out.hp
      have S3 : Hid (w3.heap[b']? = some (.cells #[.slice (some ⟨o', 0, none⟩) L.length room, .slice (some ⟨p', 0, none⟩) room room] 60 (0, 0))) := (F3.out.block _ lb' hbo).trans D.out.hb
      have B3 : Hid (Below w.heap.size w w3) := chainF B.out F3.out (Nat.le_refl _) (fun k hk => by omega)
      obtain ⟨pl, q1, q2, q3⟩ := M3.out.hp
      have HP : Hid (∀ (i : Nat) (x : Int), L[i]? = some x → 0 ≤ x ∧ pl[x.toNat]? = some (i : Int)) := q3
      have hsrc3 : Hid (∀ j v, (ints pl)[j]? = some v → w3.cell? ((⟨p, 0, none⟩ : Addr).add j) = some v) := fun j v hv => by
        rw [Addr.add_lit, Nat.zero_add]
        simp [World.cell?, q1, hv]
      have c1 := M3.out.cellb1
      have d1 : w3.cell? ⟨b', 1, none⟩ = some (.slice (some ⟨p', 0, none⟩) room room) := by simp [World.cell?, S3.out]
      clear hsrc c0 d0 q1 q3
      go_wp2
    all_goals go_region_law (refine step_copy_row rfl _ _ 41 41 rfl 3 und_ints size_one p' room room ⟨p, 0, none⟩ room room (by simp [Act.eval]) (by simp [Act.eval]) _ _ P3.out (ints pl) (by rw [ints_length, q2]; exact (Nat.min_self _).symm) hsrc3.out (by rw [size_madeCells, ints_length]; omega) (ints_one pl) ?_; intro w4 p4 f4)
    all_goals go_wp2
    all_goals go_ret
    all_goals
      have F4 : Hid (Fr (fun k => k = p') w3 w4) := ((Fr.refl _ w3).drew).trans f4.out
      have B4 : Hid (Below w.heap.size w w4) := chainF B3.out F4.out (Nat.le_refl _) (fun k hk => by omega)
      have R4 : Hid (MAt w4 b' o' p' room L) := by
        refine ⟨(F4.out.block _ (lt_of_heap S3.out) hbp).trans S3.out, ⟨_, (F4.out.block _ (lt_of_heap o3.out) D.out.hne).trans o3.out, ?_, ?_⟩, ⟨pl, ?_, q2, HP.out⟩, D.out.hne, hr⟩
        · simp [size_madeCells, ints_length]; omega
        · simp [ints_length]
        · have q := p4.out
          rw [ints_length, List.drop_of_length_le (by simp [size_madeCells]; omega), List.append_nil] at q
          exact q
      first | exact ⟨b', o', p', rfl, R4.out, N.out, B4.out⟩ | exact ⟨b', rfl, o', p', R4.out, N.out, B4.out⟩
end Go.Proofs.Ytofiidfnjgoenaa
