/-
  one, punct; the class of a name, as far as the examples ask. (mknamed.py writes the names' theorems.)
-/
import Derived.Test.YtloeajhmmjdlgaaGreatDoorC6
namespace Go.Proofs.YtloeajhmmjdlgaaGreatDoor
open Go Go.RowKit

theorem news_lit (W : World) (cs : Array Value) (t : TypeId) : ∀ (j : Nat) (u : Value), cs.toList[j]? = some u → (W.alloc (.cells cs t)).cell? ((⟨W.heap.size, 0, none⟩ : Addr).add j) = some u := by
  intro j u h
  have hadd : (⟨W.heap.size, 0, none⟩ : Addr).add j = ⟨W.heap.size, j, none⟩ := by unfold Addr.add; split <;> simp_all
  rw [hadd]
  exact cell_row (alloc_new W _) (by simpa using h)
set_option maxHeartbeats 1000000 in
theorem one_c (c : Int) (w : World) : Calls Tryz.prog 87 #[.int .i64 c] w fun e w' => e = .returned (.agg #[.int .i64 c, .int .i64 c]) ∧ Below w.heap.size w w' := by
  go_enter Tryz.func87, Tryz.ntmps87
  go_wp2
  exact bodyPost_ret (v := .agg #[.int .i64 c, .int .i64 c]) (by simp [results, Tryz.results87, go_sem]) rfl ⟨rfl, (Below.refl _ _).alloc (Nat.le_refl _) _⟩
def punctL : List (Int × Int) := [(33, 47), (58, 64), (91, 96), (123, 126)]
set_option maxHeartbeats 1000000 in
theorem punct_c (w : World) : Calls Tryz.prog 88 #[] w fun e w' => e = .returned (.slice (some ⟨w.heap.size, 0, none⟩) 4 4) ∧ RR w.heap.size w' (.slice (some ⟨w.heap.size, 0, none⟩) 4 4) [(33, 47), (58, 64), (91, 96), (123, 126)] ∧ Below w.heap.size w w' := by
  go_enter Tryz.func88, Tryz.ntmps88
  go_wp2
  go_ret
  exact ⟨rfl, World.ownsRow_lit w #[.int .i64 33, .int .i64 47, .int .i64 58, .int .i64 64, .int .i64 91, .int .i64 96, .int .i64 123, .int .i64 126] 4 (Nat.le_refl _) (by unfold maxLen; omega) rfl, (Below.refl _ _).alloc (Nat.le_refl _) _⟩
theorem in_nil_iff (c : Int) : In [] c ↔ False := ⟨fun h => in_nil c h, False.elim⟩
theorem lit_fit {D : List (Int × Int)} (h : ∀ r ∈ D, (-9223372036854775808 ≤ r.1 ∧ r.1 ≤ 9223372036854775807) ∧ (-9223372036854775808 ≤ r.2 ∧ r.2 ≤ 9223372036854775807)) : Fit D := h
theorem lit_is {D : List (Int × Int)} (h1 : ∀ r ∈ D, r.1 ≤ r.2) (h2 : D.Pairwise (fun a b => a.2 + 1 < b.1)) (h3 : ∀ r ∈ D, (-9223372036854775808 ≤ r.1 ∧ r.1 ≤ 9223372036854775807) ∧ (-9223372036854775808 ≤ r.2 ∧ r.2 ≤ 9223372036854775807)) : IsC D (In D) := ⟨⟨h1, h2⟩, h3, fun _ => Iff.rfl⟩
/-- A name's class came out. -/
def NamedIs (w : World) (D : List (Int × Int)) (e : Ending) (w' : World) : Prop := ∃ v, e = .returned (.tuple #[v, .bool true]) ∧ RR w.heap.size w' v D ∧ Below w.heap.size w w'
set_option maxRecDepth 100000 in
set_option maxHeartbeats 2000000 in
theorem named_blank (w : World) : Calls Tryz.prog 79 #[.string ⟨#[98, 108, 97, 110, 107]⟩] w (NamedIs w [(9, 9), (32, 32)]) := by
  obtain ⟨t0, ti, hz0, hz1, hz2⟩ := info_parts size_range
  have n0 : ((⟨#[98, 108, 97, 110, 107]⟩ : ByteArray) == (⟨#[112, 114, 105, 110, 116]⟩ : ByteArray)) = false := by decide
  have n1 : ((⟨#[98, 108, 97, 110, 107]⟩ : ByteArray) == (⟨#[103, 114, 97, 112, 104]⟩ : ByteArray)) = false := by decide
  have n2 : ((⟨#[98, 108, 97, 110, 107]⟩ : ByteArray) == (⟨#[97, 108, 110, 117, 109]⟩ : ByteArray)) = false := by decide
  have n3 : ((⟨#[98, 108, 97, 110, 107]⟩ : ByteArray) == (⟨#[97, 108, 112, 104, 97]⟩ : ByteArray)) = false := by decide
  have n4 : ((⟨#[98, 108, 97, 110, 107]⟩ : ByteArray) == (⟨#[108, 111, 119, 101, 114]⟩ : ByteArray)) = false := by decide
  have n5 : ((⟨#[98, 108, 97, 110, 107]⟩ : ByteArray) == (⟨#[120, 100, 105, 103, 105, 116]⟩ : ByteArray)) = false := by decide
  have n6 : ((⟨#[98, 108, 97, 110, 107]⟩ : ByteArray) == (⟨#[100, 105, 103, 105, 116]⟩ : ByteArray)) = false := by decide
  have n7 : ((⟨#[98, 108, 97, 110, 107]⟩ : ByteArray) == (⟨#[115, 112, 97, 99, 101]⟩ : ByteArray)) = false := by decide
  have n8 : ((⟨#[98, 108, 97, 110, 107]⟩ : ByteArray) == (⟨#[98, 108, 97, 110, 107]⟩ : ByteArray)) = true := by decide
  have n9 : ((⟨#[98, 108, 97, 110, 107]⟩ : ByteArray) == (⟨#[99, 110, 116, 114, 108]⟩ : ByteArray)) = false := by decide
  have n10 : ((⟨#[98, 108, 97, 110, 107]⟩ : ByteArray) == (⟨#[112, 117, 110, 99, 116]⟩ : ByteArray)) = false := by decide
  have n11 : ((⟨#[98, 108, 97, 110, 107]⟩ : ByteArray) == (⟨#[117, 112, 112, 101, 114]⟩ : ByteArray)) = false := by decide
  go_enter Tryz.func79, Tryz.ntmps79
  go_wp2_with first
    | (go_at_call 60; have hx := X3.out; clear hx; refine (classOf_c X3.out.1.arg (lit_fit (by decide)) (by simp)).mono ?_; rintro e wz ⟨vz, Cz, rfl, h1, h2, h3, h4⟩; have XZ : Hid (RR w3.heap.size wz vz Cz ∧ IsC Cz (In [(9, 9), (32, 32)]) ∧ Below w3.heap.size w3 wz) := ⟨h1, h2, h4⟩; clear h1 h2 h3 h4)
    | (at_builtin; have hx := X2.out; clear hx; refine wpList_append_own_at _ rfl _ _ 35 rfl w.heap.size 39 t0 (.agg #[.int .i64 0, .int .i64 0]) 2 16 und_ranges ti hz0 hz1 hz2 rfl (by decide) (.slice none 0 0) 0 (cellsR []) rfl (World.ownsRow.alloc X2.out.1 (.cells #[.int .i64 9, .int .i64 9, .int .i64 32, .int .i64 32] 39)) ⟨w2.heap.size, 0, none⟩ 2 2 [.int .i64 9, .int .i64 9, .int .i64 32, .int .i64 32] rfl rfl (news_lit _ #[.int .i64 9, .int .i64 9, .int .i64 32, .int .i64 32] _) (by simp [Value.oneCell']) (by unfold maxLen; omega) (by omega) (by simp; omega) ?_; intro v' w3 hown' hgrow _ hblk; obtain ⟨g3, c3, rfl⟩ := ownsRow_some hown' (Nat.succ_pos _); have X3 : Hid (RR w.heap.size w3 (.slice (some ⟨g3, 0, none⟩) 2 c3) [(9, 9), (32, 32)] ∧ Below w.heap.size w w3) := ⟨hown', below_grown (Below.alloc X2.out.2 z2 _) (World.ownsRow.alloc X2.out.1 _) hgrow⟩; have z3 : w.heap.size ≤ w3.heap.size := X3.out.2.size; clear hown' hgrow hblk)
    | (go_at_call 87; have hx := X1.out; clear hx; refine (one_c 32 _).mono ?_; rintro e w2 ⟨rfl, h1⟩; have X2 : Hid (RR w.heap.size w2 (.slice none 0 0) [] ∧ Below w.heap.size w w2) := ⟨RR.kept X1.out.1 h1, chain X1.out.2 h1 (Nat.le_refl _)⟩; have z2 : w.heap.size ≤ w2.heap.size := X2.out.2.size; clear h1)
    | (go_at_call 87; refine (one_c 9 _).mono ?_; rintro e w1 ⟨rfl, h1⟩; have X1 : Hid (RR w.heap.size w1 (.slice none 0 0) [] ∧ Below w.heap.size w w1) := ⟨RR.kept (RR.nil _ _) h1, chain (Below.refl _ _) h1 (Nat.le_refl _)⟩; have z1 : w.heap.size ≤ w1.heap.size := X1.out.2.size; clear h1)
  go_ret2
  have e : Cz = [(9, 9), (32, 32)] := XZ.out.2.1.one (lit_is (by decide) (by decide) (by decide)) fun c => by (try simp only [in_cons, in_nil_iff, or_false]); (try omega)
  exact ⟨_, rfl, by rw [← e]; exact XZ.out.1.mono X3.out.2.size, chain X3.out.2 XZ.out.2.2 (Nat.le_refl _)⟩
end Go.Proofs.YtloeajhmmjdlgaaGreatDoor
