/-
  Parts of the proof.
-/
import Derived.Test.YtbghleihgcenmaaC10
import Derived.Test.YtbghleihgcenmaaC11
set_option linter.unusedSimpArgs false
namespace Go.Proofs.Ytbghleihgcenmaa
open Go Go.RowKit
attribute [local go_sem] Oper.semAt_some
structure LdH (w : World) (rb : Nat) (p : Pg) (s : ByteArray) (A B : Cr4) (st : Int) (C : Cr4) (X : List Int) (a : Nat) (i : Ins) : Prop where
  r : RunB w rb p s A B st
  c : MAt w C.mb C.mo C.mp p.L.length X
  n : p.L.length ≤ 40000
  hi : p.L[a]? = some i
  q : ∃ g o, p.q = some ⟨g, o, none⟩ ∧ g < w.heap.size ∧ ¬ own3 C.mb C.mo C.mp g ∧ w.rangeAt g (o + a * 10) (inC i)
def LdQ (C : Cr4) (n : Nat) (X xs : List Int) (w : World) (e : Ending) (w' : World) : Prop := e = .returned (.tuple #[]) ∧ MAt w' C.mb C.mo C.mp n (putsN n X xs) ∧ Fr (own3 C.mb C.mo C.mp) w w'
section
variable {w : World} {rb : Nat} {p : Pg} {s : ByteArray} {A B : Cr4} {st : Int} {C : Cr4} {X : List Int} {a pl : Nat} {i : Ins}
set_option maxRecDepth 100000 in
set_option maxHeartbeats 4000000 in
theorem lead_2 (H : LdH w rb p s A B st C X a i) (ho : i.op = 2) : Calls Try.prog 29 #[.pointer (some ⟨rb, 0, none⟩), crV C p.L.length, .int .i64 (a : Int), .int .i64 (pl : Int)] w (LdQ C p.L.length X [i.x, i.y] w) := by
  obtain ⟨g, o, hq, hg, hno, hcs⟩ := H.q
  have hal := (List.getElem?_eq_some_iff.1 H.hi).1
  have hn := H.n
  have B1 : Hid (Below w.heap.size w (w.alloc (.cells #[.pointer (some ⟨C.mb, 0, none⟩), .slice (some ⟨C.gb, 0, none⟩) p.L.length p.L.length] 51))) := (Below.refl _ _).alloc (Nat.le_refl _) _
  have X1 : Hid ((w.alloc (.cells #[.pointer (some ⟨C.mb, 0, none⟩), .slice (some ⟨C.gb, 0, none⟩) p.L.length p.L.length] 51)).heap[w.heap.size]? = some (.cells #[.pointer (some ⟨C.mb, 0, none⟩), .slice (some ⟨C.gb, 0, none⟩) p.L.length p.L.length] 51 (0, 0))) := alloc_new w _
  have hlt := hide H.c.ltb
  have hlt2 := hide H.c.lto
  have hlt3 := hide H.c.ltp
  have M1 := hide (H.c.kept B1.out)
  have R1 := hide ((B1.out.block _ (lt_of_heap H.r)).trans H.r)
  have hcs := range_keep hcs (B1.out.block _ hg)
  have HCS := hide hcs
  have HNO := hide hno
  clear H hcs hno
  go_enter Try.func29, Try.ntmps29
  go_upto_region 1 with fail
  generalize (w.alloc (.cells #[.pointer (some ⟨C.mb, 0, none⟩), .slice (some ⟨C.gb, 0, none⟩) p.L.length p.L.length] 51)) = w1 at B1 X1 M1 R1 HCS ⊢
  have no : Hid (¬ own3 C.mb C.mo C.mp w.heap.size) := hide (fun q => by have h1 := hlt.out; have h2 := hlt2.out; have h3 := hlt3.out; rcases q with q | q | q <;> omega)
  have y0 : w1.cell? ⟨rb, 0, none⟩ = some (.slice p.q p.L.length p.c) := cell_row R1.out (i := 0) rfl
  have y1 : w1.cell? ⟨rb, 1, none⟩ = some (.string s) := cell_row R1.out (i := 1) rfl
  rw [hq] at y0
  have c0 : w1.cell? ⟨g, o + a * 10, none⟩ = some (.int .i64 i.op) := HCS.out 0 _ rfl
  have k0 : w1.cell? ⟨w.heap.size, 0, none⟩ = some (.pointer (some ⟨C.mb, 0, none⟩)) := cell_row X1.out (i := 0) rfl
  have i0 : (a : Int) < (p.L.length : Int) := by omega
  have i00 : (0 : Int) ≤ (a : Int) := by omega
  have F1 : Hid (Fr (own3 C.mb C.mo C.mp) w w1) := hide (Fr.of_below B1.out)
  have HC1 := hide HCS.out
  rw [ho] at c0
  go_upto_region 4 with fail
  have Z2 : Hid (w1.drew.cell? ⟨w.heap.size, 0, none⟩ = some (.pointer (some ⟨C.mb, 0, none⟩)) ∧ w1.drew.cell? ⟨g, o + a * 10 + 1, none⟩ = some (.int .i64 i.x)) := hide ⟨cell_row X1.out (i := 0) rfl, HC1.out 1 _ rfl⟩
  have MD2 : Hid (MAt w1.drew C.mb C.mo C.mp p.L.length (X)) := hide (M1.out.same rfl rfl rfl)
  have lx2 := lt_of_heap X1.out
  have lg2 := hide (Nat.lt_of_lt_of_le hg F1.out.size)
  refine wp_region_held_drew (S := fun w' => w'.cell? ⟨w.heap.size, 0, none⟩ = some (.pointer (some ⟨C.mb, 0, none⟩)) ∧ w'.cell? ⟨g, o + a * 10 + 1, none⟩ = some (.int .i64 i.x)) (by kernel_rfl) Z2.out ?_
  intro hS0
  refine wpAnyH_take (i := 0) (oi := _) (v := ?_) rfl (by kernel_rfl) (by kernel_rfl) (by kernel_rfl) (fun _ _ _ h => h) (Or.inl ⟨by rfl, ?_⟩) (by assumption) ?_
  rotate_left
  · intro wz hSw
    obtain ⟨hs0, hs1⟩ := hSw
    go_simp
    try with_reducible rfl
  dsimp only [Act.put, List.getElem_toArray, List.getElem_cons_zero, List.getElem_cons_succ]
  simp only [List.setIfInBounds_toArray, List.set_cons_zero, List.set_cons_succ]
  refine wpAnyH_take (i := 1) (oi := _) (v := ?_) rfl (by kernel_rfl) (by kernel_rfl) (by kernel_rfl) (fun _ _ _ h => h) (Or.inl ⟨by rfl, ?_⟩) (by assumption) ?_
  rotate_left
  · intro wz hSw
    obtain ⟨hs0, hs1⟩ := hSw
    go_simp
    try with_reducible rfl
  dsimp only [Act.put, List.getElem_toArray, List.getElem_cons_zero, List.getElem_cons_succ]
  simp only [List.setIfInBounds_toArray, List.set_cons_zero, List.set_cons_succ]
  refine wpAnyH_take (i := 2) (oi := _) (v := ?_) rfl (by kernel_rfl) (by kernel_rfl) (by kernel_rfl) (fun _ _ _ h => h) (Or.inl ⟨by rfl, ?_⟩) (by assumption) ?_
  rotate_left
  · intro wz hSw
    obtain ⟨hs0, hs1⟩ := hSw
    go_simp
    try with_reducible rfl
  dsimp only [Act.put, List.getElem_toArray, List.getElem_cons_zero, List.getElem_cons_succ]
  simp only [List.setIfInBounds_toArray, List.set_cons_zero, List.set_cons_succ]
  refine wpAnyH_take (i := 3) (oi := _) (v := ?_) rfl (by kernel_rfl) (by kernel_rfl) (by kernel_rfl) (fun _ _ _ h => h) (Or.inl ⟨by rfl, ?_⟩) (by assumption) ?_
  rotate_left
  · intro wz hSw
    obtain ⟨hs0, hs1⟩ := hSw
    go_simp
    try with_reducible rfl
  dsimp only [Act.put, List.getElem_toArray, List.getElem_cons_zero, List.getElem_cons_succ]
  simp only [List.setIfInBounds_toArray, List.set_cons_zero, List.set_cons_succ]
  refine wpAnyH_take (i := 4) (oi := _) (v := ?_) rfl (by kernel_rfl) (by kernel_rfl) (by kernel_rfl) (fun _ _ _ h => h) (Or.inl ⟨by rfl, ?_⟩) (by assumption) ?_
  rotate_left
  · intro wz hSw
    obtain ⟨hs0, hs1⟩ := hSw
    go_simp
    try with_reducible rfl
  dsimp only [Act.put, List.getElem_toArray, List.getElem_cons_zero, List.getElem_cons_succ]
  simp only [List.setIfInBounds_toArray, List.set_cons_zero, List.set_cons_succ]
  refine wpAnyH_take (i := 5) (oi := _) (v := ?_) rfl (by kernel_rfl) (by kernel_rfl) (by kernel_rfl) (fun _ _ _ h => h) (Or.inl ⟨by rfl, ?_⟩) (by assumption) ?_
  rotate_left
  · intro wz hSw
    obtain ⟨hs0, hs1⟩ := hSw
    go_simp
    try with_reducible rfl
  dsimp only [Act.put, List.getElem_toArray, List.getElem_cons_zero, List.getElem_cons_succ]
  simp only [List.setIfInBounds_toArray, List.set_cons_zero, List.set_cons_succ]
  refine wpAnyH_ready (rs := [6]) (by kernel_rfl) (by simp) ?_
  refine AllReadyH.cons rfl (fun K hK => ?_) AllReadyH.nil
  go_simp
  go_at_call 28
  refine (put_c MD2.out _).mono ?_
  rintro e w2 ⟨rfl, h1, h2⟩
  have M2 : Hid (MAt w2 C.mb C.mo C.mp p.L.length (putL p.L.length X i.x)) := hide h1
  have F2 := hide ((F1.out.drew).trans h2)
  have X2 := hide ((h2.block _ (by exact lx2) no.out).trans X1.out)
  have HC2 := hide (range_keep HC1.out (h2.block _ (by exact lg2.out) HNO.out))
  clear h1 h2
  refine hK.out _ _ ⟨cell_row X2.out (i := 0) rfl, HC2.out 1 _ rfl⟩ (fun hS1 => ?_)
  clear hK K hS0 hS1
  refine wpAnyH_done (by kernel_rfl) ?_ _
  clear y0 y1 c0 k0
  go_upto_region 5 with fail
  have Z3 : Hid (w2.drew.cell? ⟨w.heap.size, 0, none⟩ = some (.pointer (some ⟨C.mb, 0, none⟩)) ∧ w2.drew.cell? ⟨g, o + a * 10 + 2, none⟩ = some (.int .i64 i.y)) := hide ⟨cell_row X2.out (i := 0) rfl, HC2.out 2 _ rfl⟩
  have MD3 : Hid (MAt w2.drew C.mb C.mo C.mp p.L.length (putL p.L.length X i.x)) := hide (M2.out.same rfl rfl rfl)
  have lx3 := lt_of_heap X2.out
  have lg3 := hide (Nat.lt_of_lt_of_le hg F2.out.size)
  refine wp_region_held_drew (S := fun w' => w'.cell? ⟨w.heap.size, 0, none⟩ = some (.pointer (some ⟨C.mb, 0, none⟩)) ∧ w'.cell? ⟨g, o + a * 10 + 2, none⟩ = some (.int .i64 i.y)) (by kernel_rfl) Z3.out ?_
  intro hS0
  refine wpAnyH_take (i := 0) (oi := _) (v := ?_) rfl (by kernel_rfl) (by kernel_rfl) (by kernel_rfl) (fun _ _ _ h => h) (Or.inl ⟨by rfl, ?_⟩) (by assumption) ?_
  rotate_left
  · intro wz hSw
    obtain ⟨hs0, hs1⟩ := hSw
    go_simp
    try with_reducible rfl
  dsimp only [Act.put, List.getElem_toArray, List.getElem_cons_zero, List.getElem_cons_succ]
  simp only [List.setIfInBounds_toArray, List.set_cons_zero, List.set_cons_succ]
  refine wpAnyH_take (i := 1) (oi := _) (v := ?_) rfl (by kernel_rfl) (by kernel_rfl) (by kernel_rfl) (fun _ _ _ h => h) (Or.inl ⟨by rfl, ?_⟩) (by assumption) ?_
  rotate_left
  · intro wz hSw
    obtain ⟨hs0, hs1⟩ := hSw
    go_simp
    try with_reducible rfl
  dsimp only [Act.put, List.getElem_toArray, List.getElem_cons_zero, List.getElem_cons_succ]
  simp only [List.setIfInBounds_toArray, List.set_cons_zero, List.set_cons_succ]
  refine wpAnyH_take (i := 2) (oi := _) (v := ?_) rfl (by kernel_rfl) (by kernel_rfl) (by kernel_rfl) (fun _ _ _ h => h) (Or.inl ⟨by rfl, ?_⟩) (by assumption) ?_
  rotate_left
  · intro wz hSw
    obtain ⟨hs0, hs1⟩ := hSw
    go_simp
    try with_reducible rfl
  dsimp only [Act.put, List.getElem_toArray, List.getElem_cons_zero, List.getElem_cons_succ]
  simp only [List.setIfInBounds_toArray, List.set_cons_zero, List.set_cons_succ]
  refine wpAnyH_take (i := 3) (oi := _) (v := ?_) rfl (by kernel_rfl) (by kernel_rfl) (by kernel_rfl) (fun _ _ _ h => h) (Or.inl ⟨by rfl, ?_⟩) (by assumption) ?_
  rotate_left
  · intro wz hSw
    obtain ⟨hs0, hs1⟩ := hSw
    go_simp
    try with_reducible rfl
  dsimp only [Act.put, List.getElem_toArray, List.getElem_cons_zero, List.getElem_cons_succ]
  simp only [List.setIfInBounds_toArray, List.set_cons_zero, List.set_cons_succ]
  refine wpAnyH_take (i := 4) (oi := _) (v := ?_) rfl (by kernel_rfl) (by kernel_rfl) (by kernel_rfl) (fun _ _ _ h => h) (Or.inl ⟨by rfl, ?_⟩) (by assumption) ?_
  rotate_left
  · intro wz hSw
    obtain ⟨hs0, hs1⟩ := hSw
    go_simp
    try with_reducible rfl
  dsimp only [Act.put, List.getElem_toArray, List.getElem_cons_zero, List.getElem_cons_succ]
  simp only [List.setIfInBounds_toArray, List.set_cons_zero, List.set_cons_succ]
  refine wpAnyH_take (i := 5) (oi := _) (v := ?_) rfl (by kernel_rfl) (by kernel_rfl) (by kernel_rfl) (fun _ _ _ h => h) (Or.inl ⟨by rfl, ?_⟩) (by assumption) ?_
  rotate_left
  · intro wz hSw
    obtain ⟨hs0, hs1⟩ := hSw
    go_simp
    try with_reducible rfl
  dsimp only [Act.put, List.getElem_toArray, List.getElem_cons_zero, List.getElem_cons_succ]
  simp only [List.setIfInBounds_toArray, List.set_cons_zero, List.set_cons_succ]
  refine wpAnyH_ready (rs := [6]) (by kernel_rfl) (by simp) ?_
  refine AllReadyH.cons rfl (fun K hK => ?_) AllReadyH.nil
  go_simp
  go_at_call 28
  refine (put_c MD3.out _).mono ?_
  rintro e w3 ⟨rfl, h1, h2⟩
  have M3 : Hid (MAt w3 C.mb C.mo C.mp p.L.length (putL p.L.length (putL p.L.length X i.x) i.y)) := hide h1
  have F3 := hide ((F2.out.drew).trans h2)
  have X3 := hide ((h2.block _ (by exact lx3) no.out).trans X2.out)
  have HC3 := hide (range_keep HC2.out (h2.block _ (by exact lg3.out) HNO.out))
  clear h1 h2
  refine hK.out _ _ ⟨cell_row X3.out (i := 0) rfl, HC3.out 2 _ rfl⟩ (fun hS1 => ?_)
  clear hK K hS0 hS1
  refine wpAnyH_done (by kernel_rfl) ?_ _
  go_wp2
  go_end0
  exact ⟨rfl, M3.out, F3.out⟩
set_option maxRecDepth 100000 in
set_option maxHeartbeats 4000000 in
theorem lead_3 (H : LdH w rb p s A B st C X a i) (ho : i.op = 3) : Calls Try.prog 29 #[.pointer (some ⟨rb, 0, none⟩), crV C p.L.length, .int .i64 (a : Int), .int .i64 (pl : Int)] w (LdQ C p.L.length X [i.x] w) := by
  obtain ⟨g, o, hq, hg, hno, hcs⟩ := H.q
  have hal := (List.getElem?_eq_some_iff.1 H.hi).1
  have hn := H.n
  have B1 : Hid (Below w.heap.size w (w.alloc (.cells #[.pointer (some ⟨C.mb, 0, none⟩), .slice (some ⟨C.gb, 0, none⟩) p.L.length p.L.length] 51))) := (Below.refl _ _).alloc (Nat.le_refl _) _
  have X1 : Hid ((w.alloc (.cells #[.pointer (some ⟨C.mb, 0, none⟩), .slice (some ⟨C.gb, 0, none⟩) p.L.length p.L.length] 51)).heap[w.heap.size]? = some (.cells #[.pointer (some ⟨C.mb, 0, none⟩), .slice (some ⟨C.gb, 0, none⟩) p.L.length p.L.length] 51 (0, 0))) := alloc_new w _
  have hlt := hide H.c.ltb
  have hlt2 := hide H.c.lto
  have hlt3 := hide H.c.ltp
  have M1 := hide (H.c.kept B1.out)
  have R1 := hide ((B1.out.block _ (lt_of_heap H.r)).trans H.r)
  have hcs := range_keep hcs (B1.out.block _ hg)
  have HCS := hide hcs
  have HNO := hide hno
  clear H hcs hno
  go_enter Try.func29, Try.ntmps29
  go_upto_region 1 with fail
  generalize (w.alloc (.cells #[.pointer (some ⟨C.mb, 0, none⟩), .slice (some ⟨C.gb, 0, none⟩) p.L.length p.L.length] 51)) = w1 at B1 X1 M1 R1 HCS ⊢
  have no : Hid (¬ own3 C.mb C.mo C.mp w.heap.size) := hide (fun q => by have h1 := hlt.out; have h2 := hlt2.out; have h3 := hlt3.out; rcases q with q | q | q <;> omega)
  have y0 : w1.cell? ⟨rb, 0, none⟩ = some (.slice p.q p.L.length p.c) := cell_row R1.out (i := 0) rfl
  have y1 : w1.cell? ⟨rb, 1, none⟩ = some (.string s) := cell_row R1.out (i := 1) rfl
  rw [hq] at y0
  have c0 : w1.cell? ⟨g, o + a * 10, none⟩ = some (.int .i64 i.op) := HCS.out 0 _ rfl
  have k0 : w1.cell? ⟨w.heap.size, 0, none⟩ = some (.pointer (some ⟨C.mb, 0, none⟩)) := cell_row X1.out (i := 0) rfl
  have i0 : (a : Int) < (p.L.length : Int) := by omega
  have i00 : (0 : Int) ≤ (a : Int) := by omega
  have F1 : Hid (Fr (own3 C.mb C.mo C.mp) w w1) := hide (Fr.of_below B1.out)
  have HC1 := hide HCS.out
  rw [ho] at c0
  go_upto_region 7 with fail
  have Z2 : Hid (w1.drew.cell? ⟨w.heap.size, 0, none⟩ = some (.pointer (some ⟨C.mb, 0, none⟩)) ∧ w1.drew.cell? ⟨g, o + a * 10 + 1, none⟩ = some (.int .i64 i.x)) := hide ⟨cell_row X1.out (i := 0) rfl, HC1.out 1 _ rfl⟩
  have MD2 : Hid (MAt w1.drew C.mb C.mo C.mp p.L.length (X)) := hide (M1.out.same rfl rfl rfl)
  have lx2 := lt_of_heap X1.out
  have lg2 := hide (Nat.lt_of_lt_of_le hg F1.out.size)
  refine wp_region_held_drew (S := fun w' => w'.cell? ⟨w.heap.size, 0, none⟩ = some (.pointer (some ⟨C.mb, 0, none⟩)) ∧ w'.cell? ⟨g, o + a * 10 + 1, none⟩ = some (.int .i64 i.x)) (by kernel_rfl) Z2.out ?_
  intro hS0
  refine wpAnyH_take (i := 0) (oi := _) (v := ?_) rfl (by kernel_rfl) (by kernel_rfl) (by kernel_rfl) (fun _ _ _ h => h) (Or.inl ⟨by rfl, ?_⟩) (by assumption) ?_
  rotate_left
  · intro wz hSw
    obtain ⟨hs0, hs1⟩ := hSw
    go_simp
    try with_reducible rfl
  dsimp only [Act.put, List.getElem_toArray, List.getElem_cons_zero, List.getElem_cons_succ]
  simp only [List.setIfInBounds_toArray, List.set_cons_zero, List.set_cons_succ]
  refine wpAnyH_take (i := 1) (oi := _) (v := ?_) rfl (by kernel_rfl) (by kernel_rfl) (by kernel_rfl) (fun _ _ _ h => h) (Or.inl ⟨by rfl, ?_⟩) (by assumption) ?_
  rotate_left
  · intro wz hSw
    obtain ⟨hs0, hs1⟩ := hSw
    go_simp
    try with_reducible rfl
  dsimp only [Act.put, List.getElem_toArray, List.getElem_cons_zero, List.getElem_cons_succ]
  simp only [List.setIfInBounds_toArray, List.set_cons_zero, List.set_cons_succ]
  refine wpAnyH_take (i := 2) (oi := _) (v := ?_) rfl (by kernel_rfl) (by kernel_rfl) (by kernel_rfl) (fun _ _ _ h => h) (Or.inl ⟨by rfl, ?_⟩) (by assumption) ?_
  rotate_left
  · intro wz hSw
    obtain ⟨hs0, hs1⟩ := hSw
    go_simp
    try with_reducible rfl
  dsimp only [Act.put, List.getElem_toArray, List.getElem_cons_zero, List.getElem_cons_succ]
  simp only [List.setIfInBounds_toArray, List.set_cons_zero, List.set_cons_succ]
  refine wpAnyH_take (i := 3) (oi := _) (v := ?_) rfl (by kernel_rfl) (by kernel_rfl) (by kernel_rfl) (fun _ _ _ h => h) (Or.inl ⟨by rfl, ?_⟩) (by assumption) ?_
  rotate_left
  · intro wz hSw
    obtain ⟨hs0, hs1⟩ := hSw
    go_simp
    try with_reducible rfl
  dsimp only [Act.put, List.getElem_toArray, List.getElem_cons_zero, List.getElem_cons_succ]
  simp only [List.setIfInBounds_toArray, List.set_cons_zero, List.set_cons_succ]
  refine wpAnyH_take (i := 4) (oi := _) (v := ?_) rfl (by kernel_rfl) (by kernel_rfl) (by kernel_rfl) (fun _ _ _ h => h) (Or.inl ⟨by rfl, ?_⟩) (by assumption) ?_
  rotate_left
  · intro wz hSw
    obtain ⟨hs0, hs1⟩ := hSw
    go_simp
    try with_reducible rfl
  dsimp only [Act.put, List.getElem_toArray, List.getElem_cons_zero, List.getElem_cons_succ]
  simp only [List.setIfInBounds_toArray, List.set_cons_zero, List.set_cons_succ]
  refine wpAnyH_take (i := 5) (oi := _) (v := ?_) rfl (by kernel_rfl) (by kernel_rfl) (by kernel_rfl) (fun _ _ _ h => h) (Or.inl ⟨by rfl, ?_⟩) (by assumption) ?_
  rotate_left
  · intro wz hSw
    obtain ⟨hs0, hs1⟩ := hSw
    go_simp
    try with_reducible rfl
  dsimp only [Act.put, List.getElem_toArray, List.getElem_cons_zero, List.getElem_cons_succ]
  simp only [List.setIfInBounds_toArray, List.set_cons_zero, List.set_cons_succ]
  refine wpAnyH_ready (rs := [6]) (by kernel_rfl) (by simp) ?_
  refine AllReadyH.cons rfl (fun K hK => ?_) AllReadyH.nil
  go_simp
  go_at_call 28
  refine (put_c MD2.out _).mono ?_
  rintro e w2 ⟨rfl, h1, h2⟩
  have M2 : Hid (MAt w2 C.mb C.mo C.mp p.L.length (putL p.L.length X i.x)) := hide h1
  have F2 := hide ((F1.out.drew).trans h2)
  have X2 := hide ((h2.block _ (by exact lx2) no.out).trans X1.out)
  have HC2 := hide (range_keep HC1.out (h2.block _ (by exact lg2.out) HNO.out))
  clear h1 h2
  refine hK.out _ _ ⟨cell_row X2.out (i := 0) rfl, HC2.out 1 _ rfl⟩ (fun hS1 => ?_)
  clear hK K hS0 hS1
  refine wpAnyH_done (by kernel_rfl) ?_ _
  go_wp2
  go_end0
  exact ⟨rfl, M2.out, F2.out⟩
set_option maxRecDepth 100000 in
set_option maxHeartbeats 4000000 in
theorem lead_6 (H : LdH w rb p s A B st C X a i) (ho : i.op = 6) : Calls Try.prog 29 #[.pointer (some ⟨rb, 0, none⟩), crV C p.L.length, .int .i64 (a : Int), .int .i64 (pl : Int)] w (LdQ C p.L.length X [(a : Int) + 1] w) := by
  obtain ⟨g, o, hq, hg, hno, hcs⟩ := H.q
  have hal := (List.getElem?_eq_some_iff.1 H.hi).1
  have hn := H.n
  have B1 : Hid (Below w.heap.size w (w.alloc (.cells #[.pointer (some ⟨C.mb, 0, none⟩), .slice (some ⟨C.gb, 0, none⟩) p.L.length p.L.length] 51))) := (Below.refl _ _).alloc (Nat.le_refl _) _
  have X1 : Hid ((w.alloc (.cells #[.pointer (some ⟨C.mb, 0, none⟩), .slice (some ⟨C.gb, 0, none⟩) p.L.length p.L.length] 51)).heap[w.heap.size]? = some (.cells #[.pointer (some ⟨C.mb, 0, none⟩), .slice (some ⟨C.gb, 0, none⟩) p.L.length p.L.length] 51 (0, 0))) := alloc_new w _
  have hlt := hide H.c.ltb
  have hlt2 := hide H.c.lto
  have hlt3 := hide H.c.ltp
  have M1 := hide (H.c.kept B1.out)
  have R1 := hide ((B1.out.block _ (lt_of_heap H.r)).trans H.r)
  have hcs := range_keep hcs (B1.out.block _ hg)
  have HCS := hide hcs
  have HNO := hide hno
  clear H hcs hno
  go_enter Try.func29, Try.ntmps29
  go_upto_region 1 with fail
  generalize (w.alloc (.cells #[.pointer (some ⟨C.mb, 0, none⟩), .slice (some ⟨C.gb, 0, none⟩) p.L.length p.L.length] 51)) = w1 at B1 X1 M1 R1 HCS ⊢
  have no : Hid (¬ own3 C.mb C.mo C.mp w.heap.size) := hide (fun q => by have h1 := hlt.out; have h2 := hlt2.out; have h3 := hlt3.out; rcases q with q | q | q <;> omega)
  have y0 : w1.cell? ⟨rb, 0, none⟩ = some (.slice p.q p.L.length p.c) := cell_row R1.out (i := 0) rfl
  have y1 : w1.cell? ⟨rb, 1, none⟩ = some (.string s) := cell_row R1.out (i := 1) rfl
  rw [hq] at y0
  have c0 : w1.cell? ⟨g, o + a * 10, none⟩ = some (.int .i64 i.op) := HCS.out 0 _ rfl
  have k0 : w1.cell? ⟨w.heap.size, 0, none⟩ = some (.pointer (some ⟨C.mb, 0, none⟩)) := cell_row X1.out (i := 0) rfl
  have i0 : (a : Int) < (p.L.length : Int) := by omega
  have i00 : (0 : Int) ≤ (a : Int) := by omega
  have F1 : Hid (Fr (own3 C.mb C.mo C.mp) w w1) := hide (Fr.of_below B1.out)
  have HC1 := hide HCS.out
  have hw1 : IntKind.wrap .i64 ((a : Int) + 1) = (a : Int) + 1 := wrap_small _ (by omega) (by omega)
  rw [ho] at c0
  go_wp2_with (go_at_call 28; (with_reducible refine (put_c M1.out _).mono ?_); rintro e w2 ⟨rfl, h1, h2⟩; have M2 := hide h1; have F2 := hide (F1.out.trans h2); clear h1 h2)
  go_end0
  exact ⟨rfl, M2.out, F2.out⟩
set_option maxRecDepth 100000 in
set_option maxHeartbeats 4000000 in
theorem lead_7 (H : LdH w rb p s A B st C X a i) (ho : i.op = 7) : Calls Try.prog 29 #[.pointer (some ⟨rb, 0, none⟩), crV C p.L.length, .int .i64 (a : Int), .int .i64 (pl : Int)] w (LdQ C p.L.length X [(a : Int) + 1] w) := by
  obtain ⟨g, o, hq, hg, hno, hcs⟩ := H.q
  have hal := (List.getElem?_eq_some_iff.1 H.hi).1
  have hn := H.n
  have B1 : Hid (Below w.heap.size w (w.alloc (.cells #[.pointer (some ⟨C.mb, 0, none⟩), .slice (some ⟨C.gb, 0, none⟩) p.L.length p.L.length] 51))) := (Below.refl _ _).alloc (Nat.le_refl _) _
  have X1 : Hid ((w.alloc (.cells #[.pointer (some ⟨C.mb, 0, none⟩), .slice (some ⟨C.gb, 0, none⟩) p.L.length p.L.length] 51)).heap[w.heap.size]? = some (.cells #[.pointer (some ⟨C.mb, 0, none⟩), .slice (some ⟨C.gb, 0, none⟩) p.L.length p.L.length] 51 (0, 0))) := alloc_new w _
  have hlt := hide H.c.ltb
  have hlt2 := hide H.c.lto
  have hlt3 := hide H.c.ltp
  have M1 := hide (H.c.kept B1.out)
  have R1 := hide ((B1.out.block _ (lt_of_heap H.r)).trans H.r)
  have hcs := range_keep hcs (B1.out.block _ hg)
  have HCS := hide hcs
  have HNO := hide hno
  clear H hcs hno
  go_enter Try.func29, Try.ntmps29
  go_upto_region 1 with fail
  generalize (w.alloc (.cells #[.pointer (some ⟨C.mb, 0, none⟩), .slice (some ⟨C.gb, 0, none⟩) p.L.length p.L.length] 51)) = w1 at B1 X1 M1 R1 HCS ⊢
  have no : Hid (¬ own3 C.mb C.mo C.mp w.heap.size) := hide (fun q => by have h1 := hlt.out; have h2 := hlt2.out; have h3 := hlt3.out; rcases q with q | q | q <;> omega)
  have y0 : w1.cell? ⟨rb, 0, none⟩ = some (.slice p.q p.L.length p.c) := cell_row R1.out (i := 0) rfl
  have y1 : w1.cell? ⟨rb, 1, none⟩ = some (.string s) := cell_row R1.out (i := 1) rfl
  rw [hq] at y0
  have c0 : w1.cell? ⟨g, o + a * 10, none⟩ = some (.int .i64 i.op) := HCS.out 0 _ rfl
  have k0 : w1.cell? ⟨w.heap.size, 0, none⟩ = some (.pointer (some ⟨C.mb, 0, none⟩)) := cell_row X1.out (i := 0) rfl
  have i0 : (a : Int) < (p.L.length : Int) := by omega
  have i00 : (0 : Int) ≤ (a : Int) := by omega
  have F1 : Hid (Fr (own3 C.mb C.mo C.mp) w w1) := hide (Fr.of_below B1.out)
  have HC1 := hide HCS.out
  have hw1 : IntKind.wrap .i64 ((a : Int) + 1) = (a : Int) + 1 := wrap_small _ (by omega) (by omega)
  rw [ho] at c0
  go_wp2_with (go_at_call 28; (with_reducible refine (put_c M1.out _).mono ?_); rintro e w2 ⟨rfl, h1, h2⟩; have M2 := hide h1; have F2 := hide (F1.out.trans h2); clear h1 h2)
  go_end0
  exact ⟨rfl, M2.out, F2.out⟩
set_option maxRecDepth 100000 in
set_option maxHeartbeats 4000000 in
theorem lead_4t (H : LdH w rb p s A B st C X a i) (ho : i.op = 4) (h0 : pl = 0) : Calls Try.prog 29 #[.pointer (some ⟨rb, 0, none⟩), crV C p.L.length, .int .i64 (a : Int), .int .i64 (pl : Int)] w (LdQ C p.L.length X [(a : Int) + 1] w) := by
  obtain ⟨g, o, hq, hg, hno, hcs⟩ := H.q
  have hal := (List.getElem?_eq_some_iff.1 H.hi).1
  have hn := H.n
  have B1 : Hid (Below w.heap.size w (w.alloc (.cells #[.pointer (some ⟨C.mb, 0, none⟩), .slice (some ⟨C.gb, 0, none⟩) p.L.length p.L.length] 51))) := (Below.refl _ _).alloc (Nat.le_refl _) _
  have X1 : Hid ((w.alloc (.cells #[.pointer (some ⟨C.mb, 0, none⟩), .slice (some ⟨C.gb, 0, none⟩) p.L.length p.L.length] 51)).heap[w.heap.size]? = some (.cells #[.pointer (some ⟨C.mb, 0, none⟩), .slice (some ⟨C.gb, 0, none⟩) p.L.length p.L.length] 51 (0, 0))) := alloc_new w _
  have hlt := hide H.c.ltb
  have hlt2 := hide H.c.lto
  have hlt3 := hide H.c.ltp
  have M1 := hide (H.c.kept B1.out)
  have R1 := hide ((B1.out.block _ (lt_of_heap H.r)).trans H.r)
  have hcs := range_keep hcs (B1.out.block _ hg)
  have HCS := hide hcs
  have HNO := hide hno
  clear H hcs hno
  go_enter Try.func29, Try.ntmps29
  go_upto_region 1 with fail
  generalize (w.alloc (.cells #[.pointer (some ⟨C.mb, 0, none⟩), .slice (some ⟨C.gb, 0, none⟩) p.L.length p.L.length] 51)) = w1 at B1 X1 M1 R1 HCS ⊢
  have no : Hid (¬ own3 C.mb C.mo C.mp w.heap.size) := hide (fun q => by have h1 := hlt.out; have h2 := hlt2.out; have h3 := hlt3.out; rcases q with q | q | q <;> omega)
  have y0 : w1.cell? ⟨rb, 0, none⟩ = some (.slice p.q p.L.length p.c) := cell_row R1.out (i := 0) rfl
  have y1 : w1.cell? ⟨rb, 1, none⟩ = some (.string s) := cell_row R1.out (i := 1) rfl
  rw [hq] at y0
  have c0 : w1.cell? ⟨g, o + a * 10, none⟩ = some (.int .i64 i.op) := HCS.out 0 _ rfl
  have k0 : w1.cell? ⟨w.heap.size, 0, none⟩ = some (.pointer (some ⟨C.mb, 0, none⟩)) := cell_row X1.out (i := 0) rfl
  have i0 : (a : Int) < (p.L.length : Int) := by omega
  have i00 : (0 : Int) ≤ (a : Int) := by omega
  have F1 : Hid (Fr (own3 C.mb C.mo C.mp) w w1) := hide (Fr.of_below B1.out)
  have HC1 := hide HCS.out
  have hw1 : IntKind.wrap .i64 ((a : Int) + 1) = (a : Int) + 1 := wrap_small _ (by omega) (by omega)
  rw [ho] at c0
  subst h0
  go_wp2_with (go_at_call 28; (with_reducible refine (put_c M1.out _).mono ?_); rintro e w2 ⟨rfl, h1, h2⟩; have M2 := hide h1; have F2 := hide (F1.out.trans h2); clear h1 h2)
  go_end0
  exact ⟨rfl, M2.out, F2.out⟩
set_option maxRecDepth 100000 in
set_option maxHeartbeats 4000000 in
theorem lead_4f (H : LdH w rb p s A B st C X a i) (ho : i.op = 4) (h0 : pl ≠ 0) : Calls Try.prog 29 #[.pointer (some ⟨rb, 0, none⟩), crV C p.L.length, .int .i64 (a : Int), .int .i64 (pl : Int)] w (LdQ C p.L.length X [] w) := by
  obtain ⟨g, o, hq, hg, hno, hcs⟩ := H.q
  have hal := (List.getElem?_eq_some_iff.1 H.hi).1
  have hn := H.n
  have B1 : Hid (Below w.heap.size w (w.alloc (.cells #[.pointer (some ⟨C.mb, 0, none⟩), .slice (some ⟨C.gb, 0, none⟩) p.L.length p.L.length] 51))) := (Below.refl _ _).alloc (Nat.le_refl _) _
  have X1 : Hid ((w.alloc (.cells #[.pointer (some ⟨C.mb, 0, none⟩), .slice (some ⟨C.gb, 0, none⟩) p.L.length p.L.length] 51)).heap[w.heap.size]? = some (.cells #[.pointer (some ⟨C.mb, 0, none⟩), .slice (some ⟨C.gb, 0, none⟩) p.L.length p.L.length] 51 (0, 0))) := alloc_new w _
  have hlt := hide H.c.ltb
  have hlt2 := hide H.c.lto
  have hlt3 := hide H.c.ltp
  have M1 := hide (H.c.kept B1.out)
  have R1 := hide ((B1.out.block _ (lt_of_heap H.r)).trans H.r)
  have hcs := range_keep hcs (B1.out.block _ hg)
  have HCS := hide hcs
  have HNO := hide hno
  clear H hcs hno
  go_enter Try.func29, Try.ntmps29
  go_upto_region 1 with fail
  generalize (w.alloc (.cells #[.pointer (some ⟨C.mb, 0, none⟩), .slice (some ⟨C.gb, 0, none⟩) p.L.length p.L.length] 51)) = w1 at B1 X1 M1 R1 HCS ⊢
  have no : Hid (¬ own3 C.mb C.mo C.mp w.heap.size) := hide (fun q => by have h1 := hlt.out; have h2 := hlt2.out; have h3 := hlt3.out; rcases q with q | q | q <;> omega)
  have y0 : w1.cell? ⟨rb, 0, none⟩ = some (.slice p.q p.L.length p.c) := cell_row R1.out (i := 0) rfl
  have y1 : w1.cell? ⟨rb, 1, none⟩ = some (.string s) := cell_row R1.out (i := 1) rfl
  rw [hq] at y0
  have c0 : w1.cell? ⟨g, o + a * 10, none⟩ = some (.int .i64 i.op) := HCS.out 0 _ rfl
  have k0 : w1.cell? ⟨w.heap.size, 0, none⟩ = some (.pointer (some ⟨C.mb, 0, none⟩)) := cell_row X1.out (i := 0) rfl
  have i0 : (a : Int) < (p.L.length : Int) := by omega
  have i00 : (0 : Int) ≤ (a : Int) := by omega
  have F1 : Hid (Fr (own3 C.mb C.mo C.mp) w w1) := hide (Fr.of_below B1.out)
  have HC1 := hide HCS.out
  rw [ho] at c0
  have h00 : ((pl : Int) == 0) = false := by rw [beq_eq_false_iff_ne]; omega
  go_wp2_with fail
  go_end0
  exact ⟨rfl, M1.out, F1.out⟩
set_option maxRecDepth 100000 in
set_option maxHeartbeats 4000000 in
theorem lead_5t (H : LdH w rb p s A B st C X a i) (ho : i.op = 5) (h0 : pl = s.size) : Calls Try.prog 29 #[.pointer (some ⟨rb, 0, none⟩), crV C p.L.length, .int .i64 (a : Int), .int .i64 (pl : Int)] w (LdQ C p.L.length X [(a : Int) + 1] w) := by
  obtain ⟨g, o, hq, hg, hno, hcs⟩ := H.q
  have hal := (List.getElem?_eq_some_iff.1 H.hi).1
  have hn := H.n
  have B1 : Hid (Below w.heap.size w (w.alloc (.cells #[.pointer (some ⟨C.mb, 0, none⟩), .slice (some ⟨C.gb, 0, none⟩) p.L.length p.L.length] 51))) := (Below.refl _ _).alloc (Nat.le_refl _) _
  have X1 : Hid ((w.alloc (.cells #[.pointer (some ⟨C.mb, 0, none⟩), .slice (some ⟨C.gb, 0, none⟩) p.L.length p.L.length] 51)).heap[w.heap.size]? = some (.cells #[.pointer (some ⟨C.mb, 0, none⟩), .slice (some ⟨C.gb, 0, none⟩) p.L.length p.L.length] 51 (0, 0))) := alloc_new w _
  have hlt := hide H.c.ltb
  have hlt2 := hide H.c.lto
  have hlt3 := hide H.c.ltp
  have M1 := hide (H.c.kept B1.out)
  have R1 := hide ((B1.out.block _ (lt_of_heap H.r)).trans H.r)
  have hcs := range_keep hcs (B1.out.block _ hg)
  have HCS := hide hcs
  have HNO := hide hno
  clear H hcs hno
  go_enter Try.func29, Try.ntmps29
  go_upto_region 1 with fail
  generalize (w.alloc (.cells #[.pointer (some ⟨C.mb, 0, none⟩), .slice (some ⟨C.gb, 0, none⟩) p.L.length p.L.length] 51)) = w1 at B1 X1 M1 R1 HCS ⊢
  have no : Hid (¬ own3 C.mb C.mo C.mp w.heap.size) := hide (fun q => by have h1 := hlt.out; have h2 := hlt2.out; have h3 := hlt3.out; rcases q with q | q | q <;> omega)
  have y0 : w1.cell? ⟨rb, 0, none⟩ = some (.slice p.q p.L.length p.c) := cell_row R1.out (i := 0) rfl
  have y1 : w1.cell? ⟨rb, 1, none⟩ = some (.string s) := cell_row R1.out (i := 1) rfl
  rw [hq] at y0
  have c0 : w1.cell? ⟨g, o + a * 10, none⟩ = some (.int .i64 i.op) := HCS.out 0 _ rfl
  have k0 : w1.cell? ⟨w.heap.size, 0, none⟩ = some (.pointer (some ⟨C.mb, 0, none⟩)) := cell_row X1.out (i := 0) rfl
  have i0 : (a : Int) < (p.L.length : Int) := by omega
  have i00 : (0 : Int) ≤ (a : Int) := by omega
  have F1 : Hid (Fr (own3 C.mb C.mo C.mp) w w1) := hide (Fr.of_below B1.out)
  have HC1 := hide HCS.out
  have hw1 : IntKind.wrap .i64 ((a : Int) + 1) = (a : Int) + 1 := wrap_small _ (by omega) (by omega)
  rw [ho] at c0
  have h00 : ((pl : Int) == (s.size : Int)) = true := by rw [beq_iff_eq]; omega
  have h01 : (pl : Int) = (s.size : Int) := by omega
  go_wp2_with (go_at_call 28; (with_reducible refine (put_c M1.out _).mono ?_); rintro e w2 ⟨rfl, h1, h2⟩; have M2 := hide h1; have F2 := hide (F1.out.trans h2); clear h1 h2)
  go_end0
  exact ⟨rfl, M2.out, F2.out⟩
set_option maxRecDepth 100000 in
set_option maxHeartbeats 4000000 in
theorem lead_5f (H : LdH w rb p s A B st C X a i) (ho : i.op = 5) (h0 : pl ≠ s.size) : Calls Try.prog 29 #[.pointer (some ⟨rb, 0, none⟩), crV C p.L.length, .int .i64 (a : Int), .int .i64 (pl : Int)] w (LdQ C p.L.length X [] w) := by
  obtain ⟨g, o, hq, hg, hno, hcs⟩ := H.q
  have hal := (List.getElem?_eq_some_iff.1 H.hi).1
  have hn := H.n
  have B1 : Hid (Below w.heap.size w (w.alloc (.cells #[.pointer (some ⟨C.mb, 0, none⟩), .slice (some ⟨C.gb, 0, none⟩) p.L.length p.L.length] 51))) := (Below.refl _ _).alloc (Nat.le_refl _) _
  have X1 : Hid ((w.alloc (.cells #[.pointer (some ⟨C.mb, 0, none⟩), .slice (some ⟨C.gb, 0, none⟩) p.L.length p.L.length] 51)).heap[w.heap.size]? = some (.cells #[.pointer (some ⟨C.mb, 0, none⟩), .slice (some ⟨C.gb, 0, none⟩) p.L.length p.L.length] 51 (0, 0))) := alloc_new w _
  have hlt := hide H.c.ltb
  have hlt2 := hide H.c.lto
  have hlt3 := hide H.c.ltp
  have M1 := hide (H.c.kept B1.out)
  have R1 := hide ((B1.out.block _ (lt_of_heap H.r)).trans H.r)
  have hcs := range_keep hcs (B1.out.block _ hg)
  have HCS := hide hcs
  have HNO := hide hno
  clear H hcs hno
  go_enter Try.func29, Try.ntmps29
  go_upto_region 1 with fail
  generalize (w.alloc (.cells #[.pointer (some ⟨C.mb, 0, none⟩), .slice (some ⟨C.gb, 0, none⟩) p.L.length p.L.length] 51)) = w1 at B1 X1 M1 R1 HCS ⊢
  have no : Hid (¬ own3 C.mb C.mo C.mp w.heap.size) := hide (fun q => by have h1 := hlt.out; have h2 := hlt2.out; have h3 := hlt3.out; rcases q with q | q | q <;> omega)
  have y0 : w1.cell? ⟨rb, 0, none⟩ = some (.slice p.q p.L.length p.c) := cell_row R1.out (i := 0) rfl
  have y1 : w1.cell? ⟨rb, 1, none⟩ = some (.string s) := cell_row R1.out (i := 1) rfl
  rw [hq] at y0
  have c0 : w1.cell? ⟨g, o + a * 10, none⟩ = some (.int .i64 i.op) := HCS.out 0 _ rfl
  have k0 : w1.cell? ⟨w.heap.size, 0, none⟩ = some (.pointer (some ⟨C.mb, 0, none⟩)) := cell_row X1.out (i := 0) rfl
  have i0 : (a : Int) < (p.L.length : Int) := by omega
  have i00 : (0 : Int) ≤ (a : Int) := by omega
  have F1 : Hid (Fr (own3 C.mb C.mo C.mp) w w1) := hide (Fr.of_below B1.out)
  have HC1 := hide HCS.out
  rw [ho] at c0
  have h00 : ((pl : Int) == (s.size : Int)) = false := by rw [beq_eq_false_iff_ne]; omega
  go_wp2_with fail
  go_end0
  exact ⟨rfl, M1.out, F1.out⟩
set_option maxRecDepth 100000 in
set_option maxHeartbeats 4000000 in
theorem lead_no (H : LdH w rb p s A B st C X a i) (n2 : i.op ≠ 2) (n3 : i.op ≠ 3) (n6 : i.op ≠ 6) (n7 : i.op ≠ 7) (n4 : i.op ≠ 4) (n5 : i.op ≠ 5) : Calls Try.prog 29 #[.pointer (some ⟨rb, 0, none⟩), crV C p.L.length, .int .i64 (a : Int), .int .i64 (pl : Int)] w (LdQ C p.L.length X [] w) := by
  obtain ⟨g, o, hq, hg, hno, hcs⟩ := H.q
  have hal := (List.getElem?_eq_some_iff.1 H.hi).1
  have hn := H.n
  have B1 : Hid (Below w.heap.size w (w.alloc (.cells #[.pointer (some ⟨C.mb, 0, none⟩), .slice (some ⟨C.gb, 0, none⟩) p.L.length p.L.length] 51))) := (Below.refl _ _).alloc (Nat.le_refl _) _
  have X1 : Hid ((w.alloc (.cells #[.pointer (some ⟨C.mb, 0, none⟩), .slice (some ⟨C.gb, 0, none⟩) p.L.length p.L.length] 51)).heap[w.heap.size]? = some (.cells #[.pointer (some ⟨C.mb, 0, none⟩), .slice (some ⟨C.gb, 0, none⟩) p.L.length p.L.length] 51 (0, 0))) := alloc_new w _
  have hlt := hide H.c.ltb
  have hlt2 := hide H.c.lto
  have hlt3 := hide H.c.ltp
  have M1 := hide (H.c.kept B1.out)
  have R1 := hide ((B1.out.block _ (lt_of_heap H.r)).trans H.r)
  have hcs := range_keep hcs (B1.out.block _ hg)
  have HCS := hide hcs
  have HNO := hide hno
  clear H hcs hno
  go_enter Try.func29, Try.ntmps29
  go_upto_region 1 with fail
  generalize (w.alloc (.cells #[.pointer (some ⟨C.mb, 0, none⟩), .slice (some ⟨C.gb, 0, none⟩) p.L.length p.L.length] 51)) = w1 at B1 X1 M1 R1 HCS ⊢
  have no : Hid (¬ own3 C.mb C.mo C.mp w.heap.size) := hide (fun q => by have h1 := hlt.out; have h2 := hlt2.out; have h3 := hlt3.out; rcases q with q | q | q <;> omega)
  have y0 : w1.cell? ⟨rb, 0, none⟩ = some (.slice p.q p.L.length p.c) := cell_row R1.out (i := 0) rfl
  have y1 : w1.cell? ⟨rb, 1, none⟩ = some (.string s) := cell_row R1.out (i := 1) rfl
  rw [hq] at y0
  have c0 : w1.cell? ⟨g, o + a * 10, none⟩ = some (.int .i64 i.op) := HCS.out 0 _ rfl
  have k0 : w1.cell? ⟨w.heap.size, 0, none⟩ = some (.pointer (some ⟨C.mb, 0, none⟩)) := cell_row X1.out (i := 0) rfl
  have i0 : (a : Int) < (p.L.length : Int) := by omega
  have i00 : (0 : Int) ≤ (a : Int) := by omega
  have F1 : Hid (Fr (own3 C.mb C.mo C.mp) w w1) := hide (Fr.of_below B1.out)
  have HC1 := hide HCS.out
  obtain ⟨oo, hoo⟩ : ∃ oo, i.op = oo := ⟨_, rfl⟩
  rw [hoo] at c0 n2 n3 n4 n5 n6 n7
  have e2 : (oo == 2) = false := by rw [beq_eq_false_iff_ne]; exact n2
  have e3 : (oo == 3) = false := by rw [beq_eq_false_iff_ne]; exact n3
  have e4 : (oo == 4) = false := by rw [beq_eq_false_iff_ne]; exact n4
  have e5 : (oo == 5) = false := by rw [beq_eq_false_iff_ne]; exact n5
  have e6 : (oo == 6) = false := by rw [beq_eq_false_iff_ne]; exact n6
  have e7 : (oo == 7) = false := by rw [beq_eq_false_iff_ne]; exact n7
  clear n2 n3 n4 n5 n6 n7 hoo
  go_wp2_with fail
  go_end0
  exact ⟨rfl, M1.out, F1.out⟩
theorem lead_c (H : LdH w rb p s A B st C X a i) : Calls Try.prog 29 #[.pointer (some ⟨rb, 0, none⟩), crV C p.L.length, .int .i64 (a : Int), .int .i64 (pl : Int)] w (LdQ C p.L.length X (epsP (sL s) i (a : Int) pl) w) := by
  unfold epsP epsL
  rw [sL_len]
  by_cases h2 : i.op = 2
  · rw [if_pos h2]; exact lead_2 H h2
  rw [if_neg h2]
  by_cases h3 : i.op = 3
  · rw [if_pos h3]; exact lead_3 H h3
  rw [if_neg h3]
  by_cases h6 : i.op = 6
  · rw [if_pos (.inl h6)]; exact lead_6 H h6
  by_cases h7 : i.op = 7
  · rw [if_pos (.inr h7)]; exact lead_7 H h7
  rw [if_neg (fun q => q.elim h6 h7)]
  by_cases h4 : i.op = 4
  · rw [if_pos h4]
    by_cases h0 : pl = 0
    · rw [decide_eq_true h0, if_pos rfl]; exact lead_4t H h4 h0
    · rw [decide_eq_false h0, if_neg (by decide)]; exact lead_4f H h4 h0
  rw [if_neg h4]
  by_cases h5 : i.op = 5
  · rw [if_pos h5]
    by_cases h0 : pl = s.size
    · rw [decide_eq_true h0, if_pos rfl]; exact lead_5t H h5 h0
    · rw [decide_eq_false h0, if_neg (by decide)]; exact lead_5f H h5 h0
  rw [if_neg h5]
  exact lead_no H h2 h3 h6 h7 h4 h5
end
end Go.Proofs.Ytbghleihgcenmaa
