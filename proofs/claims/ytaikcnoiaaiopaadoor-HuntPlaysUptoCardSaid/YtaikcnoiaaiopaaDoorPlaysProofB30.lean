/-
  Parts of the proof.
-/
import Derived.Test.YtaikcnoiaaiopaaDoorPlaysProofB29
import Derived.Laws.EntriesVeiled
set_option linter.unusedSimpArgs false
namespace Go.Proofs.YtaikcnoiaaiopaaDoor
open Go Go.RowKit Go.Shelf
attribute [local go_sem] Oper.semAt_some ext_cell
theorem wpIn_normal {c : Code} {F : Fence} {n : Nat} {P : Program} {Q : Exit → Act → World → Prop} {a : Act} {w : World} (h : c.wpIn F n P (fun e a w => e = .normal ∧ Q .normal a w) a w) : c.wpIn F n P Q a w :=
  wpIn_mono h (by rintro _ _ _ ⟨rfl, h⟩; exact h)
def dpOf (v : Value) (U : World) : Nat := match v with
  | .pointer (some p) => (match U.cell? ⟨p.block, 16, none⟩ with
    | some (.int _ z) => z.toNat + 1
    | _ => 0)
  | _ => 0
structure AlF (f : Bool) (ws : List ByteArray) (line : ByteArray) (m : Nat) (pre : List St3) (pre' : List Ev) (cs : List z1_S) (nx k : Nat) : Prop where
  wt : WaitI f ws line pre.length nx m cs
  hn : nx + lastL pre = pre.length
  lm : lastL pre ≤ m
  tl : tl pre' = allM f ws line nx
  bs : bs pre' + lastL pre ≤ 2 * pre.length + (Go.Proofs.YtaikcnoiaaiopaaDoor.tl pre').length + k
theorem alF0 {f : Bool} {ws : List ByteArray} {line : ByteArray} (hok : mayB ws = true) (m : Nat) : AlF f ws line m [] [] (List.replicate m 0#256) 0 0 := by
  refine ⟨fun p h1 h2 => ⟨0#256, by rw [List.getElem?_replicate, if_pos (Nat.mod_lt _ (by omega))], fun k => ?_⟩, rfl, by simp [lastL], rfl, by simp [lastL, Go.Proofs.YtaikcnoiaaiopaaDoor.bs]⟩
  rw [BitVec.getLsbD_zero]
  refine ⟨fun q => (by cases q), fun ⟨_, s, q1, q2, q3⟩ => ?_⟩
  have := ((mayB_of hok).1 s (List.mem_of_getElem? q1)).1
  rw [List.length_nil] at q3
  omega
theorem AlF.bump {f : Bool} {ws : List ByteArray} {line : ByteArray} {m : Nat} {pre : List St3} {pre' : List Ev} {cs : List z1_S} {nx : Nat} (h : AlF f ws line m pre pre' cs nx 0) (d : Nat) : AlF f ws line m pre (pre' ++ [.inr d]) cs nx d :=
  ⟨h.wt, h.hn, h.lm, by rw [tl_inr]; exact h.tl, by rw [tl_inr, bs_inr]; have := h.bs; omega⟩
set_option maxRecDepth 100000 in
set_option maxHeartbeats 4000000 in
theorem all_tells (nn : Nat) (hnn : 5 ≤ nn) {base : Nat} {w : World} {f : Bool} {ws : List ByteArray} {line : ByteArray} {T : Pt} {D : List Nat → Prop} {R : List Nat → Nat → Prop} {K : List Nat → Kn} {hb : Nat} {lg : Int} {n0 B1 B2 : Nat} (hH : Hu base w f ws T D R K lg)
    (h1 : w.heap[B1]? = some (.cells #[.pointer (some ⟨hb, 0, none⟩)] 25 (0, 0))) (h2 : w.heap[B2]? = some (.cells #[.string line] 9 (0, 0))) (hn0 : 0 < n0) (hn1 : n0 ≤ B1) (hn2 : n0 ≤ B2) (hsz : line.size ≤ 140737488355328) :
    TellsE nn Tryd.prog 30 #[.pointer (some ⟨B1, 0, none⟩), .pointer (some ⟨B2, 0, none⟩)] (AInv base f T D R K hb lg) tyP (keepA n0) hb (OkA f ws line) (fun xs => tl xs = allM f ws line line.size ∧ bs xs ≤ 2 * line.size + (tl xs).length) (fun pre => tl pre <+: allM f ws line line.size) w := by
  intro l J Jx W hW ownJ ownX hInv hFT hFTx hBu hYi hJ0
  have hB1 := lt_of_heap h1
  have hA : AH base f ws line T D R K hb lg nn l n0 W.heap.size J Jx := ⟨ownJ, ownX, hInv, hFT, hFTx, hBu, hYi, by have := hW.size; omega, hH.ok, hn0⟩
  have X1 : ∀ (W : World) (o : Obj), (W.alloc o).heap[W.heap.size]? = some o := fun W o => alloc_new W o
  have HH : Hu base W f ws T D R K lg := ⟨hH.tr.below hW, hH.d, hH.kw, hH.bk, hH.wh, hH.lg, hH.ok⟩
  have b1 := (hW.block _ (lt_of_heap h1)).trans h1
  have b2 := (hW.block _ (lt_of_heap h2)).trans h2
  have hle : n0 ≤ W.heap.size := hA.le
  clear hH h1 h2 hW ownJ ownX hInv hFT hFTx hBu hYi hB1
  have h1 : 1 ≤ nn := by omega
  have h2 : 1 ≤ nn - 1 - 1 := by omega
  have hfn : ∀ f, Fence.wide.fn f := fun _ => trivial
  have hmx : Tryd.prog.follows .mixedOrders = true := by kernel_rfl
  obtain ⟨⟨_, st, hm⟩, _⟩ := hA.inv _ _ hJ0
  have HA := hide hA
  have HHu := hide HH
  have HLE := hide hle
  refine callsIn_of_wp_marks Tryd.func30 rfl trivial ?_ rfl
  simp only [Tryd.ntmps30, List.size_toArray, List.length_cons, List.length_nil, Nat.reduceAdd, Nat.reduceSub, Array.replicate_succ, Array.replicate_zero, List.push_toArray, List.append_toArray, List.nil_append, List.cons_append]
  gi_upto_region 1 with fail
  obtain ⟨WA, hWA⟩ : ∃ WA, WA = W.alloc (.cells #[.func (.yield l) #[] #[]] 81) := ⟨_, rfl⟩
  have xA : WA.heap[W.heap.size]? = some (.cells #[.func (.yield l) #[] #[]] 81 (0, 0)) := by rw [hWA]; exact X1 _ _
  have SA := hide (show WA.heap.size = W.heap.size + 1 by rw [hWA]; simp)
  have bA : Below W.heap.size W WA := by rw [hWA]; exact (Below.refl _ _).alloc (Nat.le_refl _) _
  rw [← hWA]
  clear hWA
  have xB := X1 WA (.cells #[.nilFunc] 81)
  have q1 := cell_row xB (i := 0) rfl
  have q2 := frz_row xB 0
  gi_upto_region 2 with fail
  have xC := hide (X1 WA (.cells #[(.func (.func 31) #[] #[.pointer (some ⟨B1, 0, none⟩), .pointer (some ⟨W.heap.size, 0, none⟩)])] 81))
  have bC := hide (show Below WA.heap.size WA (WA.alloc (.cells #[(.func (.func 31) #[] #[.pointer (some ⟨B1, 0, none⟩), .pointer (some ⟨W.heap.size, 0, none⟩)])] 81)) from (Below.refl _ _).alloc (Nat.le_refl _) _)
  clear q1 q2 xB X1
  generalize (WA.alloc (.cells #[(.func (.func 31) #[] #[.pointer (some ⟨B1, 0, none⟩), .pointer (some ⟨W.heap.size, 0, none⟩)])] 81)) = V at xC bC ⊢
  have bV := hide (show Below W.heap.size W V from chain bA bC.out (Nat.le_refl _))
  have yV := hide ((bC.out.block _ (lt_of_heap xA)).trans xA)
  have HV := hide (show HM V hb T f lg st from (bV.out.block _ (lt_of_heap hm)).trans hm)
  have c1 := hide ((bV.out.block _ (lt_of_heap b1)).trans b1)
  have c2 := hide ((bV.out.block _ (lt_of_heap b2)).trans b2)
  have SZ := hide (show W.heap.size < V.heap.size ∧ WA.heap.size < V.heap.size ∧ W.heap.size + 1 = WA.heap.size from ⟨by have := bA.size; have := lt_of_heap xC.out; omega, lt_of_heap xC.out, SA.out.symm⟩)
  have J0 := hide (ownFrom_below hA.own hJ0 bV.out)
  clear xA bA SA bC hm b1 b2 hJ0 hA HH hle
  have SK := hide (fun (V' : World) (h : Below V.heap.size V V') => (show V'.cell? ⟨B1, 0, none⟩ = some (.pointer (some ⟨hb, 0, none⟩)) ∧ V'.cell? ⟨hb, 2, none⟩ = some (.int .i64 lg) ∧ V'.cell? ⟨B2, 0, none⟩ = some (.string line) from
    ⟨cell_row ((h.block _ (lt_of_heap c1.out)).trans c1.out) (i := 0) rfl, cell_row ((h.block _ (lt_of_heap HV.out)).trans HV.out) (i := 2) rfl, cell_row ((h.block _ (lt_of_heap c2.out)).trans c2.out) (i := 0) rfl⟩))
  rename_i Q1 K1 hK1
  obtain ⟨m, hm⟩ : ∃ m : Nat, (m : Int) = (if (line.size : Int) < lg then (line.size : Int) else lg) := by
    have := HHu.out.lg.2.1
    split
    · exact ⟨_, rfl⟩
    · exact ⟨lg.toNat, by omega⟩
  have M1 := hide (show m ≤ 1000 ∧ m ≤ line.size ∧ (m : Int) ≤ lg ∧ (∀ k : Nat, k ≤ line.size → (k : Int) ≤ lg → k ≤ m) from by
    have := HHu.out.lg.2.2
    have := HHu.out.lg.2.1
    split at hm <;> exact ⟨by omega, by omega, by omega, fun k h1 h2 => by omega⟩)
  have REST : Hid (∀ (wb cb wx : Nat) (U : World), Below V.heap.size V U → WM U wb cb m (List.replicate m 0#256) 0 → V.heap.size ≤ wb → V.heap.size ≤ cb → V.heap.size ≤ wx → U.heap[wx]? = some (.cells #[.pointer (some ⟨wb, 0, none⟩)] 82 (0, 0)) → K1 { tmps := #[.func (.yield l) #[] #[], .pointer (some ⟨B1, 0, none⟩), .pointer (some ⟨B2, 0, none⟩), .pointer (some ⟨W.heap.size, 0, none⟩), .pointer (some ⟨WA.heap.size, 0, none⟩), .pointer (some ⟨wx, 0, none⟩), undef, undef, undef, (.func (.func 31) #[] #[.pointer (some ⟨B1, 0, none⟩), .pointer (some ⟨W.heap.size, 0, none⟩)]), .pointer (some ⟨hb, 0, none⟩), .pointer (some ⟨hb, 0, none⟩), .pointer (some ⟨hb, 2, none⟩), .int .i64 lg, .string line, .int .i64 (line.size : Int), .int .i64 (m : Int), .pointer (some ⟨wb, 0, none⟩), undef, undef, undef, undef, undef, undef, undef, undef, undef, undef, undef, undef, undef, undef, undef, undef, undef, undef, undef, undef, undef, undef, undef, undef, undef, undef, undef, undef, undef, undef, undef, undef, undef, undef, undef, undef, undef, undef, undef, undef, undef, undef, undef, undef, undef], defers := [] } U) := hide (by
    intro wb cb wx U hU hW1 hwb hcb hwx hxx
    refine hK1 _ _ ?_
    clear hm
    obtain ⟨q1, q2, q3⟩ := SK.out U hU
    have RC : Hid _ := hide (fun W => read_c hb 0 line W)
    have HU := hide hU
    have HW1 := hide hW1
    have HXX := hide hxx
    have SZ2 := hide (show V.heap.size ≤ wb ∧ V.heap.size ≤ cb ∧ V.heap.size ≤ wx from ⟨hwb, hcb, hwx⟩)
    clear hU hW1 hxx hwb hcb hwx
    simp only [show ((0 : Nat) : Int) = 0 from rfl] at RC
    gi_wp2_with (gi_at_call 26; refine (callsIn_wide.2 (RC.out _)).mono ?_; rintro e w5 ⟨rfl, h5⟩; subst w5)
    obtain ⟨UD, hUD⟩ : ∃ UD, UD = ((U.alloc (.cells #[.pointer (some ⟨hb, 0, none⟩)] 25)).alloc (.cells #[.string line] 9)).alloc (.cells #[.int .i64 0] 3) := ⟨_, rfl⟩
    rw [← hUD]
    have BD : Hid (Below U.heap.size U UD) := hide (by rw [hUD]; exact (((Below.refl _ _).alloc (Nat.le_refl _) _).alloc (by simp only [World.size_alloc]; omega) _).alloc (by simp only [World.size_alloc]; omega) _)
    have R1 : Hid (UD.heap[U.heap.size]? = some (.cells #[.pointer (some ⟨hb, 0, none⟩)] 25 (0, 0))) := hide (by
      rw [hUD]; exact (Below.heap_alloc _ _ _ (by simp only [World.size_alloc]; omega)).trans ((Below.heap_alloc _ _ _ (by simp only [World.size_alloc]; omega)).trans (alloc_new U _)))
    have R3 : Hid (UD.heap[U.heap.size + 1]? = some (.cells #[.string line] 9 (0, 0))) := hide (by
      rw [hUD]
      have := alloc_new (U.alloc (.cells #[.pointer (some ⟨hb, 0, none⟩)] 25)) (.cells #[.string line] 9)
      rw [World.size_alloc] at this
      exact (Below.heap_alloc _ _ _ (by simp only [World.size_alloc]; omega)).trans this)
    have R2 : Hid (UD.heap[U.heap.size + 2]? = some (.cells #[.int .i64 ((0 : Nat) : Int)] 3 (0, 0))) := hide (by
      rw [hUD]
      have := alloc_new ((U.alloc (.cells #[.pointer (some ⟨hb, 0, none⟩)] 25)).alloc (.cells #[.string line] 9)) (.cells #[.int .i64 0] 3)
      rw [World.size_alloc, World.size_alloc] at this
      exact this)
    clear hUD q1 q2 q3 RC
    have BV := hide (show Below V.heap.size V UD from chain HU.out BD.out (Nat.le_refl _))
    have SZ3 := hide (show V.heap.size ≤ UD.heap.size ∧ W.heap.size ≤ UD.heap.size ∧ V.heap.size ≤ U.heap.size from ⟨BV.out.size, by have := SZ.out.1; have := BV.out.size; omega, HU.out.size⟩)
    have AP := hide (show AlP n0 W.heap.size B1 W.heap.size wb cb from ⟨hn1, HLE.out, by have := SZ.out.1; have := SZ2.out.1; omega, by have := SZ.out.1; have := SZ2.out.2.1; omega⟩)
    have AB := hide (show AlB n0 B2 WA.heap.size wx U.heap.size from ⟨hn2, by have := SZ.out.2.2; have := HLE.out; omega, by have := SZ.out.1; have := SZ2.out.2.2; have := HLE.out; omega, by have := SZ.out.1; have := SZ3.out.2.2; have := HLE.out; omega⟩)
    have AM : Hid (AlM J l hb B1 W.heap.size wb cb m B2 WA.heap.size wx U.heap.size line [] (List.replicate m 0#256) 0 UD) := hide ⟨⟨ownFrom_below HA.out.own J0.out BV.out, HW1.out.below BD.out, (BV.out.block _ (lt_of_heap c1.out)).trans c1.out, (BV.out.block _ (lt_of_heap yV.out)).trans yV.out⟩, (BV.out.block _ (lt_of_heap c2.out)).trans c2.out, (BV.out.block _ (lt_of_heap xC.out)).trans xC.out, (BD.out.block _ (lt_of_heap HXX.out)).trans HXX.out, R1.out, R3.out⟩
    have AF := hide (alF0 (f := f) (ws := ws) (line := line) HA.out.hok m)
    have HUD := hide (show Hu base UD f ws T D R K lg from ⟨HHu.out.tr.below (chain bV.out BV.out (Nat.le_refl _)), HHu.out.d, HHu.out.kw, HHu.out.bk, HHu.out.wh, HHu.out.lg, HHu.out.ok⟩)
    have TL := read_tells (nn - 1) (by omega) HUD.out R1.out R2.out R3.out (Nat.zero_le _) hsz (hb := hb)
    clear R1 R2 R3 HU HXX HW1 J0 c1 c2 HV yV xC bV
    refine range_told6 (α := St3) h1 (gf := 41) (lb := #[.pointer (some ⟨U.heap.size, 0, none⟩), .pointer (some ⟨U.heap.size + 2, 0, none⟩), .pointer (some ⟨U.heap.size + 1, 0, none⟩)]) rfl (enters_of Tryd.func41 (by kernel_rfl) rfl) (encs := encS T) (fun _ => rfl) TL
      (fun pre Z => ∃ pre' cs nx, AlM J l hb B1 W.heap.size wb cb m B2 WA.heap.size wx U.heap.size line pre' cs nx Z ∧ AlF f ws line m pre pre' cs nx 0 ∧ GoodS f line 0 D pre) (fun pre x Z => ∃ pre' cs nx, AlM J l hb B1 W.heap.size wb cb m B2 WA.heap.size wx U.heap.size line pre' cs nx Z ∧ AlF f ws line m pre pre' cs nx (1 + x.2.2) ∧ GoodS f line 0 D (pre ++ [x]) ∧ x.2.1.length + x.2.2 ≤ lastL pre + 1) (fun c _ Z => c = .ret ∧ ∃ p', Jx p' Z ∧ tl p' <+: allM f ws line line.size)
      (fun pre A A' row hi hg hr => ?_) (fun pre x => ?_) (fun c pre A A' row hi hg hr => ?_) (fun pre V h => ?_) (fun pre A B hi hf => ?_) (fun pre x V0 V ht => ?_) (fun pre x V0 V hi ht => ?_) ⟨_, _, _, AM.out, AF.out, fun j x hx => by simp at hx⟩
      (fun x => { tmps := #[.func (.yield l) #[] #[], .pointer (some ⟨B1, 0, none⟩), .pointer (some ⟨B2, 0, none⟩), .pointer (some ⟨W.heap.size, 0, none⟩), .pointer (some ⟨WA.heap.size, 0, none⟩), .pointer (some ⟨wx, 0, none⟩), .int .i64 (x.1 : Int), nodeP T x.2.1, undef, (.func (.func 31) #[] #[.pointer (some ⟨B1, 0, none⟩), .pointer (some ⟨W.heap.size, 0, none⟩)]), .pointer (some ⟨hb, 0, none⟩), .pointer (some ⟨hb, 0, none⟩), .pointer (some ⟨hb, 2, none⟩), .int .i64 lg, .string line, .int .i64 (line.size : Int), .int .i64 (m : Int), .pointer (some ⟨wb, 0, none⟩), .pointer (some ⟨hb, 0, none⟩), .string line, .func (.func 41) #[] #[.pointer (some ⟨U.heap.size, 0, none⟩), .pointer (some ⟨U.heap.size + 2, 0, none⟩), .pointer (some ⟨U.heap.size + 1, 0, none⟩)], .int .i64 (x.1 : Int), nodeP T x.2.1, undef, undef, undef, undef, undef, undef, undef, undef, undef, undef, undef, undef, undef, undef, undef, undef, undef, undef, undef, undef, undef, undef, undef, undef, undef, undef, undef, undef, undef, undef, undef, undef, undef, undef, undef, undef, undef, undef, undef, undef], defers := [] }) ?_ ?_ ?_ ?_
    · obtain ⟨pre', cs, nx, m1, m2, m3⟩ := hi
      exact ⟨pre', cs, nx, m1.grown HA.out SZ3.out.2.1 hg hr, m2, m3⟩
    · rintro _ A A' row ⟨pre', cs, nx, m1, m2⟩ hg hr
      exact ⟨pre', cs, nx, m1.grown HA.out SZ3.out.2.1 hg hr, m2⟩
    · obtain ⟨e, p', m1, m2⟩ := hi
      exact ⟨e, p', ownFrom_le HA.out.ownx SZ3.out.2.1 _ _ _ _ m1 hg hr, m2⟩
    · obtain ⟨pre', cs, nx, m1, _⟩ := h
      exact (HA.out.inv _ _ m1.a.j).1
    · obtain ⟨pre', cs, nx, m1, m2⟩ := hi
      exact ⟨pre', cs, nx, m1.below HA.out ⟨hf.fr.os, hf.fr.tape, hf.fr.output, hf.fr.size, fun k hk => hf.fr.block k hk (fun ⟨_, _, _, _, q⟩ => q)⟩, m2⟩
    · obtain ⟨T', f', lg', st', h5⟩ := ht.hm
      exact ht.bump.only h5
    · obtain ⟨pre', cs, nx, m1, m2, m3⟩ := hi
      exact ⟨_, cs, nx, m1.bump (d := 1 + x.2.2) HA.out (by exact_mod_cast ht.bump), m2.bump _, ht.good, ht.len⟩
    · intro l' x Z K' hK
      simp only [encS]
      gi_wp2
      exact hK
    · rintro l' pre ⟨e, r, kk⟩ Z ⟨pre', cs, nx, hM, hF, hG, hL⟩
      dsimp only at hL ⊢
      obtain ⟨he, hlt, hlg⟩ := hG pre.length (e, r, kk) (by simp)
      simp only at he hlt hlg
      have MM := hide hM
      have FF := hide hF
      have GG := hide hG
      have LL := hide hL
      have LG := hide hlg
      have hrD : D r := hlg.2.1
      have EE := hide (show e = pre.length + 1 by omega)
      have hee : e ≤ line.size := by omega
      have rl : r.length ≤ e := by have := hlg.len; rw [rdP_len (by omega)] at this; omega
      have wsub : IntKind.wrap .i64 ((e : Int) - (r.length : Int)) = ((e - r.length : Nat) : Int) := by rw [IntKind.wrap_i64]; omega
      have LG1 := hide (show (1 : Int) ≤ lg from by
        have h5 := (mayB_of HHu.out.ok).2.1
        have h6 := List.getElem_mem h5
        have := HHu.out.lg.1 _ h6
        have := ((mayB_of HHu.out.ok).1 _ h6).1
        omega)
      have M0 := hide (show 0 < m from M1.out.2.2.2 1 (by omega) (by exact_mod_cast LG1.out))
      have TC := hide (fun V' (h : Below Z.heap.size Z V') => (callsIn_wide (n := 3)).1 (tell_in 3 (Nat.le_refl _) HA.out AP.out ((MM.out.below HA.out h).a) FF.out.wt (by have := FF.out.hn; have := FF.out.lm; omega) (e - r.length) (fun _ => M0.out) (by have := M1.out.1; omega) (by have := FF.out.hn; have := LL.out; omega) (by omega) hsz (fun q k hq hsd => by
        obtain ⟨s, hs1, hs2⟩ := hsd
        refine ⟨Nat.zero_le _, s, hs1, hs2, ?_⟩
        rcases Nat.lt_or_ge (0 + pre.length) (q + s.size) with hgt | hge
        · have h5 := begun HHu.out (m := 0) (i := pre.length + 1) (p := q) (by omega) hs1 hs2 (Nat.zero_le _) (by omega) (by omega) LG.out
          omega
        · exact hge) FF.out.tl (by have := AP.out.wb; have := lt_of_heap MM.out.a.w.h; have := h.size; omega) (by have h8 := FF.out.bs; have h9 := LL.out; simp only at h8 h9; omega)))
      have TR := hide ((HA.out.inv _ _ hM.a.j).1.1)
      have ZZ := hide (show Z.drew.cell? ⟨wx, 0, none⟩ = some (.pointer (some ⟨wb, 0, none⟩)) ∧ Z.drew.cell? ⟨WA.heap.size, 0, none⟩ = some (.func (.func 31) #[] #[.pointer (some ⟨B1, 0, none⟩), .pointer (some ⟨W.heap.size, 0, none⟩)]) ∧ Z.drew.cell? ⟨T.nb r, 16, none⟩ = some (.int .i64 r.length) from ⟨cell_row hM.x5 (i := 0) rfl, cell_row hM.x4 (i := 0) rfl, TR.out.cDep hrD⟩)
      have lr := TR.out.lt hrD
      clear hM hF hG hL he hlg
      gi_upto_region 6 with fail
      refine wpIn_region_held (S := fun w' => w'.cell? ⟨wx, 0, none⟩ = some (.pointer (some ⟨wb, 0, none⟩)) ∧ w'.cell? ⟨WA.heap.size, 0, none⟩ = some (.func (.func 31) #[] #[.pointer (some ⟨B1, 0, none⟩), .pointer (some ⟨W.heap.size, 0, none⟩)]) ∧ w'.cell? ⟨T.nb r, 16, none⟩ = some (.int .i64 r.length)) (by kernel_rfl) (by kernel_rfl) (fun ⟨_, _, h⟩ => h) ZZ.out ?_
      intro hS0
      refine wpAnyH_take (i := 0) (oi := _) (v := ?_) rfl (by kernel_rfl) (by kernel_rfl) (by kernel_rfl) (fun _ _ _ h => h) (Or.inl ⟨by rfl, ?_⟩) (by assumption) ?_
      rotate_left
      · intro wz hSw
        obtain ⟨hs0, hs1, hs2⟩ := hSw
        go_simp
        try with_reducible rfl
      dsimp only [Act.put, List.getElem_toArray, List.getElem_cons_zero, List.getElem_cons_succ]
      simp only [List.setIfInBounds_toArray, List.set_cons_zero, List.set_cons_succ]
      refine wpAnyH_take (i := 1) (oi := _) (v := ?_) rfl (by kernel_rfl) (by kernel_rfl) (by kernel_rfl) (fun _ _ _ h => h) (Or.inl ⟨by rfl, ?_⟩) (by assumption) ?_
      rotate_left
      · intro wz hSw
        obtain ⟨hs0, hs1, hs2⟩ := hSw
        go_simp
        try with_reducible rfl
      dsimp only [Act.put, List.getElem_toArray, List.getElem_cons_zero, List.getElem_cons_succ]
      simp only [List.setIfInBounds_toArray, List.set_cons_zero, List.set_cons_succ]
      refine wpAnyH_take (i := 2) (oi := _) (v := ?_) rfl (by kernel_rfl) (by kernel_rfl) (by kernel_rfl) (fun _ _ _ h => h) (Or.inl ⟨by rfl, ?_⟩) (by assumption) ?_
      rotate_left
      · intro wz hSw
        obtain ⟨hs0, hs1, hs2⟩ := hSw
        go_simp
        try with_reducible rfl
      dsimp only [Act.put, List.getElem_toArray, List.getElem_cons_zero, List.getElem_cons_succ]
      simp only [List.setIfInBounds_toArray, List.set_cons_zero, List.set_cons_succ]
      refine wpAnyH_take (i := 3) (oi := _) (v := ?_) rfl (by kernel_rfl) (by kernel_rfl) (by kernel_rfl) (fun _ _ _ h => h) (Or.inl ⟨by rfl, ?_⟩) (by assumption) ?_
      rotate_left
      · intro wz hSw
        obtain ⟨hs0, hs1, hs2⟩ := hSw
        go_simp
        try with_reducible rfl
      dsimp only [Act.put, List.getElem_toArray, List.getElem_cons_zero, List.getElem_cons_succ]
      simp only [List.setIfInBounds_toArray, List.set_cons_zero, List.set_cons_succ]
      refine wpAnyH_take (i := 4) (oi := _) (v := ?_) rfl (by kernel_rfl) (by kernel_rfl) (by kernel_rfl) (fun _ _ _ h => h) (Or.inl ⟨by rfl, ?_⟩) (by assumption) ?_
      rotate_left
      · intro wz hSw
        obtain ⟨hs0, hs1, hs2⟩ := hSw
        go_simp
        try with_reducible rfl
      dsimp only [Act.put, List.getElem_toArray, List.getElem_cons_zero, List.getElem_cons_succ]
      simp only [List.setIfInBounds_toArray, List.set_cons_zero, List.set_cons_succ]
      refine wpAnyH_take (i := 5) (oi := _) (v := ?_) rfl (by kernel_rfl) (by kernel_rfl) (by kernel_rfl) (fun _ _ _ h => h) (Or.inl ⟨by rfl, ?_⟩) (by assumption) ?_
      rotate_left
      · intro wz hSw
        obtain ⟨hs0, hs1, hs2⟩ := hSw
        go_simp
        try with_reducible rfl
      dsimp only [Act.put, List.getElem_toArray, List.getElem_cons_zero, List.getElem_cons_succ]
      simp only [List.setIfInBounds_toArray, List.set_cons_zero, List.set_cons_succ]
      refine wpAnyH_take (i := 6) (oi := _) (v := ?_) rfl (by kernel_rfl) (by kernel_rfl) (by kernel_rfl) (fun _ _ _ h => h) (Or.inl ⟨by rfl, ?_⟩) (by assumption) ?_
      rotate_left
      · intro wz hSw
        obtain ⟨hs0, hs1, hs2⟩ := hSw
        go_simp
        try with_reducible rfl
      dsimp only [Act.put, List.getElem_toArray, List.getElem_cons_zero, List.getElem_cons_succ]
      simp only [List.setIfInBounds_toArray, List.set_cons_zero, List.set_cons_succ]
      refine wpAnyH_take (i := 7) (oi := _) (v := ?_) rfl (by kernel_rfl) (by kernel_rfl) (by kernel_rfl) (fun _ _ _ h => h) (Or.inl ⟨by rfl, ?_⟩) (by assumption) ?_
      rotate_left
      · intro wz hSw
        obtain ⟨hs0, hs1, hs2⟩ := hSw
        go_simp
        try with_reducible rfl
      dsimp only [Act.put, List.getElem_toArray, List.getElem_cons_zero, List.getElem_cons_succ]
      simp only [List.setIfInBounds_toArray, List.set_cons_zero, List.set_cons_succ]
      refine wpAnyH_ready (rs := [8]) (by kernel_rfl) (by simp) ?_
      refine AllReadyH.cons rfl (fun KK hKK => ?_) AllReadyH.nil
      go_simp
      go_at_call 33
      refine (TC.out Z.drew (Below.refl _ _).drew).mono ?_
      rintro e5 V5 ⟨k1, k3⟩
      have KZ := hide ((keeps_below (B := W.heap.size) (Below.refl Z.heap.size Z).drew).trans k1)
      have tk : TKeep (keepB n0) Z.drew V5 := by rcases k3 with ⟨_, q, _⟩ | ⟨_, q, _⟩ <;> exact q
      have MD := hide (MM.out.below HA.out (Below.refl Z.heap.size Z).drew)
      have ST5 := hide (show V5.cell? ⟨wx, 0, none⟩ = some (.pointer (some ⟨wb, 0, none⟩)) ∧ V5.cell? ⟨WA.heap.size, 0, none⟩ = some (.func (.func 31) #[] #[.pointer (some ⟨B1, 0, none⟩), .pointer (some ⟨W.heap.size, 0, none⟩)]) ∧ V5.cell? ⟨T.nb r, 16, none⟩ = some (.int .i64 r.length) from by
        obtain ⟨cur, n1, n2⟩ := (TR.out.below (Below.refl Z.heap.size Z).drew).node r hrD
        exact ⟨cell_row (tk.same _ _ _ _ (.inl ⟨AB.out.wx, by simp⟩) MD.out.x5) (i := 0) rfl, cell_row (tk.same _ _ _ _ (.inl ⟨AB.out.tb, by simp⟩) MD.out.x4) (i := 0) rfl, cell_row (tk.same _ _ _ _ (.inr rfl) n1) n2.dep⟩)
      have TK := hide tk
      clear k1 tk
      rcases k3 with ⟨rfl, _, pre2, cs2, k4, k5, k6, k7⟩ | ⟨rfl, _, p', k4, k5⟩
      · have AL5 := hide k4
        have WT5 := hide k5
        have TT5 := hide k6
        have BB5 := hide k7
        clear k4 k5 k6 k7
        refine hKK.out _ _ ST5.out (fun hS1 => ?_)
        clear hKK KK hS0
        refine wpAnyH_take (i := 9) (oi := _) (v := ?_) rfl (by kernel_rfl) (by kernel_rfl) (by kernel_rfl) (fun _ _ _ h => h) (Or.inl ⟨by rfl, ?_⟩) (by assumption) ?_
        rotate_left
        · intro wz hSw
          obtain ⟨hs0, hs1, hs2⟩ := hSw
          go_simp
          try with_reducible rfl
        dsimp only [Act.put, List.getElem_toArray, List.getElem_cons_zero, List.getElem_cons_succ]
        simp only [List.setIfInBounds_toArray, List.set_cons_zero, List.set_cons_succ]
        refine wpAnyH_done (by kernel_rfl) ?_ _
        clear hS1
        have M5 := hide (MD.out.round AB.out AL5.out TK.out)
        have TR5 := hide ((HA.out.inv _ _ M5.out.a.j).1.1)
        have cw := TR5.out.cWh hrD
        have lr5 := TR5.out.lt hrD
        have WC5 := hide (waitC_start HHu.out LG.out WT5.out)
        have KD5 := hide (keeps_le KZ.out SZ3.out.2.1)
        clear lr
        gi_wp2
        clear cw lr5 ST5
        obtain ⟨LI, hLI⟩ : ∃ LI : Act → World → Prop, LI = (fun a U2 => ∃ (o : Option (List Nat)) (z : List Nat) (cs3 : List z1_S), a.tmps = #[tw a 0, tw a 1, tw a 2, tw a 3, tw a 4, .pointer (some ⟨wx, 0, none⟩), .int .i64 (e : Int), tw a 7, ndV T o, tw a 9, tw a 10, tw a 11, tw a 12, tw a 13, tw a 14, tw a 15, tw a 16, tw a 17, tw a 18, tw a 19, tw a 20, tw a 21, tw a 22, tw a 23, tw a 24, tw a 25, tw a 26, tw a 27, tw a 28, tw a 29, tw a 30, tw a 31, tw a 32, tw a 33, tw a 34, tw a 35, tw a 36, tw a 37, tw a 38, tw a 39, tw a 40, tw a 41, tw a 42, tw a 43, tw a 44, tw a 45, tw a 46, tw a 47, tw a 48, tw a 49, tw a 50, tw a 51, tw a 52, tw a 53, tw a 54, tw a 55, tw a 56, tw a 57, tw a 58, tw a 59, tw a 60, tw a 61, tw a 62] ∧ a.defers = [] ∧ AlM J l hb B1 W.heap.size wb cb m B2 WA.heap.size wx U.heap.size line pre2 cs3 (e - r.length) U2 ∧ WaitC f ws line pre.length (e - r.length) m cs3 z.length ∧ z <+: rdP f line 0 (pre.length + 1) ∧ WhIs (WK K) z o ∧ z.length ≤ r.length ∧ KeepsFrom UD.heap.size Z U2) := ⟨_, rfl⟩
        refine wpIn_loop LI (fun a U2 => dpOf (a.tmps.getD 8 undef) U2) ?_ ?_
        · rw [hLI]
          exact ⟨(K r).wh, r, cs2, rfl, rfl, M5.out, WC5.out, LG.out.1, HHu.out.wh r hrD, Nat.le_refl _, KD5.out⟩
        · rintro ⟨tm, ds⟩ U2 hI
          rw [hLI] at hI
          obtain ⟨o, z, cs3, ha, hd, hM, hW, hz, hwh, hzl, hK⟩ := hI
          have HLI := hide hLI
          clear hLI
          dsimp only at ha hd
          generalize tw { tmps := tm, defers := ds } = f' at ha
          subst ha hd
          have M7 := hide hM
          have W7 := hide hW
          have Z7 := hide hz
          have H7 := hide hwh
          have L7 := hide hzl
          have K7 := hide hK
          have T7 := hide ((HA.out.inv _ _ hM.a.j).1.1)
          clear hM hW hz hwh hzl hK
          rcases o with _ | x
          · have WI := hide (waitC_done HHu.out (by have := EE.out; omega) Z7.out H7.out W7.out)
            have FIN := hide (show TKeep (fun k _ => k = U.heap.size ∨ k = U.heap.size + 1) Z U2 ∧ ∃ pre' cs nx, AlM J l hb B1 W.heap.size wb cb m B2 WA.heap.size wx U.heap.size line pre' cs nx U2 ∧ AlF f ws line m (pre ++ [(e, r, kk)]) pre' cs nx 0 ∧ GoodS f line 0 D (pre ++ [(e, r, kk)]) from
              ⟨MM.out.keep M7.out K7.out.size, pre2, cs3, e - r.length, M7.out, ⟨by rw [List.length_append]; exact WI.out, by simp [lastL]; have := EE.out; omega, by simp [lastL]; exact M1.out.2.2.2 _ (by omega) (d_lg HHu.out hrD), TT5.out, by simp [lastL]; have := BB5.out; have := FF.out.bs; have := LL.out; omega⟩, GG.out⟩)
            simp only [ndV, ndA]
            gi_wp2
            exact ⟨K7.out, FIN.out.1, FIN.out.2⟩
          · have XW := hide (show x <+: z ∧ WK K x from by
              rcases H7.out with ⟨q, _⟩ | ⟨y, q1, q2, q3, _⟩
              · cases q
              · cases q1; exact ⟨q2, q3⟩)
            obtain ⟨y, hy1, hy2, hx2, hy3⟩ := wh_next HHu.out XW.out.2
            have hxl : x.length ≤ r.length := Nat.le_trans XW.out.1.length_le L7.out
            have hx1 := wk_len HHu.out XW.out.2
            have wsub2 : IntKind.wrap .i64 ((e : Int) - (x.length : Int)) = ((e - x.length : Nat) : Int) := by rw [IntKind.wrap_i64]; omega
            have hrm : r.length ≤ m := M1.out.2.2.2 _ (by omega) (d_lg HHu.out hrD)
            obtain ⟨c, hc, _⟩ := W7.out (e - x.length) (by omega) (by omega)
            have WN := hide (show WaitC f ws line pre.length (e - r.length) m (cs3.set ((e - x.length) % m) (z1_sor c (K x).ws)) x.dropLast.length from by
              have h5 := EE.out
              have h6 := waitC_step HHu.out (place := e - r.length) Z7.out H7.out W7.out M7.out.a.w.len (by omega) (by omega) (c := c) (by rw [← h5]; exact hc)
              rw [← h5] at h6
              exact h6)
            have PC := hide (fun V' (h : Below U2.heap.size U2 V') => wput_c ((M7.out.below HA.out h).a.w) M0.out (by have := M1.out.1; omega) (e - x.length) hc (K x).ws)
            have ST := hide (fun (V' : World) (hT : TrM base V' T D R K) (hx : V'.heap[wx]? = some (.cells #[.pointer (some ⟨wb, 0, none⟩)] 82 (0, 0))) => (show (fun w' : World => w'.cell? ⟨wx, 0, none⟩ = some (.pointer (some ⟨wb, 0, none⟩)) ∧ w'.cell? ⟨T.nb x, 16, none⟩ = some (.int .i64 x.length) ∧ w'.cell? ⟨T.nb x, 17, none⟩ = some (.int .u64 (z1_wd (K x).ws 0)) ∧ w'.cell? ⟨T.nb x, 18, none⟩ = some (.int .u64 (z1_wd (K x).ws 1)) ∧ w'.cell? ⟨T.nb x, 19, none⟩ = some (.int .u64 (z1_wd (K x).ws 2)) ∧ w'.cell? ⟨T.nb x, 20, none⟩ = some (.int .u64 (z1_wd (K x).ws 3))) V' from ⟨cell_row hx (i := 0) rfl, hT.cDep hx2, hT.cWs hx2⟩))
            have hdp : dpOf (.pointer (some ⟨T.nb x, 0, none⟩)) U2 = x.length + 1 := by
              unfold dpOf
              simp only [T7.out.cDep hx2]
              simp
            have HY := hide (And.intro hy1 (And.intro hy2 hy3))
            have lx := T7.out.lt hx2
            clear hy1 hy2 hy3 hc
            simp only [ndV, ndA]
            gi_upto_region 10 with fail
            refine wpIn_normal ?_
            refine wpIn_region_held (S := fun w' => w'.cell? ⟨wx, 0, none⟩ = some (.pointer (some ⟨wb, 0, none⟩)) ∧ w'.cell? ⟨T.nb x, 16, none⟩ = some (.int .i64 x.length) ∧ w'.cell? ⟨T.nb x, 17, none⟩ = some (.int .u64 (z1_wd (K x).ws 0)) ∧ w'.cell? ⟨T.nb x, 18, none⟩ = some (.int .u64 (z1_wd (K x).ws 1)) ∧ w'.cell? ⟨T.nb x, 19, none⟩ = some (.int .u64 (z1_wd (K x).ws 2)) ∧ w'.cell? ⟨T.nb x, 20, none⟩ = some (.int .u64 (z1_wd (K x).ws 3))) (by kernel_rfl) (by kernel_rfl) (fun ⟨_, _, h⟩ => nomatch h.1) (ST.out U2.drew (T7.out.below (Below.refl _ _).drew) (M7.out.below HA.out (Below.refl _ _).drew).x5) ?_
            intro hS0
            refine wpAnyH_take (i := 0) (oi := _) (v := ?_) rfl (by kernel_rfl) (by kernel_rfl) (by kernel_rfl) (fun _ _ _ h => nomatch h.1) (Or.inl ⟨by rfl, ?_⟩) (by assumption) ?_
            rotate_left
            · intro wz hSw
              obtain ⟨hs0, hs1, hs2, hs3, hs4, hs5⟩ := hSw
              go_simp
              try with_reducible rfl
            dsimp only [Act.put, List.getElem_toArray, List.getElem_cons_zero, List.getElem_cons_succ]
            simp only [List.setIfInBounds_toArray, List.set_cons_zero, List.set_cons_succ]
            refine wpAnyH_take (i := 1) (oi := _) (v := ?_) rfl (by kernel_rfl) (by kernel_rfl) (by kernel_rfl) (fun _ _ _ h => nomatch h.1) (Or.inl ⟨by rfl, ?_⟩) (by assumption) ?_
            rotate_left
            · intro wz hSw
              obtain ⟨hs0, hs1, hs2, hs3, hs4, hs5⟩ := hSw
              go_simp
              try with_reducible rfl
            dsimp only [Act.put, List.getElem_toArray, List.getElem_cons_zero, List.getElem_cons_succ]
            simp only [List.setIfInBounds_toArray, List.set_cons_zero, List.set_cons_succ]
            refine wpAnyH_take (i := 2) (oi := _) (v := ?_) rfl (by kernel_rfl) (by kernel_rfl) (by kernel_rfl) (fun _ _ _ h => nomatch h.1) (Or.inl ⟨by rfl, ?_⟩) (by assumption) ?_
            rotate_left
            · intro wz hSw
              obtain ⟨hs0, hs1, hs2, hs3, hs4, hs5⟩ := hSw
              go_simp
              try with_reducible rfl
            dsimp only [Act.put, List.getElem_toArray, List.getElem_cons_zero, List.getElem_cons_succ]
            simp only [List.setIfInBounds_toArray, List.set_cons_zero, List.set_cons_succ]
            refine wpAnyH_take (i := 3) (oi := _) (v := ?_) rfl (by kernel_rfl) (by kernel_rfl) (by kernel_rfl) (fun _ _ _ h => nomatch h.1) (Or.inl ⟨by rfl, ?_⟩) (by assumption) ?_
            rotate_left
            · intro wz hSw
              obtain ⟨hs0, hs1, hs2, hs3, hs4, hs5⟩ := hSw
              go_simp
              try with_reducible rfl
            dsimp only [Act.put, List.getElem_toArray, List.getElem_cons_zero, List.getElem_cons_succ]
            simp only [List.setIfInBounds_toArray, List.set_cons_zero, List.set_cons_succ]
            refine wpAnyH_take (i := 4) (oi := _) (v := ?_) rfl (by kernel_rfl) (by kernel_rfl) (by kernel_rfl) (fun _ _ _ h => nomatch h.1) (Or.inl ⟨by rfl, ?_⟩) (by assumption) ?_
            rotate_left
            · intro wz hSw
              obtain ⟨hs0, hs1, hs2, hs3, hs4, hs5⟩ := hSw
              go_simp
              try with_reducible rfl
            dsimp only [Act.put, List.getElem_toArray, List.getElem_cons_zero, List.getElem_cons_succ]
            simp only [List.setIfInBounds_toArray, List.set_cons_zero, List.set_cons_succ]
            refine wpAnyH_take (i := 5) (oi := _) (v := ?_) rfl (by kernel_rfl) (by kernel_rfl) (by kernel_rfl) (fun _ _ _ h => nomatch h.1) (Or.inl ⟨by rfl, ?_⟩) (by assumption) ?_
            rotate_left
            · intro wz hSw
              obtain ⟨hs0, hs1, hs2, hs3, hs4, hs5⟩ := hSw
              go_simp
              try with_reducible rfl
            dsimp only [Act.put, List.getElem_toArray, List.getElem_cons_zero, List.getElem_cons_succ]
            simp only [List.setIfInBounds_toArray, List.set_cons_zero, List.set_cons_succ]
            refine wpAnyH_take (i := 6) (oi := _) (v := ?_) rfl (by kernel_rfl) (by kernel_rfl) (by kernel_rfl) (fun _ _ _ h => nomatch h.1) (Or.inl ⟨by rfl, ?_⟩) (by assumption) ?_
            rotate_left
            · intro wz hSw
              obtain ⟨hs0, hs1, hs2, hs3, hs4, hs5⟩ := hSw
              go_simp
              try with_reducible rfl
            dsimp only [Act.put, List.getElem_toArray, List.getElem_cons_zero, List.getElem_cons_succ]
            simp only [List.setIfInBounds_toArray, List.set_cons_zero, List.set_cons_succ]
            refine wpAnyH_take (i := 7) (oi := _) (v := ?_) rfl (by kernel_rfl) (by kernel_rfl) (by kernel_rfl) (fun _ _ _ h => nomatch h.1) (Or.inl ⟨by rfl, ?_⟩) (by assumption) ?_
            rotate_left
            · intro wz hSw
              obtain ⟨hs0, hs1, hs2, hs3, hs4, hs5⟩ := hSw
              go_simp
              try with_reducible rfl
            dsimp only [Act.put, List.getElem_toArray, List.getElem_cons_zero, List.getElem_cons_succ]
            simp only [List.setIfInBounds_toArray, List.set_cons_zero, List.set_cons_succ]
            refine wpAnyH_take (i := 8) (oi := _) (v := ?_) rfl (by kernel_rfl) (by kernel_rfl) (by kernel_rfl) (fun _ _ _ h => nomatch h.1) (Or.inl ⟨by rfl, ?_⟩) (by assumption) ?_
            rotate_left
            · intro wz hSw
              obtain ⟨hs0, hs1, hs2, hs3, hs4, hs5⟩ := hSw
              go_simp
              try with_reducible rfl
            dsimp only [Act.put, List.getElem_toArray, List.getElem_cons_zero, List.getElem_cons_succ]
            simp only [List.setIfInBounds_toArray, List.set_cons_zero, List.set_cons_succ]
            refine wpAnyH_take (i := 9) (oi := _) (v := ?_) rfl (by kernel_rfl) (by kernel_rfl) (by kernel_rfl) (fun _ _ _ h => nomatch h.1) (Or.inl ⟨by rfl, ?_⟩) (by assumption) ?_
            rotate_left
            · intro wz hSw
              obtain ⟨hs0, hs1, hs2, hs3, hs4, hs5⟩ := hSw
              go_simp
              try with_reducible rfl
            dsimp only [Act.put, List.getElem_toArray, List.getElem_cons_zero, List.getElem_cons_succ]
            simp only [List.setIfInBounds_toArray, List.set_cons_zero, List.set_cons_succ]
            refine wpAnyH_take (i := 10) (oi := _) (v := ?_) rfl (by kernel_rfl) (by kernel_rfl) (by kernel_rfl) (fun _ _ _ h => nomatch h.1) (Or.inl ⟨by rfl, ?_⟩) (by assumption) ?_
            rotate_left
            · intro wz hSw
              obtain ⟨hs0, hs1, hs2, hs3, hs4, hs5⟩ := hSw
              go_simp
              try with_reducible rfl
            dsimp only [Act.put, List.getElem_toArray, List.getElem_cons_zero, List.getElem_cons_succ]
            simp only [List.setIfInBounds_toArray, List.set_cons_zero, List.set_cons_succ]
            refine wpAnyH_ready (rs := [11]) (by kernel_rfl) (by simp) ?_
            refine AllReadyH.cons rfl (fun KK hKK => ?_) AllReadyH.nil
            go_simp
            go_at_call 34
            refine (PC.out U2.drew (Below.refl _ _).drew).mono ?_
            rintro e8 V8 ⟨rfl, p1, p2⟩
            have PU := hide ((M7.out.below HA.out (Below.refl U2.heap.size U2).drew).put HA.out AP.out p1 p2)
            have T8 := hide ((HA.out.inv _ _ PU.out.1.a.j).1.1)
            clear p1 p2
            refine hKK.out _ _ (ST.out V8 T8.out PU.out.1.x5) (fun hS1 => ?_)
            clear hKK KK hS0 hS1
            refine wpAnyH_done (by kernel_rfl) ?_ _
            refine ⟨rfl, ?_⟩
            have cb1 := T8.out.cBk hx2
            rw [HY.out.1] at cb1
            have cb2 := T8.out.cWh HY.out.2.1
            have lb1 := T8.out.lt hx2
            have lb2 := T8.out.lt HY.out.2.1
            have K8 := hide ((K7.out.trans ((keeps_below (B := UD.heap.size) (Below.refl U2.heap.size U2).drew))).trans (keeps_le PU.out.2 SZ3.out.2.1))
            have XZ := hide (show x.dropLast <+: rdP f line 0 (pre.length + 1) ∧ x.dropLast.length ≤ r.length from ⟨(List.dropLast_prefix x).trans (XW.out.1.trans Z7.out), by rw [List.length_dropLast]; omega⟩)
            have DEC := hide (show dpOf (ndV T (K y).wh) V8 < x.length + 1 from by
              rcases h9 : (K y).wh with _ | v
              · simp [ndV, ndA, dpOf]
              · have h10 := T8.out.cDep (T8.out.whd y v HY.out.2.1 h9)
                unfold dpOf
                simp only [ndV, ndA, h10]
                have h11 := HY.out.2.2
                rw [h9] at h11
                rcases h11 with ⟨q, _⟩ | ⟨v', q1, q2, _⟩
                · cases q
                · cases q1
                  have := q2.length_le
                  rw [List.length_dropLast] at this
                  simp; omega)
            simp only [ndV, ndA] at cb1
            clear lx
            gi_wp2
            refine ⟨by rw [HLI.out]; exact ⟨(K y).wh, x.dropLast, _, rfl, rfl, PU.out.1, WN.out, XZ.out.1, HY.out.2.2, XZ.out.2, K8.out⟩, ?_⟩
            exact DEC.out
      · have JX := hide k4
        have TX := hide k5
        clear k4 k5
        refine hKK.out _ _ ST5.out (fun hS1 => ?_)
        clear hKK KK hS0
        refine wpAnyH_take (i := 9) (oi := _) (v := ?_) rfl (by kernel_rfl) (by kernel_rfl) (by kernel_rfl) (fun _ _ _ h => h) (Or.inl ⟨by rfl, ?_⟩) (by assumption) ?_
        rotate_left
        · intro wz hSw
          obtain ⟨hs0, hs1, hs2⟩ := hSw
          go_simp
          try with_reducible rfl
        dsimp only [Act.put, List.getElem_toArray, List.getElem_cons_zero, List.getElem_cons_succ]
        simp only [List.setIfInBounds_toArray, List.set_cons_zero, List.set_cons_succ]
        refine wpAnyH_done (by kernel_rfl) ?_ _
        clear hS1
        have KD5 := hide (keeps_le KZ.out SZ3.out.2.1)
        gi_wp2
        exact ⟨KD5.out, rfl, p', JX.out, TX.out⟩
    · rintro D' xs Z hD' ⟨hS1, hS2⟩ ⟨pre', cs, nx, hM, hF, hG⟩ hK
      have MM := hide hM
      have FF := hide hF
      have HK := hide hK
      have HDD := hide (show W.heap.size ≤ D' from Nat.le_trans SZ3.out.2.1 hD')
      have XL := hide (show xs.length = line.size by omega)
      have LG1 := hide (show (1 : Int) ≤ lg from by
        have h5 := (mayB_of HHu.out.ok).2.1
        have h6 := List.getElem_mem h5
        have := HHu.out.lg.1 _ h6
        have := ((mayB_of HHu.out.ok).1 _ h6).1
        omega)
      have TC := hide (fun V' (h : Below Z.heap.size Z V') => (callsIn_wide (n := 3)).1 (tell_in 3 (Nat.le_refl _) HA.out AP.out ((MM.out.below HA.out h).a) FF.out.wt (by have := FF.out.hn; have := FF.out.lm; omega) line.size (fun _ => M1.out.2.2.2 1 (by omega) (by exact_mod_cast LG1.out)) (by have := M1.out.1; omega) (by have := FF.out.hn; have := XL.out; omega) (Nat.le_refl _) hsz (fun q k hq hsd => by
        obtain ⟨s, hs1, hs2⟩ := hsd
        refine ⟨Nat.zero_le _, s, hs1, hs2, ?_⟩
        have := sd_len hs2 ((mayB_of HHu.out.ok).1 s (List.mem_of_getElem? hs1)).1
        have := XL.out
        omega) FF.out.tl (by have := AP.out.wb; have := lt_of_heap MM.out.a.w.h; have := h.size; omega) (by have := FF.out.bs; have := XL.out; omega)))
      have c5 := cell_row hM.x5 (i := 0) rfl
      have c2 := cell_row hM.x2 (i := 0) rfl
      have c4 := cell_row hM.x4 (i := 0) rfl
      clear hM hF hG hK hS1 hS2 hD' TL
      gi_wp2_with (gi_at_call 33; refine (callsIn_wide.2 (TC.out _ (Below.refl _ _))).mono ?_; rintro e9 V9 ⟨k1, k2⟩; have K1' := hide k1; have K2' := hide k2; obtain ⟨v9, rfl⟩ : ∃ v, e9 = .returned v := (by rcases k2 with ⟨q, _⟩ | ⟨q, _⟩ <;> exact ⟨_, q⟩); clear k1 k2)
      have HK9 := hide (K1'.out.same D' _ HDD.out HK.out rfl)
      refine ⟨by simp, .inl ⟨_, _, rfl, run_takeDeferred HK9.out, ?_⟩⟩
      refine ⟨.tuple #[], by simp [results, Tryd.results30, go_sem], ⟨_, rfl⟩, ?_⟩
      rcases K2'.out with ⟨_, _, pre2, cs2, r1, r2, r3, r4⟩ | ⟨_, _, p', r1, r2⟩
      · exact .inl ⟨pre2, ⟨r3, by have := FF.out.bs; have := XL.out; omega⟩, HA.out.own.putObj _ r1.j HDD.out HK9.out rfl⟩
      · exact .inr ⟨p', r2, HA.out.ownx.putObj _ r1 HDD.out HK9.out rfl⟩
    · rintro D' c pre Z hD' hSp ⟨rfl, p', hJ, hT⟩ hK
      have HK := hide hK
      have HDD := hide (show W.heap.size ≤ D' from Nat.le_trans SZ3.out.2.1 hD')
      have HJ := hide hJ
      have HT := hide hT
      clear hK hJ hT hD' hSp TL
      gi_wp2
      refine ⟨by simp, .inl ⟨_, _, rfl, run_takeDeferred HK.out, ?_⟩⟩
      exact ⟨.tuple #[], by simp [results, Tryd.results30, go_sem], ⟨_, rfl⟩, .inr ⟨p', HT.out, HA.out.ownx.putObj _ HJ.out HDD.out HK.out rfl⟩⟩)
  refine (wpIn_wide (n := nn)).2 ?_
  refine wp_mono (Q := fun e a w => e = .normal ∧ K1 a w) ?_ (fun e a w h => by obtain ⟨rfl, h⟩ := h; exact h)
  refine wp_region_held_drew (S := fun w' => w'.cell? ⟨B1, 0, none⟩ = some (.pointer (some ⟨hb, 0, none⟩)) ∧ w'.cell? ⟨hb, 2, none⟩ = some (.int .i64 lg) ∧ w'.cell? ⟨B2, 0, none⟩ = some (.string line)) (by kernel_rfl) (SK.out _ (Below.refl _ _).drew) ?_
  intro hS0
  refine wpAnyH_take (i := 0) (oi := _) (v := ?_) rfl (by kernel_rfl) (by kernel_rfl) (by kernel_rfl) (fun _ _ _ h => nomatch h.1) (Or.inl ⟨by rfl, ?_⟩) (by assumption) ?_
  rotate_left
  · intro wz hSw
    obtain ⟨hs0, hs1, hs2⟩ := hSw
    go_simp
    try with_reducible rfl
  dsimp only [Act.put, List.getElem_toArray, List.getElem_cons_zero, List.getElem_cons_succ]
  simp only [List.setIfInBounds_toArray, List.set_cons_zero, List.set_cons_succ]
  refine wpAnyH_take (i := 1) (oi := _) (v := ?_) rfl (by kernel_rfl) (by kernel_rfl) (by kernel_rfl) (fun _ _ _ h => nomatch h.1) (Or.inl ⟨by rfl, ?_⟩) (by assumption) ?_
  rotate_left
  · intro wz hSw
    obtain ⟨hs0, hs1, hs2⟩ := hSw
    go_simp
    try with_reducible rfl
  dsimp only [Act.put, List.getElem_toArray, List.getElem_cons_zero, List.getElem_cons_succ]
  simp only [List.setIfInBounds_toArray, List.set_cons_zero, List.set_cons_succ]
  refine wpAnyH_take (i := 2) (oi := _) (v := ?_) rfl (by kernel_rfl) (by kernel_rfl) (by kernel_rfl) (fun _ _ _ h => nomatch h.1) (Or.inl ⟨by rfl, ?_⟩) (by assumption) ?_
  rotate_left
  · intro wz hSw
    obtain ⟨hs0, hs1, hs2⟩ := hSw
    go_simp
    try with_reducible rfl
  dsimp only [Act.put, List.getElem_toArray, List.getElem_cons_zero, List.getElem_cons_succ]
  simp only [List.setIfInBounds_toArray, List.set_cons_zero, List.set_cons_succ]
  refine wpAnyH_take (i := 3) (oi := _) (v := ?_) rfl (by kernel_rfl) (by kernel_rfl) (by kernel_rfl) (fun _ _ _ h => nomatch h.1) (Or.inl ⟨by rfl, ?_⟩) (by assumption) ?_
  rotate_left
  · intro wz hSw
    obtain ⟨hs0, hs1, hs2⟩ := hSw
    go_simp
    try with_reducible rfl
  dsimp only [Act.put, List.getElem_toArray, List.getElem_cons_zero, List.getElem_cons_succ]
  simp only [List.setIfInBounds_toArray, List.set_cons_zero, List.set_cons_succ]
  refine wpAnyH_take (i := 4) (oi := _) (v := ?_) rfl (by kernel_rfl) (by kernel_rfl) (by kernel_rfl) (fun _ _ _ h => nomatch h.1) (Or.inl ⟨by rfl, ?_⟩) (by assumption) ?_
  rotate_left
  · intro wz hSw
    obtain ⟨hs0, hs1, hs2⟩ := hSw
    go_simp
    try with_reducible rfl
  dsimp only [Act.put, List.getElem_toArray, List.getElem_cons_zero, List.getElem_cons_succ]
  simp only [List.setIfInBounds_toArray, List.set_cons_zero, List.set_cons_succ]
  refine wpAnyH_take (i := 5) (oi := _) (v := ?_) rfl (by kernel_rfl) (by kernel_rfl) (by kernel_rfl) (fun _ _ _ h => nomatch h.1) (Or.inl ⟨by rfl, ?_⟩) (by assumption) ?_
  rotate_left
  · intro wz hSw
    obtain ⟨hs0, hs1, hs2⟩ := hSw
    go_simp
    try with_reducible rfl
  dsimp only [Act.put, List.getElem_toArray, List.getElem_cons_zero, List.getElem_cons_succ]
  simp only [List.setIfInBounds_toArray, List.set_cons_zero, List.set_cons_succ]
  refine wpAnyH_take (i := 6) (oi := _) (v := ?_) rfl (by kernel_rfl) (by kernel_rfl) (by kernel_rfl) (fun _ _ _ h => nomatch h.1) (Or.inl ⟨by rfl, ?_⟩) (by assumption) ?_
  rotate_left
  · intro wz hSw
    obtain ⟨hs0, hs1, hs2⟩ := hSw
    go_simp
    try with_reducible rfl
  dsimp only [Act.put, List.getElem_toArray, List.getElem_cons_zero, List.getElem_cons_succ]
  simp only [List.setIfInBounds_toArray, List.set_cons_zero, List.set_cons_succ]
  refine wpAnyH_ready (rs := [7, 8]) (by kernel_rfl) (by simp) ?_
  refine AllReadyH.cons rfl (fun KK hKK => ?_) (AllReadyH.cons rfl (fun KK hKK => ?_) AllReadyH.nil)
  · go_simp
    rw [← hm]
    go_at_call 32
    refine (newWaiting_c m (by have := M1.out.1; omega) V.drew).mono ?_
    rintro e W3 ⟨wb, cb, rfl, w1, w2, w3, w4⟩
    have U3 := hide (show Below V.heap.size V W3 from chain (Below.refl _ _).drew w4 (Nat.le_refl _))
    refine hKK.out _ _ (SK.out _ U3.out) (fun hS1 => ?_)
    clear hKK KK hS1
    refine wpAnyH_ready (rs := [8]) (by kernel_rfl) (by simp) ?_
    refine AllReadyH.cons rfl (fun KK hKK => ?_) AllReadyH.nil
    go_simp
    have U4 := hide (show Below V.heap.size V (W3.alloc (.cells #[.pointer none] 82)) from chain U3.out ((Below.refl _ _).alloc (Nat.le_refl _) _) (Nat.le_refl _))
    refine hKK.out _ _ (SK.out _ U4.out) (fun hS1 => ?_)
    clear hKK KK hS1
    refine wpAnyH_ready (rs := [9]) (by kernel_rfl) (by simp) ?_
    refine AllReadyH.cons rfl (fun KK hKK => ?_) AllReadyH.nil
    go_simp
    have U5 := hide (show Below V.heap.size V (W3.alloc (.cells #[.pointer (some ⟨wb, 0, none⟩)] 82)) from chain U3.out ((Below.refl _ _).alloc (Nat.le_refl _) _) (Nat.le_refl _))
    refine hKK.out _ _ (SK.out _ U5.out) (fun hS1 => ?_)
    clear hKK KK hS1
    refine wpAnyH_done (by kernel_rfl) ?_ _
    refine ⟨rfl, ?_⟩
    try rw [← hm]
    try dsimp only [Act.put]
    exact REST.out wb cb W3.heap.size _ U5.out (w1.below ((Below.refl _ _).alloc (Nat.le_refl _) _)) w2 w3 U3.out.size (alloc_new _ _)
  · go_simp
    have U2 := hide (show Below V.heap.size V (V.alloc (.cells #[.pointer none] 82)).drew from ((Below.refl _ _).alloc (Nat.le_refl _) _).drew)
    refine hKK.out _ _ (SK.out _ U2.out) (fun hS1 => ?_)
    clear hKK KK hS1
    refine wpAnyH_ready (rs := [7]) (by kernel_rfl) (by simp) ?_
    refine AllReadyH.cons rfl (fun KK hKK => ?_) AllReadyH.nil
    go_simp
    rw [← hm]
    go_at_call 32
    refine (newWaiting_c m (by have := M1.out.1; omega) _).mono ?_
    rintro e W3 ⟨wb, cb, rfl, w1, w2, w3, w4⟩
    have U3 := hide (show Below V.heap.size V W3 from chain U2.out w4 (by simp))
    refine hKK.out _ _ (SK.out _ U3.out) (fun hS1 => ?_)
    clear hKK KK hS1
    refine wpAnyH_ready (rs := [9]) (by kernel_rfl) (by simp) ?_
    refine AllReadyH.cons rfl (fun KK hKK => ?_) AllReadyH.nil
    have xx := (w4.block _ (by simp)).trans (show ((V.alloc (.cells #[.pointer none] 82)).drew).heap[V.heap.size]? = _ from alloc_new V _)
    have cx := cell_row xx (i := 0) rfl
    have fx := frz_row xx 0
    go_simp
    have U5 := hide (show Below V.heap.size V (W3.setCell ⟨V.heap.size, 0, none⟩ (.pointer (some ⟨wb, 0, none⟩))) from U3.out.setCell (Nat.le_refl _) _)
    refine hKK.out _ _ (SK.out _ U5.out) (fun hS1 => ?_)
    clear hKK KK hS1
    refine wpAnyH_done (by kernel_rfl) ?_ _
    refine ⟨rfl, ?_⟩
    try rw [← hm]
    try dsimp only [Act.put]
    have hlt : V.heap.size < wb := by simp at w2; omega
    have hlt2 : V.heap.size < cb := by simp at w3; omega
    exact REST.out wb cb V.heap.size _ U5.out ⟨(Below.heap_setCell _ _ _ _ (Nat.ne_of_gt hlt)).trans w1.h, (Below.heap_setCell _ _ _ _ (Nat.ne_of_gt hlt2)).trans w1.c, w1.len⟩ (by omega) (by omega) (Nat.le_refl _) ((heap_set_in xx 0 _).trans (by simp))
end Go.Proofs.YtaikcnoiaaiopaaDoor
