/-
  Parts of the proof.
-/
import Derived.Test.YtaikcnoiaaiopaaDoorPlaysProofB11
import Derived.Maps.OwnIn
set_option linter.unusedSimpArgs false
namespace Go.Proofs.YtaikcnoiaaiopaaDoor
open Go Go.RowKit Go.Shelf
attribute [local go_sem] Oper.semAt_some
theorem size_np : (Tryd.prog.info? 57).map (fun i => (i.zero, i.size, i.bytes)) = some (some (.pointer none), 1, 8) := by kernel_rfl
theorem und_nps : Tryd.prog.underlying 90 = some (.slice 57) := by kernel_rfl
def tyD (t : TypeId) : Prop := t = 57 ∨ t = 90
def keepD (n0 : Nat) (k : Nat) (t : TypeId) : Prop := n0 ≤ k ∧ tyD t
def NL (T : Pt) (W : World) (n0 : Nat) (v : Value) (L : List (List Nat)) : Prop := W.ownsRow n0 57 1 v L.length (L.map (nodeP T))
def KpD (n0 : Nat) (W W' : World) : Prop := ∀ (k : Nat) (cur : Array Value) (t : TypeId), n0 ≤ k → tyD t → W.heap[k]? = some (.cells cur t (0, 0)) → W'.heap[k]? = some (.cells cur t (0, 0))
theorem KpD.keep {n0 : Nat} {W W' : World} (h : TKeep (keepD n0) W W') : KpD n0 W W' := fun k cur t hk ht hc => h.same k cur t (0, 0) ⟨hk, ht⟩ hc
theorem KpD.below {n0 : Nat} {W W' : World} (h : Below W.heap.size W W') : KpD n0 W W' := fun _ _ _ _ _ hc => (h.block _ (lt_of_heap hc)).trans hc
theorem KpD.grown {n0 B : Nat} {W W' : World} {row : Option Nat} (hg : W.grownBy W' row) (hr : ∀ r, row = some r → B ≤ r ∧ ∃ o : Obj, W.heap[r]? = some o ∧ o.isCells = false) : KpD n0 W W' := fun _ _ _ _ _ hc => cells_kept hg hr hc
theorem KpD.ft {n0 base : Nat} {τ : TypeId → Prop} {W W' : World} (h : FT base τ W W') (ht : ∀ t, tyD t → ¬ τ t) : KpD n0 W W' := fun k cur t _ h2 hc => h.keep hc (fun c t' e => by injection e with _ e _; exact e ▸ ht t h2)
theorem NL.keep {T : Pt} {W W' : World} {n0 m0 : Nat} {v : Value} {L : List (List Nat)} (h : NL T W m0 v L) (hm : n0 ≤ m0) (hk : KpD n0 W W') : NL T W' m0 v L := by
  obtain ⟨h1, h2 | ⟨g, cap, cur, q1, q2, q3, q4⟩⟩ := h
  · exact ⟨h1, .inl h2⟩
  · exact ⟨h1, .inr ⟨g, cap, cur, q1, q2, hk g cur _ (Nat.le_trans hm q2) (.inl rfl) q3, q4⟩⟩
theorem FT.grow {n0 : Nat} {W W' : World} {v : Value} {n : Nat} {xs : List Value} (hb : n0 ≤ W.heap.size) (ho : W.ownsRow n0 57 1 v n xs) (hg : W.grownBy W' v.ownBlock) : FT n0 tyD W W' := by
  refine ⟨⟨hg.os, hg.tape, hg.output, hg.size, fun k hk hs => hg.block k hk (fun e => hs ?_)⟩, hb⟩
  obtain ⟨h1, _, cur, h2⟩ := ownsRow_at ho e.symm
  exact ⟨h1, cur, _, h2, .inl rfl⟩
structure BdI (T : Pt) (N0 n1 DB : Nat) (lv : Value) (L M : List (List Nat)) (W : World) : Prop where
  lvl : NL T W N0 lv L
  old : ∀ g, lv.ownBlock = some g → g < n1
  dp : ∃ dv, W.heap[DB]? = some (.cells #[dv] 90 (0, 0)) ∧ NL T W n1 dv M
  le : N0 ≤ n1 ∧ n1 ≤ DB ∧ n1 ≤ W.heap.size
theorem BdI.keep {T : Pt} {N0 n1 DB : Nat} {lv : Value} {L M : List (List Nat)} {W W' : World} (h : BdI T N0 n1 DB lv L M W) (hk : KpD N0 W W') (hs : W.heap.size ≤ W'.heap.size) : BdI T N0 n1 DB lv L M W' := by
  obtain ⟨dv, h1, h2⟩ := h.dp
  exact ⟨h.lvl.keep (Nat.le_refl _) hk, h.old, ⟨dv, hk _ _ _ (by have := h.le; omega) (.inr rfl) h1, h2.keep h.le.1 hk⟩, h.le.1, h.le.2.1, Nat.le_trans h.le.2.2 hs⟩
def encD (T : Pt) (r : List Nat) : Array Value := #[nodeP T r]
def ToldD (D : List Nat → Prop) (pre : List (List Nat)) (r : List Nat) (V0 V : World) : Prop := Below V0.heap.size V0 V ∧ D r ∧ ∀ x, D x → x.length ≤ r.length → x = [] ∨ ∃ b p, p ∈ pre ∧ x = b :: p
set_option maxHeartbeats 1000000 in
theorem byDepth_c (T : Pt) (w : World) :
    Calls Tryd.prog 24 #[nodeP T []] w fun e w' => e = .returned (.func (.func 38) #[] #[.pointer (some ⟨w.heap.size, 0, none⟩)]) ∧ w' = w.alloc (.cells #[nodeP T []] 57) := by
  go_enter Tryd.func24, Tryd.ntmps24
  go_wp2
  go_ret
  exact ⟨rfl, rfl⟩
def leftD (v : Value) (w : World) : Nat :=
  match v with
  | .slice (some a) n _ => if n = 0 then 0 else match w.cell? a with
    | some (.pointer (some b)) => match w.cell? (b.add 16) with
      | some (.int _ d) => 1 + (1001 - d.toNat)
      | _ => 0
    | _ => 0
  | _ => 0
theorem leftD_is {base : Nat} {W : World} {T : Pt} {D : List Nat → Prop} {R : List Nat → Nat → Prop} {K : List Nat → Kn} (h : TrM base W T D R K) {n0 : Nat} {v : Value} {L : List (List Nat)} {d : Nat} (hv : NL T W n0 v L) (hl : IsLv D d L) : leftD v W = if L = [] then 0 else 1 + (1001 - d) := by
  by_cases hL : L = []
  · subst hL
    rw [if_pos rfl]
    obtain ⟨q, c, rfl⟩ := ownsRow_shape hv
    cases q <;> simp [leftD]
  · rw [if_neg hL]
    have hpos : 0 < L.length := List.length_pos_iff.2 hL
    obtain ⟨g, c, rfl⟩ := ownsRow_some hv hpos
    obtain ⟨x, hx⟩ : ∃ x, L[0]? = some x := ⟨_, List.getElem?_eq_getElem hpos⟩
    obtain ⟨h1, h2⟩ := (hl.mem x).1 (List.mem_of_getElem? hx)
    have c1 : W.cell? ⟨g, 0, none⟩ = some (nodeP T x) := ownsRow_cell hv (j := 0) (by rw [List.getElem?_map, hx]; rfl)
    have c2 := h.cDep h1
    have hne : ¬ L.length = 0 := by omega
    simp only [leftD, hne, if_false, c1]
    rw [show (⟨T.nb x, 0, none⟩ : Addr).add 16 = ⟨T.nb x, 16, none⟩ from rfl, c2]
    simp [h2]
def tO (f : Nat → Value) (y pb lv : Value) : Array Value := #[y, pb, f 2, lv, f 4, f 5, f 6, f 7, f 8, f 9, f 10, f 11, f 12, f 13, f 14, f 15, f 16, f 17, f 18, f 19, f 20, f 21, f 22, f 23, f 24, f 25, f 26, f 27, f 28, f 29, f 30, f 31, f 32, f 33]
def tI (f : Nat → Value) (y pb lv : Value) (db len k : Nat) : Array Value := #[y, pb, f 2, lv, .pointer (some ⟨db, 0, none⟩), f 5, f 6, f 7, f 8, f 9, f 10, f 11, f 12, f 13, lv, .int .i64 (len : Int), .int .i64 (k : Int), f 17, f 18, f 19, f 20, f 21, f 22, f 23, f 24, f 25, f 26, f 27, f 28, f 29, f 30, f 31, f 32, f 33]
def mkD (D : Nat) : Deferred := { target := .collected D, args := #[] }
def MK (N0 hi : Nat) (Ds : List Nat) (V : World) : Prop := Ds.Nodup ∧ ∀ D ∈ Ds, N0 ≤ D ∧ D < hi ∧ V.heap[D]? = some (.deferred (some []))
theorem MK.keeps {N0 hi hi' : Nat} {Ds : List Nat} {A B : World} (h : MK N0 hi Ds A) (hk : KeepsFrom N0 A B) (hh : hi ≤ hi') : MK N0 hi' Ds B := ⟨h.1, fun D hD => by obtain ⟨h1, h2, h3⟩ := h.2 D hD; exact ⟨h1, by omega, hk.same D _ h1 h3 rfl⟩⟩
theorem MK.grown {N0 hi B : Nat} {Ds : List Nat} {W W' : World} {row : Option Nat} (h : MK N0 hi Ds W) (hB : hi ≤ B) (hg : W.grownBy W' row) (hr : ∀ r, row = some r → B ≤ r ∧ ∃ o : Obj, W.heap[r]? = some o ∧ o.isCells = false) : MK N0 hi Ds W' := ⟨h.1, fun D hD => by
  obtain ⟨h1, h2, h3⟩ := h.2 D hD
  exact ⟨h1, h2, (hg.block D (Array.getElem?_eq_some_iff.1 h3).1 (fun e => by have := (hr D e.symm).1; omega)).trans h3⟩⟩
theorem leaves_marks {F : Fence} {n : Nat} {P : Program} {fn : Func} {tmps : Array Value} {R : Ending → World → Prop} (Q : World → Prop) : ∀ (Ds : List Nat) (w : World), Ds.Nodup → (∀ D ∈ Ds, w.heap[D]? = some (.deferred (some []))) → (∀ w D, D ∈ Ds → Q w → w.heap[D]? = some (.deferred (some [])) → Q (w.putObj D (.deferred none))) → Q w → (∀ w', Q w' → LeavesInM F n P fn tmps R [] .returning w') → LeavesInM F n P fn tmps R (Ds.map mkD) .returning w
  | [], w, _, _, _, hq, hf => hf w hq
  | D :: Ds, w, hn, hh, hQ, hq, hf => by
    refine ⟨by simp, .inl ⟨D, _, rfl, run_takeDeferred (hh D (by simp)), ?_⟩⟩
    have hn' := List.nodup_cons.1 hn
    refine leaves_marks Q Ds _ hn'.2 (fun E hE => (World.putObj_heap_other (fun e => hn'.1 (by rw [← e]; exact hE))).trans (hh E (by simp [hE]))) (fun w E hE => hQ w E (by simp [hE])) (hQ w D (by simp) hq (hh D (by simp))) hf
structure InI (J : List (List Nat) → World → Prop) (T : Pt) (D : List Nat → Prop) (N0 n1 : Nat) (lv : Value) (L : List (List Nat)) (k : Nat) (x : List Nat) (P : List (List Nat)) (Ds : List Nat) (hi : Nat) (pre : List Nat) (Z : World) : Prop where
  j : J P Z
  i : BdI T N0 n1 n1 lv L (nextL D (L.take k) ++ pre.map (· :: x)) Z
  m : MK N0 hi Ds Z
section
variable {J : List (List Nat) → World → Prop} {T : Pt} {D : List Nat → Prop} {N0 n1 : Nat} {lv : Value} {L : List (List Nat)} {k : Nat} {x : List Nat} {P : List (List Nat)} {Ds : List Nat} {hi : Nat}
theorem inI_own (hJ : OwnFrom N0 J) (hs : N0 ≤ hi) : OwnFrom hi (InI J T D N0 n1 lv L k x P Ds hi) := fun _ A A' row h hg hrow =>
  ⟨ownFrom_le hJ hs _ A A' row h.j hg hrow, h.i.keep (KpD.grown hg hrow) hg.size, h.m.grown (Nat.le_refl _) hg hrow⟩
theorem inI_below (hJ : OwnFrom N0 J) {pre : List Nat} {A B : World} (h : InI J T D N0 n1 lv L k x P Ds hi pre A) (hb : Below A.heap.size A B) : InI J T D N0 n1 lv L k x P Ds hi pre B :=
  ⟨ownFrom_below hJ h.j hb, h.i.keep (KpD.below hb) hb.size, h.m.keeps (keeps_below hb) (Nat.le_refl _)⟩
theorem inI_ft (hF : ∀ pre A B, J pre A → FT N0 tyD A B → J pre B) (hs : N0 ≤ hi) {pre : List Nat} {A B : World} (h : InI J T D N0 n1 lv L k x P Ds hi pre A) (hb : FT hi (fun _ => False) A B) : InI J T D N0 n1 lv L k x P Ds hi pre B :=
  ⟨hF _ _ _ h.j (FT.mono (hb.lower hs) (fun _ q => q.elim)), h.i.keep (KpD.ft hb (fun _ _ q => q)) hb.size, h.m.keeps (hb.keeps _) (Nat.le_refl _)⟩
end
theorem inI_put {J : List (List Nat) → World → Prop} {T : Pt} {D : List Nat → Prop} {N0 n1 : Nat} {lv : Value} {L : List (List Nat)} {k b : Nat} {x : List Nat} {P M : List (List Nat)} {Ds : List Nat} {hi m0 : Nat} {pre : List Nat} {Z Z1 w6 : World} {dv v' : Value}
    (hF : ∀ pre A B, J pre A → FT N0 tyD A B → J pre B) (h : InI J T D N0 n1 lv L k x P Ds hi pre Z) (hM : M = nextL D (L.take k) ++ pre.map (· :: x)) (fA : FT N0 tyD Z Z1) (iA : BdI T N0 n1 n1 lv L M Z1)
    (y7 : Z1.ownsRow n1 57 1 dv M.length (M.map (nodeP T))) (o6 : w6.ownsRow n1 57 1 v' (M.length + 1) (M.map (nodeP T) ++ [nodeP T (b :: x)])) (g6 : Z1.grownBy w6 dv.ownBlock) (k9 : w6.heap[n1]? = some (.cells #[dv] 90 (0, 0))) (hZ : N0 ≤ Z.heap.size) :
    KeepsFrom m0 Z (w6.setCell ⟨n1, 0, none⟩ v') ∧ TKeep keepK Z (w6.setCell ⟨n1, 0, none⟩ v') ∧ InI J T D N0 n1 lv L k x P Ds hi (pre ++ [b]) (w6.setCell ⟨n1, 0, none⟩ v') := by
  have h1 : N0 ≤ Z1.heap.size := Nat.le_trans hZ fA.size
  have h2 : N0 ≤ w6.heap.size := Nat.le_trans h1 g6.size
  have F := (fA.trans (FT.grow h1 (ownsRow_mono y7 iA.le.1) g6)).trans (FT.set h2 k9 (.inr rfl) iA.le.1 v' (j := 0))
  have FS : Fr (fun k => k = n1) w6 (w6.setCell ⟨n1, 0, none⟩ v') := (Fr.refl (fun k => k = n1) w6).setCell (p := ⟨n1, 0, none⟩) rfl v'
  have lv6 : NL T w6 N0 lv L := by
    obtain ⟨q1, q2 | ⟨g, cap, cur, r1, r2, r3, r4⟩⟩ := iA.lvl
    · exact ⟨q1, .inl q2⟩
    · refine ⟨q1, .inr ⟨g, cap, cur, r1, r2, (g6.block g (lt_of_heap r3) (fun e => ?_)).trans r3, r4⟩⟩
      have h5 := iA.old g (by rw [r1]; rfl)
      have h6 := (ownsRow_at y7 e.symm).1
      omega
  refine ⟨F.keeps _, F.tkeep (fun _ t ht he => by rw [show t = _ from ht] at he; rcases he with he | he <;> exact absurd he (by decide)), hF _ _ _ h.j F, ⟨ownsRow_fr lv6 FS (fun z hz e => ownsRow_not lv6 k9 (by decide) (e ▸ hz)), iA.old, ⟨v', (heap_set_in k9 0 v').trans (by simp), ?_⟩, iA.le.1, iA.le.2.1, Nat.le_trans iA.le.2.2 (Nat.le_trans g6.size FS.size)⟩, h.m.keeps (F.keeps _) (Nat.le_refl _)⟩
  have e1 : nextL D (L.take k) ++ (pre ++ [b]).map (· :: x) = M ++ [b :: x] := by rw [hM, List.map_append]; simp
  rw [e1]
  have h7 := ownsRow_fr o6 FS (fun z hz e => ownsRow_not o6 k9 (by decide) (e ▸ hz))
  unfold NL
  rw [List.length_append, List.map_append]
  exact h7
set_option maxRecDepth 100000 in
set_option maxHeartbeats 4000000 in
theorem bd_tells (n : Nat) (hn : 3 ≤ n) {base : Nat} {w : World} {T : Pt} {D : List Nat → Prop} {R : List Nat → Nat → Prop} {B : Nat} {Ws : List (List Nat)} (hB : w.heap[B]? = some (.cells #[nodeP T []] 57 (0, 0))) (hD : ∀ x, D x ↔ DW Ws x) (hW : Ws.length ≤ 100) :
    Tells6 n Tryd.prog 38 #[.pointer (some ⟨B, 0, none⟩)] (encD T) (fun V => ∃ K, TrM base V T D R K) tyD (keepD w.heap.size) (ToldD D) (fun xs => ∀ x, D x → x ∈ xs) (fun _ => True) w := by
  intro l J Jx J' W hWb hJ hJx hJ' hInv hFT hT hY h0
  have hfn : ∀ f, Fence.wide.fn f := fun _ => trivial
  have h1n : 1 ≤ n := by omega
  obtain ⟨K0, hK0⟩ := hInv _ _ h0
  have hcl := hide hK0.clo
  have hby := hide (fun b r h => (hK0.byte b r h).1)
  have hfw := hide hK0.few
  have c0 := cell_row ((hWb.block B (lt_of_heap hB)).trans hB) (i := 0) rfl
  have HJ := hide hJ
  have HJX := hide hJx
  have J0 := hide h0
  have HT := hide hT
  have HFT := hide hFT
  have HINV := hide hInv
  have HWB := hide hWb
  have HD := hide hD
  clear hB hWb hJ h0 hT hFT hInv hJx hJ' hK0 hD
  refine callsIn_of_wp_marks Tryd.func38 rfl trivial ?_ rfl
  simp only [Tryd.ntmps38, List.size_toArray, List.length_cons, List.length_nil, Nat.reduceAdd, Nat.reduceSub, Array.replicate_succ, Array.replicate_zero, List.push_toArray, List.append_toArray, List.nil_append, List.cons_append]
  have hz1 : (W.alloc (.cells #[nodeP T []] 57)).heap.size = W.heap.size + 1 := by simp
  have hX1 := World.alloc_heap_new W (.cells #[nodeP T []] 57)
  gi_wp2
  have B1 : Below W.heap.size W (W.alloc (.cells #[nodeP T []] 57)) := (Below.refl _ _).alloc (Nat.le_refl _) _
  have J1 := hide (ownFrom_below HJ.out J0.out B1)
  have NL1 := hide (show NL T (W.alloc (.cells #[nodeP T []] 57)) W.heap.size (.slice (some ⟨W.heap.size, 0, none⟩) 1 1) [[]] from ⟨rfl, .inr ⟨W.heap.size, 1, _, rfl, Nat.le_refl _, hX1, Nat.le_refl _, by unfold maxLen; omega, rfl, rfl⟩⟩)
  have Z1 := hide hz1
  clear hX1 hz1 B1 J0 c0
  generalize (W.alloc (.cells #[nodeP T []] 57)) = w1 at J1 NL1 Z1 ⊢
  refine wpIn_loop (fun a V => ∃ (lv : Value) (d : Nat) (L pre : List (List Nat)) (Ds : List Nat), a.tmps = tO (fun i => a.tmps.getD i undef) (.func (.yield l) #[] #[]) (.pointer (some ⟨B, 0, none⟩)) lv ∧ a.defers = Ds.map mkD ∧ NL T V W.heap.size lv L ∧ IsLv D d L ∧ J pre V ∧ (∀ x, D x → x.length < d → x ∈ pre) ∧ MK W.heap.size V.heap.size Ds V ∧ W.heap.size ≤ V.heap.size) (fun a V => leftD (a.tmps.getD 3 undef) V) ?_ ?_
  · exact ⟨_, 0, [[]], [], [], rfl, rfl, NL1.out, IsLv.root hcl.out, J1.out, fun x _ h => absurd h (Nat.not_lt_zero _), ⟨List.nodup_nil, fun D hD => by simp at hD⟩, by have := Z1.out; omega⟩
  · clear J1 NL1 Z1
    rintro ⟨tm, ds⟩ V ⟨lv, d, L, pre, Ds, ha, hd, hN, hL, hj, hpre, hM, hsz⟩
    dsimp only at ha hd
    generalize (fun i => tm.getD i undef) = f at ha
    subst ha hd
    have HN := hide hN
    have HL := hide hL
    have J1 := hide hj
    have HP := hide hpre
    have HM := hide hM
    have SZ := hide hsz
    obtain ⟨q, c, rfl⟩ := ownsRow_shape hN
    clear hN hL hj hpre hM hsz
    simp only [show (tO f (.func (.yield l) #[] #[]) (.pointer (some ⟨B, 0, none⟩)) (.slice q L.length c)).getD 3 undef = .slice q L.length c from rfl]
    unfold tO
    by_cases hpos : 0 < L.length
    · have i0 : (0 : Int) < (L.length : Int) := by omega
      have LFT := hide (show leftD (.slice q L.length c) V = 1 + (1001 - d) by
        obtain ⟨K1, hK1⟩ := HINV.out _ _ J1.out
        rw [leftD_is hK1 HN.out HL.out, if_neg (fun e => by rw [e] at hpos; simp at hpos)])
      have hzd : (V.alloc (.cells #[.slice none 0 0] 90)).heap.size = V.heap.size + 1 := by simp
      have B1 : Below V.heap.size V (V.alloc (.cells #[.slice none 0 0] 90)) := (Below.refl _ _).alloc (Nat.le_refl _) _
      have X1 := World.alloc_heap_new V (.cells #[.slice none 0 0] 90)
      have I1 : Hid (BdI T W.heap.size V.heap.size V.heap.size (.slice q L.length c) L [] (V.alloc (.cells #[.slice none 0 0] 90))) := hide ⟨HN.out.keep (Nat.le_refl _) (KpD.below B1), fun g hg => (ownsRow_at HN.out hg).2.1, ⟨_, X1, ⟨rfl, .inl ⟨rfl, rfl⟩⟩⟩, SZ.out, Nat.le_refl _, by rw [hzd]; omega⟩
      have J2 := hide (ownFrom_below HJ.out J1.out B1)
      have M1 := hide (HM.out.keeps (keeps_below B1) B1.size)
      have Z1 := hide hzd
      clear B1 X1 hzd J1 HM
      gi_wp2
      generalize (V.alloc (.cells #[.slice none 0 0] 90)) = w1 at I1 J2 M1 Z1 ⊢
      refine wpIn_loop (fun a U => ∃ (k : Nat) (pre2 : List (List Nat)) (Ds : List Nat), a.tmps = tI (fun i => a.tmps.getD i undef) (.func (.yield l) #[] #[]) (.pointer (some ⟨B, 0, none⟩)) (.slice q L.length c) V.heap.size L.length k ∧ a.defers = Ds.map mkD ∧ k ≤ L.length ∧ pre2 = pre ++ L.take k ∧ BdI T W.heap.size V.heap.size V.heap.size (.slice q L.length c) L (nextL D (L.take k)) U ∧ J pre2 U ∧ MK W.heap.size U.heap.size Ds U) (fun a _ => L.length - (intOf (a.tmps.getD 16 undef)).toNat) ?_ ?_
      · exact ⟨0, _, Ds, rfl, rfl, by omega, rfl, by simpa [nextL] using I1.out, by simpa using J2.out, M1.out⟩
      · clear I1 J2 M1 f Ds
        rintro ⟨tm, ds⟩ U ⟨k, pre2, Ds, ha, hd, hk, hp2, hI, hj, hM⟩
        dsimp only at ha hd
        generalize (fun i => tm.getD i undef) = f at ha
        subst ha hd hp2
        have I1 := hide hI
        have J1 := hide hj
        have HM := hide hM
        clear hI hj hM
        simp only [show ∀ db len k : Nat, (tI f (.func (.yield l) #[] #[]) (.pointer (some ⟨B, 0, none⟩)) (.slice q L.length c) db len k).getD 16 undef = .int .i64 (k : Int) from fun _ _ _ => rfl]
        unfold tI
        by_cases hlt : k < L.length
        · have j0 : (k : Int) < (L.length : Int) := by omega
          have j00 : (0 : Int) ≤ (k : Int) := by omega
          obtain ⟨x, hx⟩ : ∃ x, L[k]? = some x := ⟨_, List.getElem?_eq_getElem hlt⟩
          have hxm := (HL.out.mem x).1 (List.mem_of_getElem? hx)
          obtain ⟨g, c2, hsl⟩ := ownsRow_some I1.out.lvl hpos
          have HX := hide hx
          have HXM := hide hxm
          have cx : U.cell? ⟨g, k, none⟩ = some (nodeP T x) := by
            have h5 := I1.out.lvl
            rw [hsl] at h5
            exact ownsRow_cell h5 (j := k) (by rw [List.getElem?_map, hx]; rfl)
          clear hx hxm
          cases hsl
          have LV2 := hide (HL.out.next hcl.out hby.out)
          have TD := hide (HT.out (pre ++ L.take k) x U U J1.out ⟨Below.refl _ _, HXM.out.1, fun y hy hl => by
            cases y with
            | nil => exact .inl rfl
            | cons b p => exact .inr ⟨b, p, List.mem_append.2 (.inl (HP.out p (hcl.out.up b p hy) (by have := HXM.out.2; simp only [List.length_cons] at hl; omega))), rfl⟩⟩)
          obtain ⟨fn, tmps, assign, body, hy, hR⟩ := hY _ _ _ TD.out
          simp only [encD] at hy
          have HR := hide hR
          clear hR
          gi_wp2
          refine HR.out.mono ?_
          rintro e W3 ⟨hkf, (⟨rfl, hJ3, hc3⟩ | ⟨rfl, hJx3⟩)⟩
          · have J3 := hide hJ3
            have I3 := hide (I1.out.keep (KpD.keep (hc3.mono (fun k t h => ⟨Nat.le_trans HWB.out.size h.1, h.2⟩))) hkf.size)
            have M3 := hide (HM.out.keeps hkf hkf.size)
            obtain ⟨K3, hK3⟩ := HINV.out _ _ hJ3
            have T3 := hide hK3
            clear hJ3 hkf hc3 hy HR TD hK3 cx I1 J1 HM
            have B4 : Below W3.heap.size W3 (W3.alloc (.cells #[nodeP T x] 57)) := (Below.refl _ _).alloc (Nat.le_refl _) _
            have X4 := hide (World.alloc_heap_new W3 (.cells #[nodeP T x] 57))
            have J4 := hide (ownFrom_below HJ.out J3.out B4)
            have I4 := hide (I3.out.keep (KpD.below B4) B4.size)
            have M4 := hide (M3.out.keeps (keeps_below B4) B4.size)
            have T4 := hide (T3.out.below B4)
            have S4 := hide (show W.heap.size ≤ (W3.alloc (.cells #[nodeP T x] 57)).heap.size from Nat.le_trans I4.out.le.1 I4.out.le.2.2)
            have NC := hide (fun W => nall_c T x W)
            clear B4 I3 J3 M3
            gi_wp2_with (gi_at_call 39; refine (callsIn_wide.2 (NC.out _)).mono ?_; rintro e w' ⟨rfl, rfl⟩)
            generalize (W3.alloc (.cells #[nodeP T x] 57)) = W4 at X4 J4 I4 M4 T4 S4 ⊢
            have TL := nall_tells (n - 1) (by omega) X4.out T4.out HXM.out.1
            refine range_told6 (α := Nat) (by omega : 1 ≤ n) (gf := 48) (lb := #[.pointer (some ⟨W3.heap.size, 0, none⟩)]) rfl (enters_of Tryd.func48 (by kernel_rfl) rfl) (encs := encK T x) (fun _ => rfl) TL
              (InI J T D W.heap.size V.heap.size (.slice (some ⟨g, 0, none⟩) L.length c) L k x (pre ++ L.take k ++ [x]) Ds W4.heap.size) (fun pre3 b Z => InI J T D W.heap.size V.heap.size (.slice (some ⟨g, 0, none⟩) L.length c) L k x (pre ++ L.take k ++ [x]) Ds W4.heap.size pre3 Z ∧ pre3 = kidsL D x b ∧ b < 256 ∧ D (b :: x)) (fun _ _ _ => False)
              (inI_own HJ.out S4.out) (fun pre3 b => ?_) (fun _ _ _ _ _ h _ _ => h) (fun _ _ _ => trivial) (fun pre3 A B' h hf => inI_ft HFT.out S4.out h hf) (fun pre3 b V0 V ht => CellsOnly.below ht.1) (fun pre3 b V0 V hi ht => ⟨inI_below HJ.out hi ht.1, ht.2⟩) ?_
              (fun b => { tmps := #[.func (.yield l) #[] #[], .pointer (some ⟨B, 0, none⟩), f 2, .slice (some ⟨g, 0, none⟩) L.length c, .pointer (some ⟨V.heap.size, 0, none⟩), f 5, nodeP T x, f 7, nodeP T (b :: x), f 9, f 10, f 11, f 12, f 13, .slice (some ⟨g, 0, none⟩) L.length c, .int .i64 (L.length : Int), .int .i64 (k : Int), .bool true, .pointer (some ⟨g, k, none⟩), nodeP T x, .func (.yield l) #[] #[], nodeP T x, .bool true, .bool false, nodeP T x, .func (.func 48) #[] #[.pointer (some ⟨W3.heap.size, 0, none⟩)], .int .u8 (b : Int), nodeP T (b :: x), f 28, f 29, f 30, f 31, f 32, f 33], defers := [] }) ?_ ?_ ?_ ?_
            · exact fun _ A A' row h hg hrow => ⟨inI_own HJ.out S4.out pre3 A A' row h.1 hg hrow, h.2⟩
            · exact ⟨J4.out, by simpa using I4.out, M4.out⟩
            · intro l' b Z K' hK
              simp only [encK]
              gi_wp2
              exact hK
            · rintro l' pre3 b Z ⟨hI, hpre, hb, hd⟩
              obtain ⟨M, hM⟩ : ∃ M, M = nextL D (L.take k) ++ pre3.map (· :: x) := ⟨_, rfl⟩
              have ML := hide (show M.length + 1 ≤ 100 by
                have h5 := (next_part HX.out hb hd).length_le
                rw [← hpre, ← hM, List.length_append, List.length_singleton] at h5
                have h6 := dw_few (Ws := Ws) (nextL_nodup hby.out HL.out.nd) (d + 1) (by omega) (fun r hr => by have := (LV2.out.mem r).1 hr; exact ⟨(HD.out r).1 this.1, this.2⟩)
                omega)
              have hII := hI.i
              rw [← hM] at hII
              obtain ⟨dv, hdv, hdl⟩ := hII.dp
              obtain ⟨q2, c2, rfl⟩ := ownsRow_shape hdl
              have HI := hide hI
              have HII := hide hII
              have HDL := hide hdl
              have HDV := hide hdv
              have HM2 := hide hM
              have hdbl := lt_of_heap hdv
              have N1 := hide (show V.heap.size ≤ Z.heap.size from hII.le.2.2)
              have N0 := hide (show W.heap.size ≤ Z.heap.size from Nat.le_trans hII.le.1 hII.le.2.2)
              clear hI hpre hM hII hdl
              obtain ⟨t0, hi, hz0, hz1, hz2⟩ := info_parts size_np
              have BA : Below Z.heap.size Z (Z.alloc (.cells #[nodeP T (b :: x)] 57)) := (Below.refl _ _).alloc (Nat.le_refl _) _
              have Y7 : Hid ((Z.alloc (.cells #[nodeP T (b :: x)] 57)).ownsRow V.heap.size 57 1 (.slice q2 M.length c2) M.length (M.map (nodeP T))) := World.ownsRow.alloc HDL.out _
              have HNEW : Hid (∀ j u, ([nodeP T (b :: x)] : List Value)[j]? = some u → (Z.alloc (.cells #[nodeP T (b :: x)] 57)).cell? ((⟨Z.heap.size, 0, none⟩ : Addr).add j) = some u) := cell_one_new Z (nodeP T (b :: x)) _
              have HB8 : Hid (V.heap.size ≤ (Z.alloc (.cells #[nodeP T (b :: x)] 57)).heap.size) := Nat.le_trans N1.out BA.size
              have HK9 : Hid ((Z.alloc (.cells #[nodeP T (b :: x)] 57)).heap[V.heap.size]? = some (.cells #[.slice q2 M.length c2] 90 (0, 0))) := (Below.heap_alloc _ _ _ hdbl).trans hdv
              have hml : M.length ≤ 99 := by have := ML.out; omega
              have d0 := cell_row hdv (i := 0) rfl
              have FA : Hid (FT W.heap.size tyD Z (Z.alloc (.cells #[nodeP T (b :: x)] 57))) := hide (FT.of_below N0.out BA)
              have IA : Hid (BdI T W.heap.size V.heap.size V.heap.size (.slice (some ⟨g, 0, none⟩) L.length c) L M (Z.alloc (.cells #[nodeP T (b :: x)] 57))) := hide (HII.out.keep (KpD.below BA) BA.size)
              clear hdv BA
              gi_wp2_with (gi_at_builtin; refine wpListIn_append_own_at _ rfl _ _ 90 rfl V.heap.size 57 t0 (.pointer none) 1 8 und_nps hi hz0 hz1 hz2 rfl (by decide) (.slice q2 M.length c2) M.length (M.map (nodeP T)) rfl Y7.out ⟨Z.heap.size, 0, none⟩ 1 1 [nodeP T (b :: x)] rfl rfl HNEW.out (by simp [Value.oneCell']) (by unfold maxLen; omega) (by omega) HB8.out ?_; intro v' w6 hown' hgrow _ _; obtain ⟨q6, c6, rfl⟩ := ownsRow_shape hown'; have O6 := hide hown'; have G6 := hide hgrow; have K9 : w6.heap[V.heap.size]? = some (.cells #[.slice q2 M.length c2] 90 (0, 0)) := (hgrow.block _ (lt_of_heap HK9.out) (fun e => ownsRow_not Y7.out HK9.out (by decide) e.symm)).trans HK9.out; have KK9 := hide K9; have k9 := cell_row K9 (i := 0) rfl; have f9 := frz_row K9 0; clear hown' hgrow K9)
              exact inI_put HFT.out HI.out HM2.out FA.out IA.out Y7.out O6.out G6.out KK9.out N0.out
            · rintro D' xs Z hD' hS hI hK
              have HZ := hide (hK)
              have hxs := hS
              subst hxs
              have IK := hide (show BdI T W.heap.size V.heap.size V.heap.size (.slice (some ⟨g, 0, none⟩) L.length c) L (nextL D (L.take (k + 1))) Z by rw [next_take HX.out]; exact hI.i)
              have JK := hide (show J (pre ++ L.take (k + 1)) Z by
                obtain ⟨h5, h6⟩ := List.getElem?_eq_some_iff.1 HX.out
                rw [List.take_succ_eq_append_getElem h5, h6, ← List.append_assoc]; exact hI.j)
              have MK2 := hide (show MK W.heap.size Z.heap.size (D' :: Ds) Z from ⟨List.nodup_cons.2 ⟨fun q => by have := (hI.m.2 D' q).2.1; omega, hI.m.1⟩, fun E hE => by
                rcases List.mem_cons.1 hE with rfl | hE
                · exact ⟨Nat.le_trans S4.out hD', (Array.getElem?_eq_some_iff.1 hK).1, hK⟩
                · obtain ⟨q1, q2, q3⟩ := hI.m.2 E hE
                  exact ⟨q1, (Array.getElem?_eq_some_iff.1 q3).1, q3⟩⟩)
              have hwk : IntKind.wrap .i64 ((k : Int) + 1) = (k : Int) + 1 := wrap_small _ (by omega) (by have h5 := ownsRow_len IK.out.lvl; unfold maxLen at h5; omega)
              clear hI hK TL hS
              gi_wp2
              exact ⟨⟨k + 1, _, D' :: Ds, rfl, rfl, by omega, rfl, IK.out, JK.out, MK2.out⟩, by simp [intOf]; omega⟩
            · rintro D' c' pre' Z _ _ h _
              exact h.elim
          · have J3 := hide hJx3
            have M3 := hide (HM.out.keeps hkf hkf.size)
            clear hJx3 hkf hy HR TD
            gi_wp2
            show LeavesInM _ _ _ _ _ _ (Ds.map mkD) .returning W3
            refine leaves_marks (fun V => Jx (pre ++ L.take k ++ [x]) V) Ds W3 M3.out.1 (fun D hD => (M3.out.2 D hD).2.2) (fun v D hD hq hh => HJX.out.putObj _ hq (M3.out.2 D hD).1 hh rfl) J3.out (fun v hq => ?_)
            exact ⟨.tuple #[], by simp [results, Tryd.results38, go_sem], ⟨_, rfl⟩, .inr ⟨_, trivial, hq⟩⟩
        · have j0 : ¬ (k : Int) < (L.length : Int) := by omega
          have hkL : L.take k = L := List.take_of_length_le (by omega)
          obtain ⟨dv, hdv, hdl⟩ := I1.out.dp
          have k0 := cell_row hdv (i := 0) rfl
          have NX := hide (show NL T U W.heap.size dv (nextL D L) by rw [hkL] at hdl; exact ownsRow_mono hdl SZ.out)
          have JX := hide (show J (pre ++ L) U by have h5 := J1.out; rw [hkL] at h5; exact h5)
          obtain ⟨q2, c2, rfl⟩ := ownsRow_shape NX.out
          have LV2 := hide (HL.out.next hcl.out hby.out)
          have SZU := hide (Nat.le_trans I1.out.le.1 I1.out.le.2.2)
          clear hdv hdl hkL
          gi_wp2
          obtain ⟨K2, hK2⟩ := HINV.out _ _ JX.out
          have hd1 : d ≤ 1000 := by
            obtain ⟨x, hx⟩ : ∃ x, L[0]? = some x := ⟨_, List.getElem?_eq_getElem hpos⟩
            have h5 := (HL.out.mem x).1 (List.mem_of_getElem? hx)
            have := hfw.out x h5.1
            omega
          refine ⟨⟨d + 1, nextL D L, pre ++ L, Ds, rfl, NX.out, LV2.out, JX.out, fun x hx hlx => ?_, HM.out, SZU.out⟩, ?_⟩
          · rcases Nat.lt_or_ge x.length d with h5 | h5
            · exact List.mem_append.2 (.inl (HP.out x hx h5))
            · exact List.mem_append.2 (.inr ((HL.out.mem x).2 ⟨hx, by omega⟩))
          · rw [leftD_is hK2 NX.out LV2.out, LFT.out]
            split <;> omega
    · have i0 : ¬ (0 : Int) < (L.length : Int) := by omega
      have h0 : L = [] := List.eq_nil_of_length_eq_zero (by omega)
      have ALL := hide (show ∀ x, D x → x ∈ pre from fun x hx => HP.out x hx (by
        apply Classical.byContradiction
        intro hge
        have key : ∀ m (y : List Nat), D y → y.length = d + m → False := by
          intro m
          induction m with
          | zero => intro y hy hl; have := (HL.out.mem y).2 ⟨hy, by omega⟩; rw [h0] at this; simp at this
          | succ m ih => intro y hy hl; cases y with
            | nil => simp at hl
            | cons b y => exact ih y (hcl.out.up b y hy) (by simp only [List.length_cons] at hl; omega)
        exact key (x.length - d) x hx (by omega)))
      clear h0
      gi_wp2
      show LeavesInM _ _ _ _ _ _ (Ds.map mkD) .returning V
      refine leaves_marks (fun V => J pre V) Ds V HM.out.1 (fun D hD => (HM.out.2 D hD).2.2) (fun v D hD hq hh => HJ.out.putObj _ hq (HM.out.2 D hD).1 hh rfl) J1.out (fun v hq => ?_)
      exact ⟨.tuple #[], by simp [results, Tryd.results38, go_sem], ⟨_, rfl⟩, .inl ⟨_, ALL.out, hq⟩⟩
end Go.Proofs.YtaikcnoiaaiopaaDoor
