/-
  The script's world, when one set has become a copy of the other.
-/
import Derived.Test.YtofiidfnjgoenaaStep3
namespace Go.Proofs.Ytofiidfnjgoenaa
open Go Go.RowKit Go.Shelf

/-- The other set than the k-th is a copy of it. -/
def St.cp (s : St) (k : Bool) (b' o' p' rb' : Nat) (v' : Value) (ab' : Nat) : St :=
  { b := fun j => if j = k then s.b j else b', o := fun j => if j = k then s.o j else o', p := fun j => if j = k then s.p j else p', room := fun _ => s.room k, L := fun _ => s.L k, R := fun _ => s.R k,
    rb := fun j => if j = k then s.rb j else rb', v := fun j => if j = k then s.v j else v', ab := fun j => if j = k then s.ab j else ab', ov := s.ov, vs := s.vs }

theorem WS.vlt {W : World} {wb : Nat} {s : St} (h : WS W wb s) {k : Bool} {g : Nat} (hg : (s.v k).ownBlock = some g) : g < W.heap.size := ((h.r k).ho.lt g hg).2
theorem WS.ult {W : World} {wb : Nat} {s : St} (h : WS W wb s) {u : Value} (hu : u ∈ s.vs) {g : Nat} (hg : u.ownBlock = some g) : g < W.heap.size := by
  obtain ⟨i, hi⟩ := List.getElem?_of_mem hu
  obtain ⟨n, _, ho⟩ := h.out.lists i u hi
  exact (ho.lt g hg).2

theorem WS.setCopy {V W : World} {wb : Nat} {s : St} (h : WS V wb s) (k : Bool) {b' o' p' rb' ab' : Nat} {v' : Value}
    (hw : W.heap[wb]? = some (.cells #[(s.cp k b' o' p' rb' v' ab').mv false, (s.cp k b' o' p' rb' v' ab').mv true, (s.cp k b' o' p' rb' v' ab').rv false, (s.cp k b' o' p' rb' v' ab').rv true, (s.cp k b' o' p' rb' v' ab').av false, (s.cp k b' o' p' rb' v' ab').av true, s.ov] 39 (0, 0)))
    (hf : Fr (fun z => z = wb) V W) (hm : MAt W b' o' p' (s.room k) (s.L k)) (hn : New3 V.heap.size b' o' p')
    (hr : RAt W rb' (s.room k) v' (s.R k)) (hrn : V.heap.size ≤ rb') (hvn : ∀ g, v'.ownBlock = some g → V.heap.size ≤ g ∧ g ≠ o' ∧ g ≠ p')
    (ha : Boxed W ab' 23 (.pointer (some ⟨b', 0, none⟩))) : WS W wb (s.cp k b' o' p' rb' v' ab') := by
  have T : ∀ {x : Nat} {c : Array Value} {t : TypeId} {f : Nat × Nat}, V.heap[x]? = some (.cells c t f) → t ≠ 39 → ¬ x = wb := fun hx ht => ne_type hx h.hb ht
  obtain ⟨nb, no, np⟩ := hn
  refine ⟨hw, fun j => ?_, fun j => ?_, fun j => ?_, ⟨rowL_fr h.out.row hf (fun g hg => ?_), fun i u hu => ?_⟩, ?_, ?_, ?_⟩
  · by_cases hj : j = k
    · subst hj
      simp only [St.cp, if_true]
      obtain ⟨co, ho⟩ := (h.m j).heapo
      obtain ⟨cp, hp⟩ := (h.m j).heapp
      exact (h.m j).fr hf (T (h.m j).hb (by decide)) (T ho (by decide)) (T hp (by decide))
    · simp only [St.cp, if_neg hj]
      exact hm
  · by_cases hj : j = k
    · subst hj
      simp only [St.cp, if_true]
      exact (h.r j).fr hf (T (h.r j).hb (by decide)) (fun g hg => by obtain ⟨c, hc⟩ := (h.r j).ho.heap hg; exact T hc (by decide))
    · simp only [St.cp, if_neg hj]
      exact hr
  · by_cases hj : j = k
    · subst hj
      simp only [St.cp, St.mv, if_true]
      exact boxed_fr (h.a j) hf (T (h.a j) (by decide))
    · simp only [St.cp, St.mv, if_neg hj]
      exact ha
  · obtain ⟨c, hc⟩ := h.out.heap hg
    exact T hc (by decide)
  · obtain ⟨n, hn, ho⟩ := h.out.lists i u hu
    exact ⟨n, hn, ho.fr hf (fun g hg => by obtain ⟨c, hc⟩ := ho.heap hg; exact T hc (by decide))⟩
  · have lo := (h.m k).lto
    have lp := (h.m k).ltp
    have lv : ∀ g, (s.v k).ownBlock = some g → g < V.heap.size := fun g hg => h.vlt hg
    have lu : ∀ u ∈ s.vs, ∀ g, u.ownBlock = some g → g < V.heap.size := fun u hu g hg => h.ult hu hg
    refine ⟨?_, ?_, ?_, ?_, fun i j => ?_, ?_, fun u hu j => ?_, fun u hu i g hg => ?_, h.ap.uu⟩
    · cases k <;> simp [St.cp] <;> omega
    · cases k <;> simp [St.cp] <;> omega
    · cases k <;> simp [St.cp] <;> omega
    · cases k <;> simp [St.cp] <;> omega
    · by_cases hi : i = k
      · subst hi
        by_cases hj : j = i
        · subst hj; simp only [St.cp, if_true]; exact h.ap.vo j j
        · simp only [St.cp, if_true, if_neg hj]
          exact ⟨fun q => by have := lv _ q; omega, fun q => by have := lv _ q; omega⟩
      · by_cases hj : j = k
        · subst hj
          simp only [St.cp, if_true, if_neg hi]
          exact ⟨fun q => by have := (hvn _ q).1; omega, fun q => by have := (hvn _ q).1; omega⟩
        · simp only [St.cp, if_neg hi, if_neg hj]
          exact ⟨fun q => (hvn _ q).2.1 rfl, fun q => (hvn _ q).2.2 rfl⟩
    · intro g h1 h2
      cases k with
      | false =>
        simp only [St.cp, if_true, Bool.true_eq_false, if_false] at h1 h2
        have := lv _ h1
        have := (hvn _ h2).1
        omega
      | true =>
        simp only [St.cp, if_true, Bool.false_eq_true, if_false] at h1 h2
        have := lv _ h2
        have := (hvn _ h1).1
        omega
    · by_cases hj : j = k
      · subst hj; simp only [St.cp, if_true]; exact h.ap.uo u hu j
      · simp only [St.cp, if_neg hj]
        exact ⟨fun q => by have := lu u hu _ q; omega, fun q => by have := lu u hu _ q; omega⟩
    · by_cases hi : i = k
      · subst hi; simp only [St.cp, if_true] at hg; exact h.ap.uv u hu i g hg
      · simp only [St.cp, if_neg hi] at hg
        exact fun q => by have := lu u hu _ q; have := (hvn _ hg).1; omega
  · have := (h.m k).ltb
    cases k <;> simp [St.cp] <;> omega
  · have := (h.r k).ltb
    cases k <;> simp [St.cp] <;> omega

/-- What a step leaves of a script whose blocks lie from base on. -/
def Goes (base : Nat) (w : World) (wb : Nat) (s : St) (e : Ending) (w' : World) : Prop := e = .returned (.bool true) ∧ ∃ s', WS w' wb s' ∧ s'.R = s'.L ∧ (∀ z, s'.foot wb z → base ≤ z) ∧ s'.vs.length ≤ s.vs.length + 2 ∧ Below base w w'
theorem goes_of_left {base : Nat} {w w' : World} {wb : Nat} {s : St} {e : Ending} (hb : base ≤ w.heap.size) (hs : ∀ z, s.foot wb z → base ≤ z) (h : Left w wb s e w') : Goes base w wb s e w' := by
  obtain ⟨rfl, s', h1, h2, h3, h4⟩ := h
  refine ⟨rfl, s', h1, h2, fun z hz => ?_, h3.vs, h4.below hb hs⟩
  have M : ∀ {u u' : Value}, moved u u' w.heap.size → (∀ g, u.ownBlock = some g → base ≤ g) → ∀ g, u'.ownBlock = some g → base ≤ g := fun hm hu g hg => by
    by_cases hlt : g < w.heap.size
    · exact hu g (moved_in hm hlt hg)
    · omega
  rcases hz with hz | ⟨k, hz⟩ | ⟨k, hz⟩ | ⟨k, hz⟩ | hz
  · exact hs z (.inl hz)
  · rw [h3.b, h3.o, h3.p] at hz; exact hs z (.inr (.inl ⟨k, hz⟩))
  · rw [h3.rb] at hz; exact hs z (.inr (.inr (.inl ⟨k, hz⟩)))
  · exact M (h3.v k) (fun g hg => hs g (.inr (.inr (.inr (.inl ⟨k, hg⟩))))) z hz
  · exact M h3.ov (fun g hg => hs g (.inr (.inr (.inr (.inr hg))))) z hz
theorem cp_foot {base : Nat} {s : St} {wb k b' o' p' rb' ab'} {v' : Value} (hs : ∀ z, s.foot wb z → base ≤ z) (h1 : base ≤ b') (h2 : base ≤ o') (h3 : base ≤ p') (h4 : base ≤ rb') (h5 : ∀ g, v'.ownBlock = some g → base ≤ g) : ∀ z, (s.cp k b' o' p' rb' v' ab').foot wb z → base ≤ z := fun z hz => by
  rcases hz with hz | ⟨j, hz⟩ | ⟨j, hz⟩ | ⟨j, hz⟩ | hz
  · exact hs z (.inl hz)
  · by_cases hj : j = k
    · simp only [St.cp, if_pos hj] at hz; exact hs z (.inr (.inl ⟨j, hz⟩))
    · simp only [St.cp, if_neg hj] at hz
      rcases hz with rfl | rfl | rfl <;> assumption
  · by_cases hj : j = k
    · simp only [St.cp, if_pos hj] at hz; exact hs z (.inr (.inr (.inl ⟨j, hz⟩)))
    · simp only [St.cp, if_neg hj] at hz; omega
  · by_cases hj : j = k
    · simp only [St.cp, if_pos hj] at hz; exact hs z (.inr (.inr (.inr (.inl ⟨j, hz⟩))))
    · simp only [St.cp, if_neg hj] at hz; exact h5 z hz
  · exact hs z (.inr (.inr (.inr (.inr hz))))
end Go.Proofs.Ytofiidfnjgoenaa
