/-
  A range over All with a call in its midst: how it stands.
-/
import Derived.Test.YtmfljfedpdipiaaOverA
namespace Go.Proofs.Ytmfljfedpdipiaa
open Go Go.RowKit Go.Shelf

/-- What the whole may write. -/
def Sov (wb i : Nat) (s : Nat → Sd) (ov : Value) (ii : Int) (z : Nat) : Prop := z = wb ∨ ov.ownBlock = some z ∨ (ii ≠ 0 ∧ (s i).foot z)
structure RW (W0 W : World) (wb i : Nat) (s : Nat → Sd) (ov : Value) (vs : List Value) (B b4 b5 b7 b8 b9 b10 : Nat) (sv : Array Value) (wasv : Value) (ii : Int) (T kl kf : Nat) (n : Int) (r : Bool) (s' : Nat → Sd) (ov' : Value) (vs' : List Value) (V : World) : Prop where
  ws : WS W0 wb s' ov' vs' V
  ob : OB W.heap.size wb b4 b5 b7 b8 b9 b10 i sv wasv (s i).E n r V
  eq : ii = 0 ∨ kf ≤ T → s' = s
  len : vs'.length ≤ vs.length + kl + (if ii = 0 ∨ kf ≤ T then 0 else 1000000)
  fr : Fr (Sov wb i s ov ii) W V
  mv : ∀ z, ov'.ownBlock = some z → ov.ownBlock = some z ∨ W.heap.size ≤ z
  nx : ∀ z, WS.blk wb s' ov' vs' z → WS.blk wb s ov vs z ∨ B ≤ z
  sz : B ≤ V.heap.size
/-- What is fixed. -/
structure RC (W0 W : World) (wb i : Nat) (s : Nat → Sd) (ov : Value) (vs : List Value) (B b4 b5 b7 b8 b9 b10 : Nat) (wasv : Value) : Prop where
  ws : WS W0 wb s ov vs W
  hi : i < 2
  le : W.heap.size ≤ B
  lt4 : b4 < B
  lt5 : b5 < B
  lt7 : b7 < B
  lt8 : b8 < B
  lt9 : b9 < B
  lt10 : b10 < B
  was : ∀ z, wasv.ownBlock = some z → z < B
section
variable {W0 W : World} {wb i : Nat} {s : Nat → Sd} {ov : Value} {vs : List Value} {B b4 b5 b7 b8 b9 b10 : Nat} {sv : Array Value} {wasv : Value} {ii : Int} {T kl kf : Nat} {n : Int} {r : Bool} {s' : Nat → Sd} {ov' : Value} {vs' : List Value} {V V' : World}
theorem RC.keys (c : RC W0 W wb i s ov vs B b4 b5 b7 b8 b9 b10 wasv) : ∀ z, rkblk (s i).E z → z < W.heap.size := fun _ hz => (c.ws.p i c.hi).klt (.inr hz)
/-- The keys of the table lie in blocks of numbers, from before. -/
theorem RC.kb (c : RC W0 W wb i s ov vs B b4 b5 b7 b8 b9 b10 wasv) {z : Nat} (hz : kblk (s i).P z) : z < W.heap.size ∧ z ≠ wb ∧ ov.ownBlock ≠ some z ∧ ¬ (s i).foot z := by
  obtain ⟨cur, h1⟩ := (c.ws.p i c.hi).ktype (.inl hz)
  refine ⟨lt_of_heap h1, fun e => ?_, fun e => ?_, fun e => ?_⟩
  · subst e; have := heap_type h1 c.ws.hb; cases this
  · obtain ⟨_, cu, h2⟩ := own_block c.ws.out.row e
    have := heap_type h1 h2; cases this
  · obtain ⟨cu, t, h2, h3⟩ := (c.ws.p i c.hi).ftype e
    have := heap_type h1 h2
    subst this
    rcases h3 with q | q | q | q <;> cases q
theorem RW.kept (h : RW W0 W wb i s ov vs B b4 b5 b7 b8 b9 b10 sv wasv ii T kl kf n r s' ov' vs' V) (hb : Below V.heap.size V V') : RW W0 W wb i s ov vs B b4 b5 b7 b8 b9 b10 sv wasv ii T kl kf n r s' ov' vs' V' :=
  ⟨h.ws.kept hb, h.ob.kept hb, h.eq, h.len, h.fr.seq (Fr.of_below hb : Fr (fun _ => False) V V') (fun _ _ q => q.elim), h.mv, h.nx, Nat.le_trans h.sz hb.size⟩
theorem RW.flag (h : RW W0 W wb i s ov vs B b4 b5 b7 b8 b9 b10 sv wasv ii T kl kf n r s' ov' vs' V) : RW W0 W wb i s ov vs B b4 b5 b7 b8 b9 b10 sv wasv ii T kl (kf + 1) n r s' ov' vs' V := by
  refine ⟨h.ws, h.ob, fun q => h.eq (q.imp id (fun z => by omega)), ?_, h.fr, h.mv, h.nx, h.sz⟩
  have := h.len
  by_cases q : ii = 0 ∨ kf ≤ T
  · rw [if_pos q] at this; omega
  · rw [if_neg q] at this
    rw [if_neg (fun z => q (z.imp id (fun z => by omega)))]
    exact this
theorem RW.grown {row : Option Nat} (c : RC W0 W wb i s ov vs B b4 b5 b7 b8 b9 b10 wasv) (h : RW W0 W wb i s ov vs B b4 b5 b7 b8 b9 b10 sv wasv ii T kl kf n r s' ov' vs' V) (hg : V.grownBy V' row) (hr : ∀ z, row = some z → B ≤ z ∧ ∃ o : Obj, V.heap[z]? = some o ∧ o.isCells = false) : RW W0 W wb i s ov vs B b4 b5 b7 b8 b9 b10 sv wasv ii T kl kf n r s' ov' vs' V' :=
  ⟨h.ws.grown (Nat.le_trans c.ws.size c.le) hg hr, h.ob.cells hg hr, h.eq, h.len, h.fr.seq (⟨hg.os, hg.tape, hg.output, hg.size, fun k hk hs => hg.block k hk hs⟩ : Fr (fun k => some k = row) V V') (fun z hz e => by have := (hr z e.symm).1; have := c.le; omega), h.mv, h.nx, Nat.le_trans h.sz hg.size⟩
/-- A box of one's own is none of the state's blocks. -/
theorem RW.box (c : RC W0 W wb i s ov vs B b4 b5 b7 b8 b9 b10 wasv) (h : RW W0 W wb i s ov vs B b4 b5 b7 b8 b9 b10 sv wasv ii T kl kf n r s' ov' vs' V) {b : Nat} (h1 : W.heap.size ≤ b) (h2 : b < B) : ∀ z, WS.blk wb s' ov' vs' z → ¬ z = b := fun z hz e => by
  rcases h.nx z hz with q | q
  · have := c.ws.lt q; omega
  · omega
theorem RW.setN (c : RC W0 W wb i s ov vs B b4 b5 b7 b8 b9 b10 wasv) (h : RW W0 W wb i s ov vs B b4 b5 b7 b8 b9 b10 sv wasv ii T kl kf n r s' ov' vs' V) (n' : Int) : RW W0 W wb i s ov vs B b4 b5 b7 b8 b9 b10 sv wasv ii T kl kf n' r s' ov' vs' (V.setCell ⟨b10, 0, none⟩ (.int .i64 n')) ∧ GK B (s i).P V (V.setCell ⟨b10, 0, none⟩ (.int .i64 n')) := by
  have hf : Fr (fun z => z = b10) V (V.setCell ⟨b10, 0, none⟩ (.int .i64 n')) := (Fr.refl (fun z => z = b10) V).setCell (p := ⟨b10, 0, none⟩) rfl _
  have l10 := h.ob.lo10
  have NK : ¬ keepN B (s i).P b10 3 := by
    rintro (⟨_, q⟩ | q)
    · cases q
    · have := (c.kb q).1; omega
  refine ⟨⟨h.ws.fr hf (h.box c l10 c.lt10) (fun z e => by have := c.ws.size; omega), h.ob.setN c.keys n', h.eq, h.len, h.fr.seq hf (fun z hz e => by omega), h.mv, h.nx, Nat.le_trans h.sz hf.size⟩, GK.fr hf (fun z e _ => by subst e; refine ⟨_, _, h.ob.h10, ?_⟩; exact NK)⟩
theorem RW.setR (c : RC W0 W wb i s ov vs B b4 b5 b7 b8 b9 b10 wasv) (h : RW W0 W wb i s ov vs B b4 b5 b7 b8 b9 b10 sv wasv ii T kl kf n r s' ov' vs' V) (r' : Bool) : RW W0 W wb i s ov vs B b4 b5 b7 b8 b9 b10 sv wasv ii T kl kf n r' s' ov' vs' (V.setCell ⟨b8, 0, none⟩ (.bool r')) ∧ GK B (s i).P V (V.setCell ⟨b8, 0, none⟩ (.bool r')) := by
  have hf : Fr (fun z => z = b8) V (V.setCell ⟨b8, 0, none⟩ (.bool r')) := (Fr.refl (fun z => z = b8) V).setCell (p := ⟨b8, 0, none⟩) rfl _
  have l8 := h.ob.lo8
  have NK : ¬ keepN B (s i).P b8 4 := by
    rintro (⟨_, q⟩ | q)
    · cases q
    · have := (c.kb q).1; omega
  refine ⟨⟨h.ws.fr hf (h.box c l8 c.lt8) (fun z e => by have := c.ws.size; omega), h.ob.setR r', h.eq, h.len, h.fr.seq hf (fun z hz e => by omega), h.mv, h.nx, Nat.le_trans h.sz hf.size⟩, GK.fr hf (fun z e _ => by subst e; refine ⟨_, _, h.ob.h8, ?_⟩; exact NK)⟩
/-- A key that came out, written full and kept. -/
theorem RW.owned {V0 : World} {gx m : Nat} {ov'' v'' : Value} (c : RC W0 W wb i s ov vs B b4 b5 b7 b8 b9 b10 wasv) (h0 : RW W0 W wb i s ov vs B b4 b5 b7 b8 b9 b10 sv wasv ii T kl kf n r s' ov' vs' V0) (h : RW W0 W wb i s ov vs B b4 b5 b7 b8 b9 b10 sv wasv ii T kl kf n r s' ov' vs' V) (hg : V0.heap.size ≤ gx) (hgt : ∃ cur, V.heap[gx]? = some (.cells cur 3 (0, 0)))
    (hb : V'.heap[wb]? = some (.cells #[.pointer (some ⟨(s' 0).b, 0, none⟩), .pointer (some ⟨(s' 1).b, 0, none⟩), .pointer (some ⟨(s' 0).rb, 0, none⟩), .pointer (some ⟨(s' 1).rb, 0, none⟩), fnV (s' 0).ab, fnV (s' 1).ab, ov''] 34 (0, 0)))
    (hrow : V'.ownsRow W0.heap.size 44 1 ov'' (vs'.length + 1) (vs' ++ [v''])) (hl : V'.ownsRow W0.heap.size 3 1 v'' m (ints (marked vs'.length m))) (hm : m ≤ 1000) (hv : ∀ z, v''.ownBlock = some z → z = gx ∨ V.heap.size ≤ z) (hov : ∀ z, ov''.ownBlock = some z → ov'.ownBlock = some z ∨ V.heap.size ≤ z) (hf : Fr (fun z => z = wb ∨ ov'.ownBlock = some z ∨ z = gx) V V') :
    RW W0 W wb i s ov vs B b4 b5 b7 b8 b9 b10 sv wasv ii T (kl + 1) kf n r s' ov'' (vs' ++ [v'']) V' ∧ GK B (s i).P V V' := by
  have hB0 := h0.sz
  have hle := c.le
  have l5 := c.lt5
  have l10 := c.lt10
  have hV := h.sz
  have ty : ∀ z, (z = wb ∨ ov'.ownBlock = some z ∨ z = gx) → ∃ cur t, V.heap[z]? = some (.cells cur t (0, 0)) ∧ ((t = 34 ∧ z = wb) ∨ (t = 44 ∧ ov'.ownBlock = some z) ∨ (t = 3 ∧ z = gx)) := fun z hz => by
    rcases hz with rfl | q | rfl
    · exact ⟨_, _, h.ws.hb, .inl ⟨rfl, rfl⟩⟩
    · obtain ⟨_, cu, h1⟩ := own_block h.ws.out.row q
      exact ⟨cu, _, h1, .inr (.inl ⟨rfl, q⟩)⟩
    · obtain ⟨cu, h1⟩ := hgt
      exact ⟨cu, _, h1, .inr (.inr ⟨rfl, rfl⟩)⟩
  refine ⟨⟨h0.ws.owned h.ws hg hgt hb hrow hl hm hf, h.ob.typed hf (fun z hz => ?_), h.eq, ?_, ?_, fun z hz => ?_, fun z hz => ?_, Nat.le_trans h.sz hf.size⟩, GK.fr hf (fun z hz _ => ?_)⟩
  · obtain ⟨cu, t, h1, h2⟩ := ty z hz
    refine ⟨cu, t, h1, ?_⟩
    rcases h2 with ⟨rfl, _⟩ | ⟨rfl, _⟩ | ⟨rfl, rfl⟩
    · exact ⟨by decide, by decide, by decide, by decide, (fun q => by cases q), (fun q => by cases q)⟩
    · exact ⟨by decide, by decide, by decide, by decide, (fun q => by cases q), (fun q => by cases q)⟩
    · exact ⟨by decide, by decide, by decide, by decide, (fun _ => ⟨by omega, by omega, fun q => by have := c.keys _ q; omega⟩), (fun q => by cases q)⟩
  · have := h.len
    rw [List.length_append, List.length_singleton]
    omega
  · refine h.fr.seq hf (fun z hz q => ?_)
    rcases q with rfl | q | rfl
    · exact .inl rfl
    · exact (h.mv z q).elim (fun e => .inr (.inl e)) (fun e => absurd hz (by omega))
    · omega
  · rcases hov z hz with q | q
    · exact h.mv z q
    · exact .inr (by omega)
  · rcases hz with rfl | ⟨a, ha, q⟩ | q | ⟨a, v, hv', q⟩
    · exact .inl (.inl rfl)
    · exact h.nx z (.inr (.inl ⟨a, ha, q⟩))
    · rcases hov z q with e | e
      · exact h.nx z (.inr (.inr (.inl e)))
      · exact .inr (by omega)
    · by_cases hl : a < vs'.length
      · rw [List.getElem?_append_left hl] at hv'
        exact h.nx z (.inr (.inr (.inr ⟨a, v, hv', q⟩)))
      · have hl' := (List.getElem?_eq_some_iff.1 hv').1
        simp at hl'
        obtain rfl : a = vs'.length := by omega
        rw [List.getElem?_append_right (Nat.le_refl _), Nat.sub_self] at hv'
        simp at hv'
        subst hv'
        rcases hv z q with e | e
        · exact .inr (by omega)
        · exact .inr (by omega)
  · obtain ⟨cu, t, h1, h2⟩ := ty z hz
    refine ⟨cu, t, h1, ?_⟩
    rintro (⟨_, q⟩ | q)
    · subst q
      rcases h2 with ⟨q, _⟩ | ⟨q, _⟩ | ⟨q, _⟩ <;> cases q
    · obtain ⟨k1, k2, k3, _⟩ := c.kb q
      rcases h2 with ⟨_, e⟩ | ⟨_, e⟩ | ⟨_, e⟩
      · exact k2 e
      · rcases h.mv z e with e | e
        · exact k3 e
        · omega
      · omega
/-- The call in the midst, on the table. -/
theorem RW.does {x : Sd} (c : RC W0 W wb i s ov vs B b4 b5 b7 b8 b9 b10 wasv) (h : RW W0 W wb i s ov vs B b4 b5 b7 b8 b9 b10 sv wasv ii T kl kf n r s ov' vs' V) (hii : ii ≠ 0) (hT : kf = T) (hp : PW V' x) (hn : Next V.heap.size (s i) x) (hf : Fr (s i).foot V V') :
    RW W0 W wb i s ov vs B b4 b5 b7 b8 b9 b10 sv wasv ii T kl (kf + 1) n r (setS s i x) ov' vs' V' ∧ GK B (s i).P V V' := by
  have hV := h.sz
  have hle := c.le
  have low : ∀ z, (s i).foot z → z < W.heap.size := fun z hz => (c.ws.p i c.hi).flt hz
  have l4 := h.ob.lo4
  have l5 := h.ob.lo5
  have l7 := h.ob.lo7
  have l8 := h.ob.lo8
  have l9 := h.ob.lo9
  have l10 := h.ob.lo10
  refine ⟨⟨h.ws.does c.hi hp hn hf, h.ob.fr hf ⟨(fun q => by have := low _ q; omega), (fun q => by have := low _ q; omega), (fun q => by have := low _ q; omega), (fun q => by have := low _ q; omega), (fun q => by have := low _ q; omega), (fun q => by have := low _ q; omega)⟩ (fun z hz q => ?_) (fun z hz q => ?_), fun q => ?_, ?_, h.fr.seq hf (fun z hz q => .inr (.inr ⟨hii, q⟩)), h.mv, fun z hz => ?_, Nat.le_trans h.sz hf.size⟩, GK.fr hf (fun z hz _ => ?_)⟩
  · have := (own_block h.ob.was hz).1
    have := low z q
    omega
  · obtain ⟨cu, h1⟩ := h.ob.ktype hz
    obtain ⟨cu', t, h2, h3⟩ := (h.ws.p i c.hi).ftype q
    have := heap_type h1 h2
    subst this
    rcases h3 with e | e | e | e <;> cases e
  · rcases q with q | q
    · exact absurd q hii
    · omega
  · have := h.len
    rw [if_pos (.inr (by omega))] at this
    omega
  · rcases hz with rfl | ⟨a, ha, q⟩ | q | q
    · exact .inl (.inl rfl)
    · by_cases e : a = i
      · subst e
        rw [setS_same] at q
        rcases q with q | q | q
        · rcases hn.foot z q with e | e
          · exact .inl (.inr (.inl ⟨a, ha, .inl e⟩))
          · exact .inr (by omega)
        · rcases hn.keys z q with e | e
          · exact .inl (.inr (.inl ⟨a, ha, .inr (.inl e)⟩))
          · exact .inr (by omega)
        · rw [hn.ab] at q
          exact .inl (.inr (.inl ⟨a, ha, .inr (.inr q)⟩))
      · rw [setS_ne e] at q
        exact .inl (.inr (.inl ⟨a, ha, q⟩))
    · exact h.nx z (.inr (.inr (.inl q)))
    · exact h.nx z (.inr (.inr (.inr q)))
  · obtain ⟨cu, t, h1, h2⟩ := (h.ws.p i c.hi).ftype hz
    refine ⟨cu, t, h1, ?_⟩
    rintro (⟨q, _⟩ | q)
    · have := low z hz; omega
    · exact (c.kb q).2.2.2 hz
/-- What a range within leaves. -/
structure NestP (W0 : World) (wb : Nat) (s : Nat → Sd) (ov : Value) (vs : List Value) (V : World) (ov' : Value) (vs' : List Value) (V' : World) : Prop where
  ws : WS W0 wb s ov' vs' V'
  len : vs'.length ≤ vs.length + 1000000
  fr : Fr (fun z => z = wb ∨ ov.ownBlock = some z) V V'
  mv : ∀ z, ov'.ownBlock = some z → ov.ownBlock = some z ∨ V.heap.size ≤ z
  nx : ∀ z, WS.blk wb s ov' vs' z → WS.blk wb s ov vs z ∨ V.heap.size ≤ z
theorem RW.nest {ov'' : Value} {vs'' : List Value} (c : RC W0 W wb i s ov vs B b4 b5 b7 b8 b9 b10 wasv) (h : RW W0 W wb i s ov vs B b4 b5 b7 b8 b9 b10 sv wasv ii T kl kf n r s ov' vs' V) (hii : ii ≠ 0) (hT : kf = T) (hn : NestP W0 wb s ov' vs' V ov'' vs'' V') :
    RW W0 W wb i s ov vs B b4 b5 b7 b8 b9 b10 sv wasv ii T kl (kf + 1) n r s ov'' vs'' V' ∧ GK B (s i).P V V' := by
  have hV := h.sz
  have hle := c.le
  have ty : ∀ z, (z = wb ∨ ov'.ownBlock = some z) → ∃ cur t, V.heap[z]? = some (.cells cur t (0, 0)) ∧ ((t = 34 ∧ z = wb) ∨ (t = 44 ∧ ov'.ownBlock = some z)) := fun z hz => by
    rcases hz with rfl | q
    · exact ⟨_, _, h.ws.hb, .inl ⟨rfl, rfl⟩⟩
    · obtain ⟨_, cu, h1⟩ := own_block h.ws.out.row q
      exact ⟨cu, _, h1, .inr ⟨rfl, q⟩⟩
  refine ⟨⟨hn.ws, h.ob.typed hn.fr (fun z hz => ?_), fun _ => rfl, ?_, h.fr.seq hn.fr (fun z hz q => ?_), fun z hz => ?_, fun z hz => ?_, Nat.le_trans h.sz hn.fr.size⟩, GK.fr hn.fr (fun z hz _ => ?_)⟩
  · obtain ⟨cu, t, h1, h2⟩ := ty z hz
    refine ⟨cu, t, h1, ?_⟩
    rcases h2 with ⟨rfl, _⟩ | ⟨rfl, _⟩
    · exact ⟨by decide, by decide, by decide, by decide, (fun q => by cases q), (fun q => by cases q)⟩
    · exact ⟨by decide, by decide, by decide, by decide, (fun q => by cases q), (fun q => by cases q)⟩
  · have h1 := h.len
    have h2 := hn.len
    rw [if_pos (.inr (by omega))] at h1
    rw [if_neg (fun q => q.elim hii (fun q => by omega))]
    omega
  · rcases q with rfl | q
    · exact .inl rfl
    · exact (h.mv z q).elim (fun e => .inr (.inl e)) (fun e => absurd hz (by omega))
  · rcases hn.mv z hz with q | q
    · exact h.mv z q
    · exact .inr (by omega)
  · rcases hn.nx z hz with q | q
    · exact h.nx z q
    · exact .inr (by omega)
  · obtain ⟨cu, t, h1, h2⟩ := ty z hz
    refine ⟨cu, t, h1, ?_⟩
    rintro (⟨_, q⟩ | q)
    · subst q
      rcases h2 with ⟨q, _⟩ | ⟨q, _⟩ <;> cases q
    · obtain ⟨k1, k2, k3, _⟩ := c.kb q
      rcases h2 with ⟨_, e⟩ | ⟨_, e⟩
      · exact k2 e
      · rcases h.mv z e with e | e
        · exact k3 e
        · omega
end
end Go.Proofs.Ytmfljfedpdipiaa
