/-
  Trees as mathematics: a node's fields, its Kids; the nodes in the tree's order, each with the way to it. A range over a function whose body is told what it is handed: what the iterator knows of each element when it hands it over. Trees in memory: trees that can be read. What a tree is, wherever it lies; the same trees. What a node alone may be: kinds, bounds, how many Kids. Going over a tree: descend, nodes; a range over it.
-/
import Derived.Test.YtlodjinejeajcaaC0
import Derived.RangeFuncNested
import Derived.RangeFuncBound
import Derived.RangeFuncCalls
import Derived.RangeFuncLeaves
import Derived.RangeFuncBox
import Derived.Shelf.Abstract
import Derived.Shelf.RegionOpen
import Derived.OwnWalkIn
import Derived.TacticsInMore
import Derived.LoopNIn
import Derived.LoopIn
namespace Go.Proofs.Ytlodjinejeajcaa
open Go Go.RowKit

/-- A node's fields, and where its two lists lie. -/
structure Fl where
  k : Int
  n : Int
  mn : Int
  mx : Int
  rs : List (Int × Int)
  rq : Option Addr
  rc : Nat
  kq : Option Addr
  kl : Nat
  kc : Nat
inductive Tr where
  | mk (f : Fl) (ks : List Tr)
def Tr.f : Tr → Fl | .mk f _ => f
def Tr.ks : Tr → List Tr | .mk _ ks => ks
abbrev Fl.rv (f : Fl) : Value := .slice f.rq f.rs.length f.rc
abbrev Fl.kv (f : Fl) : Value := .slice f.kq f.kl f.kc
/-- The way to a node: those around it, the nearest first, and which Kid is meant. -/
abbrev Way := List (Tr × Nat)
abbrev El := Way × Tr
mutual
def pp : Way → Tr → List El
  | p, .mk f ks => (p, .mk f ks) :: pps (.mk f ks) p 0 ks
def pps (par : Tr) (p : Way) : Nat → List Tr → List El
  | _, [] => []
  | i, t :: ts => pp ((par, i) :: p) t ++ pps par p (i + 1) ts
end
theorem pp_eq (p : Way) (t : Tr) : pp p t = (p, t) :: pps t p 0 t.ks := by
  cases t
  rw [pp]
  rfl
theorem pps_cons (par : Tr) (p : Way) (i : Nat) (t : Tr) (ts : List Tr) : pps par p i (t :: ts) = pp ((par, i) :: p) t ++ pps par p (i + 1) ts := by rw [pps]
theorem pps_nil (par : Tr) (p : Way) (i : Nat) : pps par p i [] = [] := by rw [pps]
mutual
def Tr.sz : Tr → Nat | .mk _ ks => szs ks + 1
def szs : List Tr → Nat | [] => 0 | t :: ts => t.sz + szs ts
end
theorem sz_eq (t : Tr) : t.sz = szs t.ks + 1 := by cases t; rw [Tr.sz]; rfl
theorem szs_cons (t : Tr) (ts : List Tr) : szs (t :: ts) = t.sz + szs ts := by rw [szs]
theorem szs_nil : szs [] = 0 := by rw [szs]
theorem sz_pos (t : Tr) : 1 ≤ t.sz := by rw [sz_eq]; omega
theorem sz_mem {t : Tr} {ks : List Tr} (h : t ∈ ks) : t.sz ≤ szs ks := by
  induction ks with
  | nil => cases h
  | cons x r ih =>
    rw [szs_cons]
    rcases List.mem_cons.1 h with e | e
    · subst e; omega
    · have := ih e; omega
theorem sz_kid {t u : Tr} (h : u ∈ t.ks) : u.sz < t.sz := by rw [sz_eq t]; have := sz_mem h; omega
/-- What holds of a tree whose Kids all have it, all have. -/
theorem Tr.ind {P : Tr → Prop} (h : ∀ t, (∀ u ∈ t.ks, P u) → P t) (t : Tr) : P t := by
  have : ∀ (m : Nat) (t : Tr), t.sz ≤ m → P t := by
    intro m
    induction m with
    | zero => intro t ht; have := sz_pos t; omega
    | succ m ih => intro t ht; exact h t fun u hu => ih u (by have := sz_kid hu; omega)
  exact this t.sz t (Nat.le_refl _)
theorem pps_len_of {ks : List Tr} (h : ∀ t ∈ ks, ∀ p, (pp p t).length = t.sz) (par : Tr) (p : Way) (i : Nat) : (pps par p i ks).length = szs ks := by
  induction ks generalizing i with
  | nil => rw [pps_nil, szs_nil]; rfl
  | cons t ts ih =>
    rw [pps_cons, szs_cons, List.length_append, h t (List.mem_cons_self ..), ih (fun u hu => h u (List.mem_cons_of_mem _ hu))]
theorem pp_len (t : Tr) : ∀ p, (pp p t).length = t.sz := by
  refine Tr.ind (P := fun t => ∀ p, (pp p t).length = t.sz) (fun t ih p => ?_) t
  rw [pp_eq, sz_eq, List.length_cons, pps_len_of ih]

/-- One node comes next behind another. -/
def Nx (x y : El) : Prop := ∃ (par : Tr) (j : Nat) (rest : Way), y.1 = (par, j) :: rest ∧ ((par = x.2 ∧ j = 0 ∧ rest = x.1) ∨ ∃ s i, x.1 = s ++ (par, i) :: rest ∧ j = i + 1)
def Ch : List El → Prop
  | [] => True
  | [_] => True
  | x :: y :: r => Nx x y ∧ Ch (y :: r)
theorem chain_append {a b : List El} (ha : Ch a) (hb : Ch b) (h : ∀ x ∈ a.getLast?, ∀ y ∈ b.head?, Nx x y) : Ch (a ++ b) := by
  induction a with
  | nil => exact hb
  | cons x a ih =>
    cases a with
    | nil =>
      cases b with
      | nil => trivial
      | cons y b => exact ⟨h x (by simp) y (by simp), hb⟩
    | cons z a => exact ⟨ha.1, ih ha.2 fun u hu => h u (by rw [List.getLast?_cons_cons]; exact hu)⟩
theorem chain_at {a b : List El} {x y : El} (h : Ch (a ++ x :: y :: b)) : Nx x y := by
  induction a with
  | nil => exact h.1
  | cons z a ih =>
    cases a with
    | nil => exact h.2.1
    | cons u a => exact ih h.2
theorem pps_chain_of {ks : List Tr} (h : ∀ t ∈ ks, ∀ p, Ch (pp p t) ∧ ∀ z ∈ pp p t, ∃ s, z.1 = s ++ p) (par : Tr) (p : Way) (i : Nat) :
    Ch (pps par p i ks) ∧ (∀ z ∈ pps par p i ks, ∃ s j, z.1 = s ++ (par, j) :: p) ∧ ∀ z ∈ (pps par p i ks).head?, z.1 = (par, i) :: p := by
  induction ks generalizing i with
  | nil => rw [pps_nil]; exact ⟨trivial, fun z hz => (by cases hz), fun z hz => (by cases hz)⟩
  | cons t ts ih =>
    obtain ⟨c1, c2⟩ := h t (List.mem_cons_self ..) ((par, i) :: p)
    obtain ⟨d1, d2, d3⟩ := ih (fun u hu => h u (List.mem_cons_of_mem _ hu)) (i + 1)
    rw [pps_cons]
    refine ⟨chain_append c1 d1 fun x hx y hy => ?_, fun z hz => ?_, fun z hz => ?_⟩
    · obtain ⟨s, hs⟩ := c2 x (List.mem_of_getLast? hx)
      exact ⟨par, i + 1, p, d3 y hy, .inr ⟨s, i, hs, rfl⟩⟩
    · rcases List.mem_append.1 hz with q | q
      · obtain ⟨s, hs⟩ := c2 z q
        exact ⟨s, i, hs⟩
      · exact d2 z q
    · rw [pp_eq] at hz
      simp at hz
      subst hz
      rfl
theorem pp_chain (t : Tr) : ∀ p, Ch (pp p t) ∧ ∀ z ∈ pp p t, ∃ s, z.1 = s ++ p := by
  refine Tr.ind (P := fun t => ∀ p, Ch (pp p t) ∧ ∀ z ∈ pp p t, ∃ s, z.1 = s ++ p) (fun t ih p => ?_) t
  obtain ⟨d1, d2, d3⟩ := pps_chain_of ih t p 0
  rw [pp_eq]
  refine ⟨chain_append (a := [(p, t)]) trivial d1 fun x hx y hy => ?_, fun z hz => ?_⟩
  · simp at hx
    subst hx
    exact ⟨t, 0, p, d3 y hy, .inl ⟨rfl, rfl, rfl⟩⟩
  · rcases List.mem_cons.1 hz with q | q
    · subst q
      exact ⟨[], rfl⟩
    · obtain ⟨s, j, hs⟩ := d2 z q
      exact ⟨s ++ [(t, j)], by simp [hs]⟩
/-- What comes behind some nodes of a tree's order is next behind their last. -/
theorem told_next {t : Tr} {pre : List El} {x y : El} (h : pre ++ [x] ++ [y] <+: pp [] t) : Nx x y := by
  obtain ⟨r, hr⟩ := h
  have := (pp_chain t []).1
  rw [← hr, show pre ++ [x] ++ [y] ++ r = pre ++ x :: y :: r by simp] at this
  exact chain_at this
theorem told_first {t : Tr} {x : El} (h : [x] <+: pp [] t) : x = ([], t) := by
  rw [pp_eq] at h
  obtain ⟨r, hr⟩ := h
  simp at hr
  exact hr.1
mutual
/-- Of each node of a tree. -/
def Every (P : Tr → Prop) : Tr → Prop | .mk f ks => P (.mk f ks) ∧ EveryL P ks
def EveryL (P : Tr → Prop) : List Tr → Prop | [] => True | t :: ts => Every P t ∧ EveryL P ts
end
theorem every_eq {P : Tr → Prop} (t : Tr) : Every P t ↔ P t ∧ EveryL P t.ks := by cases t; rw [Every]; rfl
theorem everyL_iff {P : Tr → Prop} (ks : List Tr) : EveryL P ks ↔ ∀ t ∈ ks, Every P t := by
  induction ks with
  | nil => rw [EveryL]; simp
  | cons t ts ih => rw [EveryL, ih]; simp
theorem every_kid {P : Tr → Prop} {t u : Tr} (h : Every P t) (hu : u ∈ t.ks) : Every P u := (everyL_iff _).1 ((every_eq t).1 h).2 u hu
theorem every_pp {P : Tr → Prop} (t : Tr) : ∀ p, Every P t → ∀ z ∈ pp p t, Every P z.2 := by
  refine Tr.ind (P := fun t => ∀ p, Every P t → ∀ z ∈ pp p t, Every P z.2) (fun t ih p he z hz => ?_) t
  rw [pp_eq] at hz
  rcases List.mem_cons.1 hz with q | q
  · subst q; exact he
  · have : ∀ (ks : List Tr) (i : Nat), (∀ u ∈ ks, u ∈ t.ks) → z ∈ pps t p i ks → Every P z.2 := by
      intro ks
      induction ks with
      | nil => intro i _ h; rw [pps_nil] at h; cases h
      | cons u us ih2 =>
        intro i hs h
        rw [pps_cons] at h
        rcases List.mem_append.1 h with g | g
        · exact ih u (hs u (List.mem_cons_self ..)) _ (every_kid he (hs u (List.mem_cons_self ..))) z g
        · exact ih2 (i + 1) (fun v hv => hs v (List.mem_cons_of_mem _ hv)) g
    exact this t.ks 0 (fun _ h => h) q
end Go.Proofs.Ytlodjinejeajcaa
namespace Go.Proofs.Ytlodjinejeajcaa
open Go Go.RowKit Go.Shelf

theorem below_grownT {W W' : World} (hb : Below W.heap.size W W') : W.grownBy W' none := ⟨hb.os, hb.tape, hb.output, hb.size, fun k hk _ => hb.block k hk⟩
/-- The cells of those blocks stay as they are. -/
structure CKeep (N : Nat → Prop) (W W' : World) : Prop where
  size : W.heap.size ≤ W'.heap.size
  same : ∀ (k : Nat) (cur : Array Value) (t : TypeId) (fr : Nat × Nat), N k → W.heap[k]? = some (.cells cur t fr) → W'.heap[k]? = some (.cells cur t fr)
theorem CKeep.trans {N : Nat → Prop} {A B C : World} (h : CKeep N A B) (k : CKeep N B C) : CKeep N A C := ⟨Nat.le_trans h.size k.size, fun i cur t fr hi hc => k.same i cur t fr hi (h.same i cur t fr hi hc)⟩
theorem CKeep.put {N : Nat → Prop} {W : World} {l : Nat} {o : Obj} (o' : Obj) (h : W.heap[l]? = some o) (hc : o.isCells = false) : CKeep N W (W.putObj l o') :=
  ⟨(grownBy_putObj' W l o').size, fun k cur t fr _ hk => by
    have hne : k ≠ l := fun e => by subst e; rw [hk] at h; cases h; cases hc
    exact (World.putObj_heap_other hne).trans hk⟩
theorem Fr.ckeep {S N : Nat → Prop} {W W' : World} (h : Fr S W W') (hs : ∀ k, S k → ¬ N k) : CKeep N W W' :=
  ⟨h.size, fun k _ _ _ hk hc => (h.block k (lt_of_heap hc) (fun q => hs k q hk)).trans hc⟩
theorem Fr.keepsFrom {S : Nat → Prop} {N : Nat} {W W' : World} (h : Fr S W W') (hs : ∀ k, S k → k < N) : KeepsFrom N W W' :=
  ⟨h.size, fun k o hk hc _ => (h.block k (lt_of_heap hc) (fun q => by have := hs k q; omega)).trans hc⟩

/-- What an iterator does with a loop: each element is handed over with what is known of it (Told); at the end all were (S), or the loop was left behind some (Sp). What the loop says must bear that records laid since the iterator was called change. -/
def Tells {α : Type} (n : Nat) (P : Program) (gf : Nat) (lb : Array Value) (encs : α → Array Value) (N : Nat → Prop) (Told : List α → α → World → Prop) (S Sp : List α → Prop) (w : World) : Prop :=
  ∀ (l : Nat) (J Jx : List α → World → Prop) (W : World), Below w.heap.size w W → OwnFrom W.heap.size J → OwnFrom W.heap.size Jx → (∀ pre V, J pre V → pre.length ≤ 1000000) →
    (∀ pre x V, J pre V → Told pre x V → YieldAt Fence.wide (n - 1) P l (encs x) V fun e V' => KeepsFrom W.heap.size V V' ∧ ((e = .returned (.bool true) ∧ J (pre ++ [x]) V' ∧ CKeep N V V') ∨ (e = .returned (.bool false) ∧ Jx (pre ++ [x]) V'))) →
    J [] W → CallsIn Fence.wide n P gf (#[.func (.yield l) #[] #[]] ++ lb) W fun e V => (∃ v, e = .returned v) ∧ ((∃ xs, S xs ∧ J xs V) ∨ (∃ pre, Sp pre ∧ Jx pre V))
theorem ownFrom_below {β : Type} {B : Nat} {J : β → World → Prop} (h : OwnFrom B J) {s : β} {A A' : World} (hj : J s A) (hb : Below A.heap.size A A') : J s A' := h s A A' none hj (below_grownT hb) (fun _ e => by cases e)
theorem ownFrom_le {β : Type} {B B' : Nat} {J : β → World → Prop} (h : OwnFrom B J) (hB : B ≤ B') : OwnFrom B' J := fun s W W' row hs hg hr => h s W W' row hs hg (fun r e => ⟨Nat.le_trans hB (hr r e).1, (hr r e).2⟩)
theorem keeps_le {B B' : Nat} {W W' : World} (h : KeepsFrom B W W') (hB : B ≤ B') : KeepsFrom B' W W' := ⟨h.size, fun k o hk hc ho => h.same k o (Nat.le_trans hB hk) hc ho⟩
theorem keeps_put {B : Nat} (W : World) {l : Nat} (o : Obj) (hl : l < B) : KeepsFrom B W (W.putObj l o) :=
  ⟨(grownBy_putObj' W l o).size, fun k _ hk hc _ => (World.putObj_heap_other (by omega)).trans hc⟩
theorem ckeep_below {N : Nat → Prop} {W W' : World} (hb : Below W.heap.size W W') : CKeep N W W' := ⟨hb.size, fun k _ _ _ _ hc => (hb.block k (lt_of_heap hc)).trans hc⟩
theorem keeps_below {B : Nat} {W W' : World} (hb : Below W.heap.size W W') : KeepsFrom B W W' := ⟨hb.size, fun k _ _ hc _ => (hb.block k (lt_of_heap hc)).trans hc⟩
/-- A round may be run from any place: the wide fence has no bound. -/
theorem round_any {P : Program} {n m l l' : Nat} {f : FuncId} {tmps : Array Value} {assign body : Code} {w : World} {R : Ending → World → Prop} (h : RoundIn Fence.wide n P l f tmps assign body w R) : RoundIn (Fence.wide.inRound l') m P l f tmps assign body w R :=
  ⟨trivial, fun c cs _ => h.2 c cs (room_wide _)⟩

section
variable {α : Type} {P : Program}
/-- The loop's two blocks: its record, and its list of deferred calls. -/
def Rc (D : Nat) (r : Loop) (W : World) : Prop := W.heap[D + 1]? = some (.loop r) ∧ W.heap[D]? = some (.deferred (some []))
theorem Rc.below {D : Nat} {r : Loop} {W W' : World} (h : Rc D r W) (hb : Below W.heap.size W W') : Rc D r W' :=
  ⟨(hb.block _ (lt_of_heap h.1)).trans h.1, (hb.block _ (lt_of_heap h.2)).trans h.2⟩
theorem Rc.from {D : Nat} {r : Loop} {W W' : World} (h : Rc D r W) (hk : KeepsFrom D W W') : Rc D r W' := ⟨hk.same _ _ (by omega) h.1 rfl, hk.same _ _ (Nat.le_refl _) h.2 rfl⟩
theorem Rc.put {D : Nat} {r : Loop} {W : World} (h : Rc D r W) (r' : Loop) : Rc D r' (W.putObj (D + 1) (.loop r')) :=
  ⟨World.putObj_heap_same (lt_of_heap h.1), (World.putObj_heap_other (by omega)).trans h.2⟩

theorem rc_own {β : Type} {D : Nat} (r : Loop) : OwnFrom (D + 2) (fun (_ : β) W => Rc D r W) := fun _ A B row h hg hrow =>
  ⟨(hg.block _ (lt_of_heap h.1) (fun e => by have := (hrow _ e.symm).1; omega)).trans h.1, (hg.block _ (lt_of_heap h.2) (fun e => by have := (hrow _ e.symm).1; omega)).trans h.2⟩
/-- How a round ends, seen from the loop. -/
theorem round_ends {D : Nat} {N : Nat → Prop} {r : Loop} {I : List α → World → Prop} {Ix : Code → List α → World → Prop} {xs : List α} {V W W3 : World} {e : Exit} {a3 : Act}
    (hI : OwnFrom D I) (hIx : ∀ c, OwnFrom D (Ix c)) (hc : CKeep N V W) (hr : Rc D { r with state := .busy } W)
    (hv : KeepsFrom (D + 2) V W) (hp : ownPostG D (CKeep N) I Ix xs W e a3 W3) : roundPost P (D + 1) (fun e V' => KeepsFrom (D + 2) V V' ∧ ((e = .returned (.bool true) ∧ (I xs V' ∧ Rc D { r with state := .ready, pending := none } V') ∧ CKeep N V V') ∨ (e = .returned (.bool false) ∧ ∃ c, Ix c xs V' ∧ Rc D { r with state := .done, pending := some c } V'))) e a3 W3 := by
  have out : ∀ c : Code, KeepsFrom D W W3 → Ix c xs W3 → ∃ v V', (Instr.endRound (D + 1) (some c)).run P W3 = .ok v V' ∧ (KeepsFrom (D + 2) V V' ∧ ((Ending.returned v = .returned (.bool true) ∧ (I xs V' ∧ Rc D { r with state := .ready, pending := none } V') ∧ CKeep N V V') ∨ (Ending.returned v = .returned (.bool false) ∧ ∃ c, Ix c xs V' ∧ Rc D { r with state := .done, pending := some c } V'))) := fun c hk hi => by
    have h3 := hr.from hk
    exact ⟨_, _, run_endRound (some c) h3.1, (hv.trans (keeps_le hk (by omega))).trans (keeps_put _ _ (by omega)), .inr ⟨rfl, c, (hIx c).putObj _ hi (by omega) h3.1 rfl, h3.put _⟩⟩
  cases e with
  | normal =>
    obtain ⟨hk, hkp, hi⟩ := hp
    have h3 := hr.from hk
    exact ⟨_, _, run_endRound none h3.1, (hv.trans (keeps_le hk (by omega))).trans (keeps_put _ _ (by omega)), .inl ⟨rfl, ⟨hI.putObj _ hi (by omega) h3.1 rfl, h3.put _⟩, (hc.trans hkp).trans (CKeep.put _ h3.1 rfl)⟩⟩
  | ret => exact out .ret hp.1 hp.2
  | exit id => exact out (.exit id) hp.1 hp.2
  | goto t => exact out (.goto t) hp.1 hp.2
  | panic ch => exact hp.elim
  | outgrown => exact hp.elim

theorem range_told {g : Operand} {ps : Array Tmp} {assign body : Code} {Q : Exit → Act → World → Prop} {a : Act} {w : World} {n : Nat} (h1 : 1 ≤ n) {gf : Nat} {lb : Array Value}
    (hg : a.eval g = .func (.func gf) #[] lb) (eg : ∀ args w, (callFunc gf args).run P w = .ok (.enter gf args) w) {encs : α → Array Value} (hps : ∀ x, (encs x).size = ps.size)
    {N : Nat → Prop} {Told : List α → α → World → Prop} {S Sp : List α → Prop} (hseq : Tells (n - 1) P gf lb encs N Told S Sp w)
    (I : List α → World → Prop) (Ix : Code → List α → World → Prop) (hI : OwnFrom w.heap.size I) (hIx : ∀ c, OwnFrom w.heap.size (Ix c)) (hT : ∀ pre x, OwnFrom w.heap.size (fun (_ : Unit) W => Told pre x W)) (hbd : ∀ pre W, I pre W → pre.length ≤ 1000000) (h0 : I [] w) (Ax : α → Act → World → Prop) (hAx : ∀ x a', OwnFrom w.heap.size (fun (_ : Unit) W => Ax x a' W))
    (hassign : ∀ (l : Nat) (pre : List α) (x : α) (W : World) (K : Act → World → Prop), I pre W → Told pre x W → (∀ a' W', Below W.heap.size W W' → Ax x a' W' → K a' W') →
      assign.wpIn (Fence.wide.inRound l) (n - 1 - 1) P (Exit.then K (fun _ _ _ => False)) { tmps := (ps.zip (encs x)).foldl (fun t (p, v) => t.setIfInBounds p v) a.tmps, defers := [] } W)
    (hbody : ∀ (l : Nat) (pre : List α) (x : α) (a' : Act) (W : World), I pre W → Told pre x W → Ax x a' W → body.wpIn (Fence.wide.inRound l) (n - 1 - 1) P (ownPostG w.heap.size (CKeep N) I Ix (pre ++ [x]) W) a' W)
    (hdone : ∀ (D : Nat) (xs : List α) (W : World), w.heap.size ≤ D → S xs → I xs W → W.heap[D]? = some (.deferred (some [])) → Q .normal { a with defers := { target := .collected D, args := #[] } :: a.defers } W)
    (hstop : ∀ (D : Nat) (c : Code) (pre : List α) (W : World), w.heap.size ≤ D → Sp pre → Ix c pre W → W.heap[D]? = some (.deferred (some [])) → c.wpIn Fence.wide n P Q { a with defers := { target := .collected D, args := #[] } :: a.defers } W) :
    (Code.rangeFunc g ps assign body).wpIn Fence.wide n P Q a w := by
  refine wpIn_rangeFunc fun fn hfn => ?_
  let r : Loop := { state := .ready, pending := none, fn := fn, tmps := a.tmps, params := ps, assign := assign, body := body, defers := w.heap.size }
  have hB : Below w.heap.size w ((w.alloc (.deferred (some []))).alloc (.loop r)) := ((Below.refl _ _).alloc (Nat.le_refl _) _).alloc (by simp) _
  have hz : ((w.alloc (.deferred (some []))).alloc (.loop r)).heap.size = w.heap.size + 2 := by simp
  have hR : Rc w.heap.size r ((w.alloc (.deferred (some []))).alloc (.loop r)) := by
    refine ⟨?_, (Below.heap_alloc _ _ _ (by simp)).trans (World.alloc_heap_new w _)⟩
    have := World.alloc_heap_new (w.alloc (.deferred (some []))) (.loop r)
    rwa [World.size_alloc] at this
  refine ⟨w.heap.size + 1, [{ target := .collected w.heap.size, args := #[] }], ((w.alloc (.deferred (some []))).alloc (.loop r)), { target := .fn (.func gf) lb, args := #[.func (.yield (w.heap.size + 1)) #[] #[]] }, ((w.alloc (.deferred (some []))).alloc (.loop r)), gf, #[.func (.yield (w.heap.size + 1)) #[] #[]] ++ lb, ((w.alloc (.deferred (some []))).alloc (.loop r)),
    run_enterLoop_outer _ _ _ _ _, ?_, fun _ _ => trivial, ?_, fun _ => h1, ?_⟩
  · simp only [resolve, hg]
    simp [go_sem]
  · simp [invoke, go_sem, eg]
  · refine (hseq (w.heap.size + 1) (fun pre W => I pre W ∧ Rc w.heap.size r W) (fun pre W => ∃ c, Ix c pre W ∧ Rc w.heap.size { r with state := .done, pending := some c } W) _ hB
      ?_ ?_ (fun pre V h => hbd pre V h.1) ?_ ⟨hI.alloc _ (hI.alloc _ h0), hR⟩).mono ?_
    · rw [hz]
      exact (ownFrom_le hI (by omega)).and (rc_own _)
    · rw [hz]
      rintro pre A B row ⟨c, hi, hr⟩ hg hrow
      exact ⟨c, ownFrom_le (hIx c) (by omega) pre A B row hi hg hrow, rc_own (β := Unit) _ () A B row hr hg hrow⟩
    · rw [hz]
      rintro pre x V ⟨hi, hr⟩ ht
      refine ⟨fn, _, assign, body, run_yield hr.1 (hps x), roundIn_of_wpIn hfn (hassign _ pre x V _ hi ht ?_)⟩
      intro a' W' hb hax
      have hr' := hr.below hb
      refine ⟨_, run_beginRound hr'.1 rfl, ?_⟩
      have hr2 : Rc w.heap.size { r with state := .busy } (W'.putObj (w.heap.size + 1) (.loop { r with state := .busy })) := hr'.put _
      exact wpIn_mono (hbody _ pre x a' _ (hI.putObj _ (ownFrom_below hI hi hb) (by omega) hr'.1 rfl) ((hT pre x).putObj (s := ()) _ (ownFrom_below (hT pre x) (s := ()) ht hb) (by omega) hr'.1 rfl) ((hAx x a').putObj (s := ()) _ hax (by omega) hr'.1 rfl)) fun e a3 W3 hp =>
        round_ends (r := r) hI hIx ((ckeep_below hb).trans (CKeep.put _ hr'.1 rfl)) hr2 ((keeps_below hb).trans (keeps_put _ _ (by omega))) hp
    · rintro e V ⟨⟨v, rfl⟩, (⟨xs, hS, hi, hr⟩ | ⟨pre, hSp, c, hi, hr⟩)⟩
      · exact ⟨none, _, run_endLoop hr.1 (by simp [r]), hdone _ xs _ (Nat.le_refl _) hS (hI.putObj _ hi (by omega) hr.1 rfl) ((World.putObj_heap_other (by omega)).trans hr.2)⟩
      · exact ⟨some c, _, run_endLoop hr.1 (by simp), hstop _ c pre _ (Nat.le_refl _) hSp ((hIx c).putObj _ hi (by omega) hr.1 rfl) ((World.putObj_heap_other (by omega)).trans hr.2)⟩
end
theorem cells_kept {W W' : World} {row : Option Nat} {B : Nat} (hg : W.grownBy W' row) (hr : ∀ r, row = some r → B ≤ r ∧ ∃ o : Obj, W.heap[r]? = some o ∧ o.isCells = false) {k : Nat} {cur : Array Value} {t : TypeId} {fr : Nat × Nat} (hc : W.heap[k]? = some (.cells cur t fr)) :
    W'.heap[k]? = some (.cells cur t fr) := by
  refine (hg.block k (lt_of_heap hc) (fun e => ?_)).trans hc
  obtain ⟨_, o, ho, hq⟩ := hr k e.symm
  rw [hc] at ho
  cases ho
  cases hq
theorem round_wide {P : Program} {n m l : Nat} {f : FuncId} {tmps : Array Value} {assign body : Code} {w : World} {R : Ending → World → Prop} (h : RoundIn Fence.wide n P l f tmps assign body w R) : RoundIn Fence.wide m P l f tmps assign body w R :=
  ⟨trivial, fun c cs _ => h.2 c cs (room_wide _)⟩
theorem cell_ck {N : Nat → Prop} {W W' : World} {p : Addr} {v : Value} (h : CKeep N W W') (hp : N p.block) (hc : W.cell? p = some v) : W'.cell? p = some v := by
  unfold World.cell? at hc ⊢
  cases ho : W.heap[p.block]? with
  | none => simp [ho] at hc
  | some o =>
    cases o with
    | cells cur t fr => rw [h.same _ _ _ _ hp ho]; rw [ho] at hc; exact hc
    | _ => simp [ho] at hc
theorem upon_round {l n : Nat} {P : Program} {o : Oper} {a : Act} {K : Act → World → Prop} {Q : Exit → Act → World → Prop} {r : Result Next} (h : o.upon P a K Q r) : o.uponIn (Fence.wide.inRound l) n P a K Q r := by
  match r, h with
  | .ok (.value v) w', h => exact h
  | .ok .skip w', h => exact h
  | .ok (.defer d) w', h => exact h
  | .ok (.enter f args) w', h => exact ⟨fun q => (by cases q), CallsIn.inRound l (callsIn_wide.2 h)⟩
  | .ok (.row row args) w', h =>
    refine ⟨fun q => (by cases q), fun c cs _ => ?_⟩
    obtain ⟨v, w'', h1, h2⟩ := h c cs
    exact ⟨v, w'', h1, stepsIn_wide.2 h2⟩
  | .halt (.panic v) w', h => exact h

theorem oper_round {l n : Nat} {P : Program} {o : Oper} {a : Act} {w : World} {K : Act → World → Prop} {Q : Exit → Act → World → Prop} (hd : ∀ c, o.op ≠ .defer c) (h : o.wp P a w K Q) : o.wpIn (Fence.wide.inRound l) n P a w K Q := by
  refine ⟨fun f _ => trivial, ?_⟩
  rw [Oper.semAt_eq _ _ _ hd]
  exact upon_round h

theorem any_round {l n : Nat} {P : Program} {md : Region.Mode} {ops : Array Oper} {Q : Exit → Act → World → Prop} (hd : ∀ o ∈ ops, ∀ c, o.op ≠ .defer c) (hL : ¬ LetsOut Q) : ∀ (fuel : Nat) (listed : Array Bool) (a : Act) (w : World), wpAny P md ops Q fuel listed a w → wpAnyIn (Fence.wide.inRound l) n P md ops Q fuel listed a w
  | 0, _, _, _, h => h
  | fuel + 1, listed, a, w, h => by
    refine ⟨h.1, fun i hi => ?_⟩
    have q := h.2 i hi
    unfold wpOp at q
    unfold wpOpIn
    cases ho : ops[i]? with
    | none => rw [ho] at q; exact any_round hd hL fuel _ a w q
    | some o =>
      rw [ho] at q
      dsimp only at q ⊢
      by_cases hw : Region.wanted o (yielded ops a.tmps) = true
      · rw [if_pos hw] at q ⊢
        exact Oper.wpIn_mono (fun a' w' h' => any_round hd hL fuel _ a' w' h') (oper_round (hd o (Array.mem_of_getElem? ho)) (q.resolve_right (fun z => hL z.2)))
      · rw [if_neg hw] at q ⊢
        exact ⟨fun f _ => trivial, any_round hd hL fuel _ _ w q⟩

/-- No operation of the list is a defer statement. -/
def noDefer (l : List Oper) : Bool := l.all fun o => match o.op with | .defer _ => false | _ => true
theorem noDefer_spec {l : List Oper} (h : noDefer l = true) : ∀ o ∈ l.toArray, ∀ c, o.op ≠ .defer c := fun o ho c e => by
  unfold noDefer at h
  rw [List.all_eq_true] at h
  have := h o (by simpa using ho)
  rw [e] at this
  cases this

/-- A region inside a round, by one walk in the text's order, where it only reads or calls what makes memory. -/
theorem wpIn_region_ext {P : Program} {id l n : Nat} {Q : Exit → Act → World → Prop} {a : Act} {w : World} {ops : List Oper} (hm : P.follows .mixedOrders = true) (hB : Region.lexB .any ops.toArray = true) (hd : noDefer ops = true) (hL : ¬ LetsOut Q)
    (h : wpQuiet P ops.toArray (fun w' => ∃ x : Ext w, w' = x.val) (fun a' => ∀ w', (∃ x : Ext w, w' = x.val) → Q .normal a' w') ops a) : (Code.region id ops.toArray true).wpIn (Fence.wide.inRound l) n P Q a w := by
  have hC : (fun w' => ∃ x : Ext w, w' = x.val) { w with drawn := w.drawn + 1 } := ⟨⟨w.drew, (Below.refl _ _).drew⟩, rfl⟩
  simp only [Region.lexB, Bool.and_eq_true] at hB
  refine wpIn_region_any hm (any_round (noDefer_spec hd) hL _ _ _ _ (wpAny_of_quiet (C := fun w' => ∃ x : Ext w, w' = x.val) (Q := fun a' => ∀ w', (∃ x : Ext w, w' = x.val) → Q .normal a' w') (fun _ w' hw' h => h w' hw') _ _ _ _ hC ?_))
  have := wpAnyQ_lex (C := fun w' => ∃ x : Ext w, w' = x.val) (md := .any) hB.1 ops 0 (Array.replicate ops.length false) a (by simp) (by simpa using hB.2) h
  simpa using this

end Go.Proofs.Ytlodjinejeajcaa
namespace Go.Proofs.Ytlodjinejeajcaa
open Go Go.RowKit

theorem und_nodes : Try.prog.underlying 23 = some (.slice 25) := by kernel_rfl
theorem size_node : (Try.prog.info? 25).map (fun i => (i.zero, i.size, i.bytes)) = some (some (.agg #[.int .i64 0, .int .i64 0, .int .i64 0, .int .i64 0, .slice none 0 0, .slice none 0 0]), 6, 80) := by kernel_rfl
/-- Six cells: a node. -/
def Six (W : World) (g o : Nat) (f : Fl) : Prop :=
  W.cell? ⟨g, o, none⟩ = some (.int .i64 f.k) ∧ W.cell? ⟨g, o + 1, none⟩ = some (.int .i64 f.n) ∧ W.cell? ⟨g, o + 2, none⟩ = some (.int .i64 f.mn) ∧ W.cell? ⟨g, o + 3, none⟩ = some (.int .i64 f.mx) ∧ W.cell? ⟨g, o + 4, none⟩ = some (.slice f.rq f.rs.length f.rc) ∧ W.cell? ⟨g, o + 5, none⟩ = some (.slice f.kq f.kl f.kc)
theorem Six.ck {N : Nat → Prop} {W W' : World} {g o : Nat} {f : Fl} (h : Six W g o f) (hc : CKeep N W W') (hg : N g) : Six W' g o f :=
  ⟨cell_ck hc (p := ⟨g, o, none⟩) hg h.1, cell_ck hc (p := ⟨g, o + 1, none⟩) hg h.2.1, cell_ck hc (p := ⟨g, o + 2, none⟩) hg h.2.2.1, cell_ck hc (p := ⟨g, o + 3, none⟩) hg h.2.2.2.1, cell_ck hc (p := ⟨g, o + 4, none⟩) hg h.2.2.2.2.1, cell_ck hc (p := ⟨g, o + 5, none⟩) hg h.2.2.2.2.2⟩
/-- Kids that can be read. -/
def ArgK (W : World) (v : Value) (ks : List Tr) : Prop :=
  (∃ p cap, v = .slice p 0 cap ∧ ks = [] ∧ (p = none → cap = 0)) ∨ ∃ g off cap, v = .slice (some ⟨g, off, none⟩) ks.length cap ∧ g < W.heap.size ∧ ks.length ≤ cap ∧ cap ≤ maxLen ∧ ∀ (i : Nat) (t : Tr), ks[i]? = some t → Six W g (off + i * 6) t.f
theorem ArgK.slice {W : World} {v : Value} {ks : List Tr} (h : ArgK W v ks) : ∃ q cap, v = .slice q ks.length cap ∧ ks.length ≤ maxLen ∧ ks.length ≤ cap ∧
    (∀ (i : Nat) (t : Tr), ks[i]? = some t → ∃ g off, q = some ⟨g, off, none⟩ ∧ g < W.heap.size ∧ Six W g (off + i * 6) t.f) := by
  rcases h with ⟨p, cap, rfl, rfl, -⟩ | ⟨g, off, cap, rfl, h2, h3, h4, h5⟩
  · exact ⟨p, cap, rfl, Nat.zero_le _, Nat.zero_le _, fun i x hx => by simp at hx⟩
  · exact ⟨_, cap, rfl, Nat.le_trans h3 h4, h3, fun i x hx => ⟨g, off, rfl, h2, h5 i x hx⟩⟩
/-- Cells that lay stay. -/
def CK (W W' : World) : Prop := CKeep (fun k => k < W.heap.size) W W'
theorem CK.of_below {W W' : World} (h : Below W.heap.size W W') : CK W W' := ⟨h.size, fun k _ _ _ _ hc => (h.block k (lt_of_heap hc)).trans hc⟩
theorem CK.refl (W : World) : CK W W := ⟨Nat.le_refl _, fun _ _ _ _ _ h => h⟩
theorem CK.trans {A B C : World} (h : CK A B) (k : CK B C) : CK A C := ⟨Nat.le_trans h.size k.size, fun i cur t fr hi hc => k.same i cur t fr (Nat.lt_of_lt_of_le hi h.size) (h.same i cur t fr hi hc)⟩
theorem CK.step {A B C : World} (h : CK A B) (k : CKeep (fun i => i < A.heap.size) B C) : CK A C := ⟨Nat.le_trans h.size k.size, fun i cur t fr hi hc => k.same i cur t fr hi (h.same i cur t fr hi hc)⟩
theorem ArgK.ck {W W' : World} {v : Value} {ks : List Tr} (h : ArgK W v ks) (hc : CK W W') : ArgK W' v ks := by
  rcases h with h | ⟨g, off, cap, h1, h2, h3, h4, h5⟩
  · exact .inl h
  · exact .inr ⟨g, off, cap, h1, Nat.lt_of_lt_of_le h2 hc.size, h3, h4, fun i x hx => (h5 i x hx).ck hc h2⟩
theorem ArgR.ck {W W' : World} {v : Value} {L : List (Int × Int)} (h : ArgR W v L) (hc : CK W W') : ArgR W' v L := by
  rcases h with h | ⟨g, off, cap, h1, h2, h3, h4, h5⟩
  · exact .inl h
  · exact .inr ⟨g, off, cap, h1, Nat.lt_of_lt_of_le h2 hc.size, h3, h4, fun i x hx => ⟨cell_ck hc (p := ⟨g, off + 2 * i, none⟩) h2 (h5 i x hx).1, cell_ck hc (p := ⟨g, off + 2 * i + 1, none⟩) h2 (h5 i x hx).2⟩⟩
/-- A node that can be read. -/
structure NA (W : World) (t : Tr) : Prop where
  r : ArgR W (.slice t.f.rq t.f.rs.length t.f.rc) t.f.rs
  k : ArgK W (.slice t.f.kq t.f.kl t.f.kc) t.ks
  fit : Fit t.f.rs
  len : t.f.rs.length + 3 ≤ 8796093022208
theorem NA.ck {W W' : World} {t : Tr} (h : NA W t) (hc : CK W W') : NA W' t := ⟨h.r.ck hc, h.k.ck hc, h.fit, h.len⟩
theorem NA.kl {W : World} {t : Tr} (h : NA W t) : t.f.kl = t.ks.length := by
  obtain ⟨q, cap, e, -⟩ := h.k.slice
  injection e
/-- A tree that can be read. -/
def TA (W : World) (t : Tr) : Prop := Every (NA W) t
theorem every_imp {P Q : Tr → Prop} (h : ∀ t, P t → Q t) (t : Tr) : Every P t → Every Q t := by
  refine Tr.ind (P := fun t => Every P t → Every Q t) (fun t ih he => ?_) t
  exact (every_eq t).2 ⟨h t ((every_eq t).1 he).1, (everyL_iff _).2 fun u hu => ih u hu (every_kid he hu)⟩
theorem TA.ck {W W' : World} {t : Tr} (h : TA W t) (hc : CK W W') : TA W' t := every_imp (fun _ q => NA.ck q hc) t h
theorem TA.kept {W W' : World} {t : Tr} (h : TA W t) (hb : Below W.heap.size W W') : TA W' t := h.ck (CK.of_below hb)
theorem TA.node {W : World} {t : Tr} (h : TA W t) : NA W t := ((every_eq t).1 h).1
theorem TA.kid {W : World} {t u : Tr} (h : TA W t) (hu : u ∈ t.ks) : TA W u := every_kid h hu
theorem TA.at {W : World} {t : Tr} (h : TA W t) {p : Way} {z : El} (hz : z ∈ pp p t) : TA W z.2 := every_pp t p h z hz
/-- A box that holds a node. -/
def BoxN (W : World) (b : Nat) (f : Fl) : Prop := W.heap[b]? = some (.cells #[.int .i64 f.k, .int .i64 f.n, .int .i64 f.mn, .int .i64 f.mx, .slice f.rq f.rs.length f.rc, .slice f.kq f.kl f.kc] 25 (0, 0))
theorem BoxN.six {W : World} {b : Nat} {f : Fl} (h : BoxN W b f) : Six W b 0 f :=
  ⟨cell_row h (i := 0) rfl, cell_row h (i := 1) rfl, cell_row h (i := 2) rfl, cell_row h (i := 3) rfl, cell_row h (i := 4) rfl, cell_row h (i := 5) rfl⟩
end Go.Proofs.Ytlodjinejeajcaa
namespace Go.Proofs.Ytlodjinejeajcaa
open Go Go.RowKit

inductive Er where
  | mk (k n mn mx : Int) (rs : List (Int × Int)) (ks : List Er)
mutual
def er : Tr → Er | .mk f ks => .mk f.k f.n f.mn f.mx f.rs (ers ks)
def ers : List Tr → List Er | [] => [] | t :: ts => er t :: ers ts
end
theorem ers_map (l : List Tr) : ers l = l.map er := by
  induction l with
  | nil => rw [ers]; rfl
  | cons t ts ih => rw [ers, ih]; rfl
theorem er_eq (t : Tr) : er t = .mk t.f.k t.f.n t.f.mn t.f.mx t.f.rs (t.ks.map er) := by
  cases t
  rw [er, ers_map]
  rfl
theorem er_iff (a b : Tr) : er a = er b ↔ a.f.k = b.f.k ∧ a.f.n = b.f.n ∧ a.f.mn = b.f.mn ∧ a.f.mx = b.f.mx ∧ a.f.rs = b.f.rs ∧ a.ks.map er = b.ks.map er := by
  rw [er_eq a, er_eq b]
  constructor
  · intro h
    injection h with h1 h2 h3 h4 h5 h6
    exact ⟨h1, h2, h3, h4, h5, h6⟩
  · rintro ⟨h1, h2, h3, h4, h5, h6⟩
    rw [h1, h2, h3, h4, h5, h6]
open Classical in
noncomputable def sameB (a b : Er) : Bool := decide (a = b)
theorem sameB_iff (a b : Er) : sameB a b = true ↔ a = b := by unfold sameB; simp
theorem sameB_refl (a : Er) : sameB a a = true := (sameB_iff a a).2 rfl
open Classical in
noncomputable def samesB (a b : List Er) : Bool := decide (a = b)
theorem samesB_iff (a b : List Er) : samesB a b = true ↔ a = b := by unfold samesB; simp
end Go.Proofs.Ytlodjinejeajcaa
namespace Go.Proofs.Ytlodjinejeajcaa
open Go Go.RowKit

def kindB (k : Int) : Bool := decide (1 ≤ k) && decide (k ≤ 9)
def thingB (k : Int) : Bool := k == 2 || k == 7 || k == 8 || k == 9
def bndB (a b : Int) : Bool := decide (0 ≤ a) && decide (a ≤ 255) && (b == -1 || (decide (a ≤ b) && decide (b ≤ 255)))
def kidsB (k : Int) (n : Nat) : Bool := if k = 5 ∨ k = 6 then decide (2 ≤ n) else if k = 7 ∨ k = 9 then n == 1 else n == 0

set_option maxHeartbeats 1000000 in
theorem isKind_c (k : Int) (w : World) : Calls Try.prog 66 #[.int .i64 k] w fun e w' => e = .returned (.bool (kindB k)) ∧ w' = w := by
  have hid : ∀ b, kindB k = b → Calls Try.prog 66 #[.int .i64 k] w fun e w' => e = .returned (.bool b) ∧ w' = w := by
    intro b hb
    by_cases h1 : (1 : Int) ≤ k
    · by_cases h2 : k ≤ 9
      · have e : b = true := by rw [← hb]; simp [kindB, h1, h2]
        subst e
        clear hb
        go_enter Try.func66, Try.ntmps66
        go_wp2
        go_ret
        exact ⟨rfl, rfl⟩
      · have e : b = false := by rw [← hb]; simp [kindB, h2]
        subst e
        clear hb
        go_enter Try.func66, Try.ntmps66
        go_wp2
        go_ret
        exact ⟨rfl, rfl⟩
    · have e : b = false := by rw [← hb]; simp [kindB, h1]
      subst e
      clear hb
      go_enter Try.func66, Try.ntmps66
      go_wp2
      go_ret
      exact ⟨rfl, rfl⟩
  exact hid _ rfl

set_option maxHeartbeats 1000000 in
theorem mayRepeat_c (k : Int) (w : World) : Calls Try.prog 44 #[.int .i64 k] w fun e w' => e = .returned (.bool (thingB k)) ∧ w' = w := by
  have hid : ∀ b, thingB k = b → Calls Try.prog 44 #[.int .i64 k] w fun e w' => e = .returned (.bool b) ∧ w' = w := by
    intro b hb
    unfold thingB at hb
    cases h1 : (k == 2) <;> cases h2 : (k == 7) <;> cases h3 : (k == 8) <;> cases h4 : (k == 9) <;> rw [h1, h2, h3, h4] at hb <;> simp at hb <;> subst hb
    all_goals
      go_enter Try.func44, Try.ntmps44
      go_wp2
      go_ret
      exact ⟨rfl, rfl⟩
  exact hid _ rfl

set_option maxHeartbeats 1000000 in
theorem rightBounds_c (a b : Int) (w : World) : Calls Try.prog 45 #[.int .i64 a, .int .i64 b] w fun e w' => e = .returned (.bool (bndB a b)) ∧ w' = w := by
  have hid : ∀ r, bndB a b = r → Calls Try.prog 45 #[.int .i64 a, .int .i64 b] w fun e w' => e = .returned (.bool r) ∧ w' = w := by
    intro r hb
    unfold bndB at hb
    by_cases h1 : (0 : Int) ≤ a
    · by_cases h2 : a ≤ 255
      · cases h3 : (b == -1) with
        | true =>
          simp [h1, h2, h3] at hb
          subst hb
          go_enter Try.func45, Try.ntmps45
          go_wp2
          go_ret
          exact ⟨rfl, rfl⟩
        | false =>
          by_cases h4 : a ≤ b
          · by_cases h5 : b ≤ 255
            · simp [h1, h2, h3, h4, h5] at hb
              subst hb
              go_enter Try.func45, Try.ntmps45
              go_wp2
              go_ret
              exact ⟨rfl, rfl⟩
            · simp [h1, h2, h3, h4, h5] at hb
              subst hb
              go_enter Try.func45, Try.ntmps45
              go_wp2
              go_ret
              exact ⟨rfl, rfl⟩
          · simp [h1, h2, h3, h4] at hb
            subst hb
            go_enter Try.func45, Try.ntmps45
            go_wp2
            go_ret
            exact ⟨rfl, rfl⟩
      · simp [h1, h2] at hb
        subst hb
        go_enter Try.func45, Try.ntmps45
        go_wp2
        go_ret
        exact ⟨rfl, rfl⟩
    · simp [h1] at hb
      subst hb
      go_enter Try.func45, Try.ntmps45
      go_wp2
      go_ret
      exact ⟨rfl, rfl⟩
  exact hid _ rfl

theorem beq_zero (n : Nat) : ((n : Int) == 0) = (n == 0) := by cases n <;> rfl
theorem beq_one (n : Nat) : ((n : Int) == 1) = (n == 1) := by rw [Bool.eq_iff_iff]; simp; omega
set_option maxHeartbeats 1000000 in
theorem rightKids_c (f : Fl) (w : World) : Calls Try.prog 51 #[.agg #[.int .i64 f.k, .int .i64 f.n, .int .i64 f.mn, .int .i64 f.mx, .slice f.rq f.rs.length f.rc, .slice f.kq f.kl f.kc]] w fun e w' => e = .returned (.bool (kidsB f.k f.kl)) ∧ Below w.heap.size w w' := by
  obtain ⟨r, hr⟩ : ∃ r, kidsB f.k f.kl = r := ⟨_, rfl⟩
  rw [hr]
  have HR := hide hr
  have B1 : Hid (Below w.heap.size w (w.alloc (.cells #[.int .i64 f.k, .int .i64 f.n, .int .i64 f.mn, .int .i64 f.mx, .slice f.rq f.rs.length f.rc, .slice f.kq f.kl f.kc] 25))) := (Below.refl _ _).alloc (Nat.le_refl _) _
  have N1 : Hid (BoxN (w.alloc (.cells #[.int .i64 f.k, .int .i64 f.n, .int .i64 f.mn, .int .i64 f.mx, .slice f.rq f.rs.length f.rc, .slice f.kq f.kl f.kc] 25)) w.heap.size f) := alloc_new w _
  obtain ⟨c0, -, -, -, -, c5⟩ := N1.out.six
  simp only [Nat.zero_add] at c5
  clear hr
  cases h5 : (f.k == 5) <;> cases h6 : (f.k == 6) <;> cases h7 : (f.k == 7) <;> cases h9 : (f.k == 9)
  all_goals
    go_enter Try.func51, Try.ntmps51
    go_wp2
    go_ret
    refine ⟨?_, B1.out⟩
    rw [← HR.out]
    unfold kidsB
    simp at h5 h6 h7 h9
    simp [h5, h6, h7, h9]
    try first | exact beq_zero _ | exact beq_one _ | omega
end Go.Proofs.Ytlodjinejeajcaa
namespace Go.Proofs.Ytlodjinejeajcaa
open Go Go.RowKit Go.Shelf

/-- What a range over a tree is handed. -/
def encN (x : El) : Array Value := #[.int .i64 ((x.1.length : Int) + 1), .agg #[.int .i64 x.2.f.k, .int .i64 x.2.f.n, .int .i64 x.2.f.mn, .int .i64 x.2.f.mx, .slice x.2.f.rq x.2.f.rs.length x.2.f.rc, .slice x.2.f.kq x.2.f.kl x.2.f.kc]]
theorem pps_append (par : Tr) (p : Way) (a b : List Tr) : ∀ i, pps par p i (a ++ b) = pps par p i a ++ pps par p (i + a.length) b := by
  induction a with
  | nil => intro i; rw [pps_nil]; rfl
  | cons x a ih => intro i; rw [List.cons_append, pps_cons, pps_cons, ih (i + 1), List.append_assoc, List.length_cons, show i + 1 + a.length = i + (a.length + 1) by omega]
theorem pps_take {par : Tr} {p : Way} {ks : List Tr} {j : Nat} {u : Tr} (h : ks[j]? = some u) : pps par p 0 (ks.take (j + 1)) = pps par p 0 (ks.take j) ++ pp ((par, j) :: p) u := by
  have hj := (List.getElem?_eq_some_iff.1 h).1
  rw [List.take_add_one, h, Option.toList_some, pps_append, pps_cons, pps_nil, List.append_nil, List.length_take, Nat.zero_add, Nat.min_eq_left (by omega)]
theorem pps_pre {par : Tr} {p : Way} {ks : List Tr} (j : Nat) : pps par p 0 (ks.take j) <+: pps par p 0 ks := by
  have := pps_append par p (ks.take j) (ks.drop j) 0
  rw [List.take_append_drop] at this
  rw [this]
  exact List.prefix_append _ _
/-- Blocks that a body leaves: those of the tree, and those that were made since the range began. -/
def Nn (b0 b1 : Nat) : Nat → Prop := fun k => k < b0 ∨ b1 ≤ k

theorem pre_cons {L pre : List El} {p : Way} {t : Tr} {r : List El} (h : pre ++ pp p t <+: L) (hr : r <+: pps t p 0 t.ks) : pre ++ (p, t) :: r <+: L := by
  refine List.IsPrefix.trans ?_ h
  rw [pp_eq]
  exact (List.prefix_append_right_inj _).2 (List.cons_prefix_cons.2 ⟨rfl, hr⟩)

/-- What descend answers. -/
def DescPost (w0 : World) (b1 : Nat) (L : List El) (J Jx : List El → World → Prop) (xs : List El) (e : Ending) (V' : World) : Prop :=
  ∃ r : Bool, e = .returned (.bool r) ∧ ((r = true ∧ J xs V' ∧ CK w0 V' ∧ b1 ≤ V'.heap.size) ∨ (r = false ∧ ∃ pre', pre' <+: L ∧ Jx pre' V'))
set_option maxRecDepth 100000 in
set_option maxHeartbeats 4000000 in
theorem desc_c {w0 : World} {L : List El} {l b1 : Nat} {J Jx : List El → World → Prop} {B : Nat} (hJ : OwnFrom B J) (n : Nat) (hL : ∀ pre V, J pre V → pre.length ≤ 1000000)
    (hY : ∀ pre x V, J pre V → pre ++ [x] <+: L → YieldAt Fence.wide (n - 1) Try.prog l (encN x) V fun e V' => KeepsFrom B V V' ∧ ((e = .returned (.bool true) ∧ J (pre ++ [x]) V' ∧ CKeep (Nn w0.heap.size b1) V V') ∨ (e = .returned (.bool false) ∧ Jx (pre ++ [x]) V'))) :
    ∀ (m : Nat) (t : Tr) (p : Way) (pre : List El) (V : World), t.sz ≤ m → pre ++ pp p t <+: L → TA w0 t → CK w0 V → J pre V → p.length ≤ pre.length → b1 ≤ V.heap.size →
      CallsIn Fence.wide n Try.prog 48 #[.agg #[.int .i64 t.f.k, .int .i64 t.f.n, .int .i64 t.f.mn, .int .i64 t.f.mx, .slice t.f.rq t.f.rs.length t.f.rc, .slice t.f.kq t.f.kl t.f.kc], .int .i64 ((p.length : Int) + 1), .func (.yield l) #[] #[]] V (DescPost w0 b1 L J Jx (pre ++ pp p t)) := by
  intro m
  induction m with
  | zero => intro t p pre V hm; exact absurd (sz_pos t) (by omega)
  | succ m ih =>
    intro t p pre V hm hpre hta hck hj hpl hb1
    have hfn : ∀ f, Fence.wide.fn f := fun _ => trivial
    have IH := hide ih
    have HL := hide hL
    have HPRE := hide hpre
    have HTA := hide hta
    have HM := hide hm
    have hlen := hL pre V hj
    obtain ⟨q, cap, hkv, hk1, hk2, hk3⟩ := hta.node.k.slice
    injection hkv with hkq hkl hkc
    subst hkq
    have HKL := hide hkl
    have HK3 := hide hk3
    have hkm : t.ks.length ≤ 9223372036854775807 := hk1
    clear hkl hkc hk3 hk1
    have B1 : Hid (Below V.heap.size V (V.alloc (.cells #[.int .i64 t.f.k, .int .i64 t.f.n, .int .i64 t.f.mn, .int .i64 t.f.mx, .slice t.f.rq t.f.rs.length t.f.rc, .slice t.f.kq t.f.kl t.f.kc] 25))) := (Below.refl _ _).alloc (Nat.le_refl _) _
    have N1 : Hid (BoxN (V.alloc (.cells #[.int .i64 t.f.k, .int .i64 t.f.n, .int .i64 t.f.mn, .int .i64 t.f.mx, .slice t.f.rq t.f.rs.length t.f.rc, .slice t.f.kq t.f.kl t.f.kc] 25)) V.heap.size t.f) := alloc_new V _
    have J1 : Hid (J pre (V.alloc (.cells #[.int .i64 t.f.k, .int .i64 t.f.n, .int .i64 t.f.mn, .int .i64 t.f.mx, .slice t.f.rq t.f.rs.length t.f.rc, .slice t.f.kq t.f.kl t.f.kc] 25))) := hJ.alloc _ hj
    have C1 : Hid (CK w0 (V.alloc (.cells #[.int .i64 t.f.k, .int .i64 t.f.n, .int .i64 t.f.mn, .int .i64 t.f.mx, .slice t.f.rq t.f.rs.length t.f.rc, .slice t.f.kq t.f.kl t.f.kc] 25))) := hck.trans (CK.of_below B1.out)
    have Hb1 := hide hb1
    clear ih hL hpre hta hm hj hck hb1
    refine callsIn_of_wp Try.func48 rfl trivial ?_ rfl
    simp only [Try.ntmps48, List.size_toArray, List.length_cons, List.length_nil, Nat.reduceAdd, Nat.reduceSub, Array.replicate_succ, Array.replicate_zero, List.push_toArray, List.append_toArray, List.nil_append, List.cons_append]
    have cs := N1.out.six
    obtain ⟨fn, tmps, assign, body, hy, hR⟩ := hY pre (p, t) _ J1.out (pre_cons HPRE.out List.nil_prefix)
    simp only [encN] at hy
    obtain ⟨c0, c1, c2, c3, c4, c5⟩ := cs
    simp only [Nat.zero_add] at c1 c2 c3 c4 c5
    gi_wp2
    refine ⟨(fun z => by cases z), hR.mono ?_⟩
    rintro e W3 ⟨-, (⟨rfl, hJ3, hk3⟩ | ⟨rfl, hJx3⟩)⟩
    · have cc5 : W3.cell? ⟨V.heap.size, 5, none⟩ = some (.slice t.f.kq t.f.kl t.f.kc) := cell_ck hk3 (p := ⟨V.heap.size, 5, none⟩) (.inr Hb1.out) c5
      have J3 := hide hJ3
      have C3 : Hid (CK w0 W3) := C1.out.step ⟨hk3.size, fun i cur ty fr hi hc => hk3.same i cur ty fr (.inl hi) hc⟩
      have S3 : Hid (b1 ≤ W3.heap.size) := Nat.le_trans Hb1.out (Nat.le_trans B1.out.size hk3.size)
      rw [HKL.out] at cc5
      clear hJ3 hk3 hy hR c0 c1 c2 c3 c4 c5 J1 C1 N1 B1
      gi_wp2
      gi_loopw [17] (fun i wr => ∃ j : Nat, j ≤ t.ks.length ∧ i = .int .i64 (j : Int) ∧ J (pre ++ (p, t) :: pps t p 0 (t.ks.take j)) wr ∧ CK w0 wr ∧ b1 ≤ wr.heap.size) (fun i _ => t.ks.length - (intOf i).toNat)
      case atStart => exact ⟨0, Nat.zero_le _, rfl, by rw [List.take_zero, pps_nil]; exact J3.out, C3.out, S3.out⟩
      case round =>
        clear J3 C3 S3 cc5
        obtain ⟨j, hj, rfl, hj1, hj2, hj3⟩ := hrel
        have HJ := hide hj1
        have HC := hide hj2
        have HS := hide hj3
        clear hj1 hj2 hj3
        by_cases hjl : j < t.ks.length
        · have e0 : (j : Int) < (t.ks.length : Int) := by omega
          obtain ⟨u, hu⟩ : ∃ u, t.ks[j]? = some u := ⟨_, List.getElem?_eq_getElem hjl⟩
          obtain ⟨g, off, hq, hg, hsix⟩ := HK3.out j u hu
          rw [hq]
          have HU := hide hu
          have hin : u ∈ t.ks := List.mem_of_getElem? hu
          obtain ⟨c0, c1, c2, c3, c4, c5⟩ := hsix.ck HC.out hg
          have B4 : Hid (Below wr.heap.size wr (wr.alloc (.cells #[.int .i64 u.f.k, .int .i64 u.f.n, .int .i64 u.f.mn, .int .i64 u.f.mx, .slice u.f.rq u.f.rs.length u.f.rc, .slice u.f.kq u.f.kl u.f.kc] 25))) := (Below.refl _ _).alloc (Nat.le_refl _) _
          have N4 : Hid (BoxN (wr.alloc (.cells #[.int .i64 u.f.k, .int .i64 u.f.n, .int .i64 u.f.mn, .int .i64 u.f.mx, .slice u.f.rq u.f.rs.length u.f.rc, .slice u.f.kq u.f.kl u.f.kc] 25)) wr.heap.size u.f) := alloc_new wr _
          obtain ⟨d0, d1, d2, d3, d4, d5⟩ := N4.out.six
          simp only [Nat.zero_add] at d1 d2 d3 d4 d5
          have hj1 := HL.out _ _ HJ.out
          have IHU := hide (IH.out u ((t, j) :: p) (pre ++ (p, t) :: pps t p 0 (t.ks.take j)) (wr.alloc (.cells #[.int .i64 u.f.k, .int .i64 u.f.n, .int .i64 u.f.mn, .int .i64 u.f.mx, .slice u.f.rq u.f.rs.length u.f.rc, .slice u.f.kq u.f.kl u.f.kc] 25)) (by have := sz_kid hin; have := HM.out; omega)
            (by rw [List.append_assoc, List.cons_append, ← pps_take hu]; exact pre_cons HPRE.out (pps_pre _)) (HTA.out.kid hin) (HC.out.trans (CK.of_below B4.out)) (hJ.alloc _ HJ.out) (by simp; omega) (Nat.le_trans HS.out B4.out.size))
          have e1 : ((((t, j) :: p).length : Nat) : Int) + 1 = ((p.length : Int) + 1) + 1 := by simp
          rw [e1] at IHU
          clear hsix hu
          gi_wp2
          refine ⟨(fun z => by cases z), (callsIn_wide.2 (callsIn_wide.1 IHU.out)).mono ?_⟩
          rintro e W5 ⟨r5, rfl, h5⟩
          have H5 := hide h5
          clear h5 c0 c1 c2 c3 c4 c5 d0 d1 d2 d3 d4 d5 IHU N4 B4
          cases r5 with
          | true =>
            rcases H5.out with ⟨-, h51, h52, h53⟩ | ⟨z, -⟩
            · have HN : Hid (J (pre ++ (p, t) :: pps t p 0 (t.ks.take (j + 1))) W5) := (by rw [pps_take HU.out, ← List.cons_append, ← List.append_assoc]; exact h51)
              have H52 := hide h52
              have H53 := hide h53
              clear h51 h52 h53 H5
              gi_wp2
              go_roundw
              case rel => exact ⟨j + 1, by omega, by go_num, HN.out, H52.out, H53.out⟩
              case measure => simp only [intOf]; omega
            · cases z
          | false =>
            rcases H5.out with ⟨z, -⟩ | ⟨-, pre', h51, h52⟩
            · cases z
            · have HN := hide (⟨pre', h51, h52⟩ : ∃ pre', pre' <+: L ∧ Jx pre' W5)
              clear H5 h51 h52
              gi_wp2
              go_ret
              exact ⟨false, rfl, .inr ⟨rfl, HN.out⟩⟩
        · have e0 : ¬ (j : Int) < (t.ks.length : Int) := by omega
          have HN : Hid (J (pre ++ pp p t) wr) := (by rw [pp_eq, show t.ks = t.ks.take j by rw [List.take_of_length_le (by omega)]]; exact HJ.out)
          gi_wp2
          go_ret
          exact ⟨true, rfl, .inl ⟨rfl, HN.out, HC.out, HS.out⟩⟩
    · have HN := hide hJx3
      clear hJx3
      gi_wp2
      go_ret
      exact ⟨false, rfl, .inr ⟨rfl, _, pre_cons HPRE.out List.nil_prefix, HN.out⟩⟩

set_option maxHeartbeats 1000000 in
theorem nodes_c (f : Fl) (w : World) :
    Calls Try.prog 29 #[.agg #[.int .i64 f.k, .int .i64 f.n, .int .i64 f.mn, .int .i64 f.mx, .slice f.rq f.rs.length f.rc, .slice f.kq f.kl f.kc]] w fun e w' => e = .returned (.func (.func 47) #[] #[.pointer (some ⟨w.heap.size, 0, none⟩)]) ∧ w' = w.alloc (.cells #[.int .i64 f.k, .int .i64 f.n, .int .i64 f.mn, .int .i64 f.mx, .slice f.rq f.rs.length f.rc, .slice f.kq f.kl f.kc] 25) := by
  go_enter Try.func29, Try.ntmps29
  go_wp2
  go_ret
  exact ⟨rfl, rfl⟩

/-- What a round is told. -/
def ToldN (t : Tr) (pre : List El) (x : El) (_ : World) : Prop := pre ++ [x] <+: pp [] t

set_option maxRecDepth 100000 in
set_option maxHeartbeats 2000000 in
theorem nodes_tells (n : Nat) {w0 w : World} {b : Nat} {t : Tr} (hB : BoxN w b t.f) (hta : TA w0 t) (hck : CK w0 w) :
    Tells n Try.prog 47 #[.pointer (some ⟨b, 0, none⟩)] encN (Nn w0.heap.size w.heap.size) (ToldN t) (fun xs => xs = pp [] t) (fun pre => pre <+: pp [] t) w := by
  intro l J Jx V hV hJ hJx hb hY h0
  have hfn : ∀ f, Fence.wide.fn f := fun _ => trivial
  have D := hide (desc_c (w0 := w0) (L := pp [] t) (b1 := w.heap.size) (Jx := Jx) hJ n hb (fun pre x V => hY pre x V) t.sz t [] [] V (Nat.le_refl _) (by rw [List.nil_append]; exact List.prefix_refl _) hta (hck.step ⟨hV.size, fun k _ _ _ _ hc => (hV.block k (lt_of_heap hc)).trans hc⟩) h0 (Nat.le_refl _) hV.size)
  have HB : Hid (BoxN V b t.f) := (hV.block _ (lt_of_heap hB)).trans hB
  obtain ⟨c0, c1, c2, c3, c4, c5⟩ := HB.out.six
  simp only [Nat.zero_add] at c1 c2 c3 c4 c5
  clear hJ hJx hb hY h0 hB hta hck hV
  refine callsIn_of_wp Try.func47 rfl trivial ?_ rfl
  simp only [Try.ntmps47, List.size_toArray, List.length_cons, List.length_nil, Nat.reduceAdd, Nat.reduceSub, Array.replicate_succ, Array.replicate_zero, List.push_toArray, List.append_toArray, List.nil_append, List.cons_append]
  gi_wp2
  refine ⟨(fun z => by cases z), (callsIn_wide.2 (callsIn_wide.1 D.out)).mono ?_⟩
  rintro e W5 ⟨r5, rfl, h5⟩
  have H5 := hide h5
  clear h5 D
  gi_wp2
  go_end0
  refine ⟨⟨_, rfl⟩, ?_⟩
  rcases H5.out with ⟨-, h51, -, -⟩ | ⟨-, pre', h51, h52⟩
  · exact .inl ⟨_, rfl, by rw [List.nil_append] at h51; exact h51⟩
  · exact .inr ⟨pre', h51, h52⟩

theorem ck_row {w0 W W' : World} {B : Nat} {row : Option Nat} (h : CK w0 W) (hg : W.grownBy W' row) (hr : ∀ r, row = some r → B ≤ r ∧ ∃ o : Obj, W.heap[r]? = some o ∧ o.isCells = false) : CK w0 W' :=
  ⟨Nat.le_trans h.size hg.size, fun k cur t fr hk hc => cells_kept hg hr (h.same k cur t fr hk hc)⟩
/-- The frame of a round over nodes. -/
def roundN (a : Act) (q d : Nat) (x : El) : Act := { tmps := (a.tmps.setIfInBounds q (.int .i64 ((x.1.length : Int) + 1))).setIfInBounds d (.agg #[.int .i64 x.2.f.k, .int .i64 x.2.f.n, .int .i64 x.2.f.mn, .int .i64 x.2.f.mx, .slice x.2.f.rq x.2.f.rs.length x.2.f.rc, .slice x.2.f.kq x.2.f.kl x.2.f.kc]), defers := [] }
def behindN (a : Act) (D : Nat) : Act := { a with defers := { target := .collected D, args := #[] } :: a.defers }
/-- A range over a tree's nodes. -/
theorem rangeN {g : Operand} {ps : Array Tmp} {assign body : Code} {Q : Exit → Act → World → Prop} {a : Act} {w : World} {n : Nat} (hn : 1 ≤ n) (q d : Nat) (b : Nat) {w0 : World} {t : Tr}
    (hg : a.eval g = .func (.func 47) #[] #[.pointer (some ⟨b, 0, none⟩)]) (hps : ps = #[q, d]) (hB : BoxN w b t.f) (hta : TA w0 t) (hck : CK w0 w)
    (I : List El → World → Prop) (Ix : Code → List El → World → Prop) (hI : OwnFrom w.heap.size I) (hIx : ∀ c, OwnFrom w.heap.size (Ix c)) (hbd : ∀ pre W, I pre W → pre.length ≤ 1000000) (h0 : I [] w)
    (Ax : Act → El → Act → World → Prop) (hAx : ∀ y x a', OwnFrom w.heap.size (fun (_ : Unit) W => Ax y x a' W))
    (hassign : ∀ (l : Nat) (pre : List El) (x : El) (W : World) (K : Act → World → Prop), I pre W → CK w0 W → w.heap.size ≤ W.heap.size → ToldN t pre x W → (∀ a' W', Below W.heap.size W W' → Ax (roundN a q d x) x a' W' → K a' W') →
      assign.wpIn (Fence.wide.inRound l) (n - 1 - 1) Try.prog (Exit.then K (fun _ _ _ => False)) (roundN a q d x) W)
    (hbody : ∀ (l : Nat) (pre : List El) (x : El) (a' : Act) (V : World), I pre V → CK w0 V → w.heap.size ≤ V.heap.size → ToldN t pre x V → Ax (roundN a q d x) x a' V → body.wpIn (Fence.wide.inRound l) (n - 1 - 1) Try.prog (ownPostG w.heap.size (CKeep (Nn w0.heap.size w.heap.size)) I Ix (pre ++ [x]) V) a' V)
    (hdone : ∀ (D : Nat) (V : World), w.heap.size ≤ D → I (pp [] t) V → CK w0 V → V.heap[D]? = some (.deferred (some [])) → Q .normal (behindN a D) V)
    (hstop : ∀ (D : Nat) (c : Code) (pre : List El) (V : World), w.heap.size ≤ D → pre <+: pp [] t → Ix c pre V → V.heap[D]? = some (.deferred (some [])) → c.wpIn Fence.wide n Try.prog Q (behindN a D) V) :
    (Code.rangeFunc g ps assign body).wpIn Fence.wide n Try.prog Q a w := by
  subst hps
  refine range_told (α := El) hn (gf := 47) hg (enters_of Try.func47 (by kernel_rfl) rfl) (encs := encN) (fun _ => rfl)
    (nodes_tells (n - 1) hB hta hck) (fun pre V => I pre V ∧ CK w0 V ∧ w.heap.size ≤ V.heap.size) Ix ?_ hIx (fun pre x _ _ _ _ h _ _ => h) (fun pre W h => hbd pre W h.1) ⟨h0, hck, Nat.le_refl _⟩ (fun x => Ax (roundN a q d x) x) (fun x => hAx _ x) ?_ ?_ ?_ hstop
  · intro pre A A' row hi hg hr
    exact ⟨hI pre A A' row hi.1 hg hr, ck_row hi.2.1 hg hr, Nat.le_trans hi.2.2 hg.size⟩
  · intro l pre x V K hi ht hK
    have := hassign l pre x V K hi.1 hi.2.1 hi.2.2 ht hK
    simpa [encN, roundN] using this
  · intro l pre x a' V hi ht hax
    refine wpIn_mono (hbody l pre x a' V hi.1 hi.2.1 hi.2.2 ht hax) fun e a3 W3 hp => ?_
    cases e with
    | normal => exact ⟨hp.1, hp.2.1, hp.2.2, hi.2.1.step ⟨hp.2.1.size, fun k cur ty fr hk hc => hp.2.1.same k cur ty fr (.inl hk) hc⟩, Nat.le_trans hi.2.2 hp.1.size⟩
    | ret => exact hp
    | exit id => exact hp
    | goto t => exact hp
    | panic ch => exact hp
    | outgrown => exact hp
  · rintro D xs V hD rfl hi hK
    exact hdone D V hD hi.1 hi.2.1 hK
/-- A round that takes what it is handed as it is. -/
def Ax0 (y : Act) (_ : El) (a' : Act) (_ : World) : Prop := a' = y
theorem ax0_own (B : Nat) (y : Act) (x : El) (a' : Act) : OwnFrom B (fun (_ : Unit) W => Ax0 y x a' W) := fun _ _ _ _ h _ _ => h
end Go.Proofs.Ytlodjinejeajcaa
