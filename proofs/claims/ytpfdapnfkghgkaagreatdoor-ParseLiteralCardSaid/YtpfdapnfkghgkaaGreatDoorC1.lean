/-
  Trees in memory: trees that can be read. What a tree is, wherever it lies; the same trees. Patterns' trees ahead of memory: tokens' shapes, what they are put together to, and that it can be done. Units of a text in bytes, as the model's own decoding tells them: mathematics alone. Top, characters: the class of all characters of a mode. Tokens of patterns as mathematics. Tokens stand one behind the other: mathematics. What a node alone may be: kinds, bounds, how many Kids. A pattern's tokens: how they may stand beside each other, what is wrong with groups; tokens as shapes: mathematics.
-/
import Derived.Test.YtpfdapnfkghgkaaGreatDoorC0
import Derived.Lib.MapLaws
import Derived.Lib.RuneCountTail
import Derived.Lib.Strings
import Derived.Lib.IndexMore
namespace Go.Proofs.YtpfdapnfkghgkaaGreatDoor
open Go Go.RowKit

theorem und_nodes : Tryz.prog.underlying 26 = some (.slice 28) := by kernel_rfl
theorem size_node : (Tryz.prog.info? 28).map (fun i => (i.zero, i.size, i.bytes)) = some (some (.agg #[.int .i64 0, .int .i64 0, .int .i64 0, .int .i64 0, .slice none 0 0, .slice none 0 0]), 6, 80) := by kernel_rfl
/-- Six cells: a node. -/
def Six (W : World) (g o : Nat) (f : Fl) : Prop :=
  W.cell? ⟨g, o, none⟩ = some (.int .i64 f.k) ∧ W.cell? ⟨g, o + 1, none⟩ = some (.int .i64 f.n) ∧ W.cell? ⟨g, o + 2, none⟩ = some (.int .i64 f.mn) ∧ W.cell? ⟨g, o + 3, none⟩ = some (.int .i64 f.mx) ∧ W.cell? ⟨g, o + 4, none⟩ = some (.slice f.rq f.rs.length f.rc) ∧ W.cell? ⟨g, o + 5, none⟩ = some (.slice f.kq f.kl f.kc)
theorem Six.ck {N : Nat → Prop} {W W' : World} {g o : Nat} {f : Fl} (h : Six W g o f) (hc : CKeep N W W') (hg : N g) : Six W' g o f :=
  ⟨cell_ck hc (p := ⟨g, o, none⟩) hg h.1, cell_ck hc (p := ⟨g, o + 1, none⟩) hg h.2.1, cell_ck hc (p := ⟨g, o + 2, none⟩) hg h.2.2.1, cell_ck hc (p := ⟨g, o + 3, none⟩) hg h.2.2.2.1, cell_ck hc (p := ⟨g, o + 4, none⟩) hg h.2.2.2.2.1, cell_ck hc (p := ⟨g, o + 5, none⟩) hg h.2.2.2.2.2⟩
/-- Kids that can be read. -/
def ArgK (W : World) (v : Value) (ks : List Tr) : Prop :=
  (∃ p cap, v = .slice p 0 cap ∧ ks = [] ∧ (p = none → cap = 0)) ∨ ∃ g off cap, v = .slice (some ⟨g, off, none⟩) ks.length cap ∧ g < W.heap.size ∧ ks.length ≤ cap ∧ cap ≤ maxLen ∧ ∀ (i : Nat) (t : Tr), ks[i]? = some t → Six W g (off + i * 6) t.f
theorem ArgK.slice {W : World} {v : Value} {ks : List Tr} (h : ArgK W v ks) : ∃ q cap, v = .slice q ks.length cap ∧ ks.length ≤ maxLen ∧ ks.length ≤ cap ∧
    (∀ (i : Nat) (t : Tr), ks[i]? = some t → ∃ g off, q = some ⟨g, off, none⟩ ∧ g < W.heap.size ∧ Six W g (off + i * 6) t.f) := by
  rcases h with ⟨p, cap, rfl, rfl, -⟩ | ⟨g, off, cap, rfl, h2, h3, h4, h5⟩
  · exact ⟨p, cap, rfl, Nat.zero_le _, Nat.zero_le _, fun i x hx => by simp at hx⟩
  · exact ⟨_, cap, rfl, Nat.le_trans h3 h4, h3, fun i x hx => ⟨g, off, rfl, h2, h5 i x hx⟩⟩
/-- Cells that lay stay. -/
def CK (W W' : World) : Prop := CKeep (fun k => k < W.heap.size) W W'
theorem CK.of_below {W W' : World} (h : Below W.heap.size W W') : CK W W' := ⟨h.size, fun k _ _ _ _ hc => (h.block k (lt_of_heap hc)).trans hc⟩
theorem CK.refl (W : World) : CK W W := ⟨Nat.le_refl _, fun _ _ _ _ _ h => h⟩
theorem CK.trans {A B C : World} (h : CK A B) (k : CK B C) : CK A C := ⟨Nat.le_trans h.size k.size, fun i cur t fr hi hc => k.same i cur t fr (Nat.lt_of_lt_of_le hi h.size) (h.same i cur t fr hi hc)⟩
theorem CK.step {A B C : World} (h : CK A B) (k : CKeep (fun i => i < A.heap.size) B C) : CK A C := ⟨Nat.le_trans h.size k.size, fun i cur t fr hi hc => k.same i cur t fr hi (h.same i cur t fr hi hc)⟩
theorem ArgK.ck {W W' : World} {v : Value} {ks : List Tr} (h : ArgK W v ks) (hc : CK W W') : ArgK W' v ks := by
  rcases h with h | ⟨g, off, cap, h1, h2, h3, h4, h5⟩
  · exact .inl h
  · exact .inr ⟨g, off, cap, h1, Nat.lt_of_lt_of_le h2 hc.size, h3, h4, fun i x hx => (h5 i x hx).ck hc h2⟩
theorem ArgR.ck {W W' : World} {v : Value} {L : List (Int × Int)} (h : ArgR W v L) (hc : CK W W') : ArgR W' v L := by
  rcases h with h | ⟨g, off, cap, h1, h2, h3, h4, h5⟩
  · exact .inl h
  · exact .inr ⟨g, off, cap, h1, Nat.lt_of_lt_of_le h2 hc.size, h3, h4, fun i x hx => ⟨cell_ck hc (p := ⟨g, off + 2 * i, none⟩) h2 (h5 i x hx).1, cell_ck hc (p := ⟨g, off + 2 * i + 1, none⟩) h2 (h5 i x hx).2⟩⟩
/-- A node's lists lie in blocks that may be written. -/
def NO (W : World) (t : Tr) : Prop := (∀ a, t.f.rq = some a → t.f.rs ≠ [] → ∃ cur, W.heap[a.block]? = some (.cells cur 99 (0, 0))) ∧ (∀ a, t.f.kq = some a → t.ks ≠ [] → ∃ cur, W.heap[a.block]? = some (.cells cur 28 (0, 0)))
theorem NO.ck {W W' : World} {t : Tr} (h : NO W t) (hc : CK W W') : NO W' t :=
  ⟨fun a e z => by obtain ⟨cur, q⟩ := h.1 a e z; exact ⟨cur, hc.same _ _ _ _ (lt_of_heap q) q⟩, fun a e z => by obtain ⟨cur, q⟩ := h.2 a e z; exact ⟨cur, hc.same _ _ _ _ (lt_of_heap q) q⟩⟩
theorem NO.rows {base : Nat} {W : World} {f : Fl} {ks : List Tr} (hr : W.ownsRow base 99 2 (.slice f.rq f.rs.length f.rc) f.rs.length (cellsR f.rs)) (hk : ∀ a, f.kq = some a → ks ≠ [] → ∃ cur, W.heap[a.block]? = some (.cells cur 28 (0, 0))) : NO W (.mk f ks) :=
  ⟨fun a e _ => (ownsRow_at hr (g := a.block) (by rw [show f.rq = some a from e]; rfl)).2.2, hk⟩
/-- A node that can be read. -/
structure NA (W : World) (t : Tr) : Prop where
  r : ArgR W (.slice t.f.rq t.f.rs.length t.f.rc) t.f.rs
  k : ArgK W (.slice t.f.kq t.f.kl t.f.kc) t.ks
  fit : Fit t.f.rs
  len : t.f.rs.length + 3 ≤ 8796093022208
  own : NO W t
theorem NA.ck {W W' : World} {t : Tr} (h : NA W t) (hc : CK W W') : NA W' t := ⟨h.r.ck hc, h.k.ck hc, h.fit, h.len, h.own.ck hc⟩
theorem NA.kl {W : World} {t : Tr} (h : NA W t) : t.f.kl = t.ks.length := by
  obtain ⟨q, cap, e, -⟩ := h.k.slice
  injection e
/-- A tree that can be read. -/
def TA (W : World) (t : Tr) : Prop := Every (NA W) t
theorem every_imp {P Q : Tr → Prop} (h : ∀ t, P t → Q t) (t : Tr) : Every P t → Every Q t := by
  refine Tr.ind (P := fun t => Every P t → Every Q t) (fun t ih he => ?_) t
  exact (every_eq t).2 ⟨h t ((every_eq t).1 he).1, (everyL_iff _).2 fun u hu => ih u hu (every_kid he hu)⟩
theorem TA.ck {W W' : World} {t : Tr} (h : TA W t) (hc : CK W W') : TA W' t := every_imp (fun _ q => NA.ck q hc) t h
theorem TA.kept {W W' : World} {t : Tr} (h : TA W t) (hb : Below W.heap.size W W') : TA W' t := h.ck (CK.of_below hb)
theorem TA.node {W : World} {t : Tr} (h : TA W t) : NA W t := ((every_eq t).1 h).1
theorem TA.kid {W : World} {t u : Tr} (h : TA W t) (hu : u ∈ t.ks) : TA W u := every_kid h hu
theorem TA.at {W : World} {t : Tr} (h : TA W t) {p : Way} {z : El} (hz : z ∈ pp p t) : TA W z.2 := every_pp t p h z hz
/-- A box that holds a node. -/
def BoxN (W : World) (b : Nat) (f : Fl) : Prop := W.heap[b]? = some (.cells #[.int .i64 f.k, .int .i64 f.n, .int .i64 f.mn, .int .i64 f.mx, .slice f.rq f.rs.length f.rc, .slice f.kq f.kl f.kc] 28 (0, 0))
theorem BoxN.six {W : World} {b : Nat} {f : Fl} (h : BoxN W b f) : Six W b 0 f :=
  ⟨cell_row h (i := 0) rfl, cell_row h (i := 1) rfl, cell_row h (i := 2) rfl, cell_row h (i := 3) rfl, cell_row h (i := 4) rfl, cell_row h (i := 5) rfl⟩
end Go.Proofs.YtpfdapnfkghgkaaGreatDoor
namespace Go.Proofs.YtpfdapnfkghgkaaGreatDoor
open Go Go.RowKit

inductive Er where
  | mk (k n mn mx : Int) (rs : List (Int × Int)) (ks : List Er)
mutual
def er : Tr → Er | .mk f ks => .mk f.k f.n f.mn f.mx f.rs (ers ks)
def ers : List Tr → List Er | [] => [] | t :: ts => er t :: ers ts
end
theorem ers_map (l : List Tr) : ers l = l.map er := by
  induction l with
  | nil => rw [ers]; rfl
  | cons t ts ih => rw [ers, ih]; rfl
theorem er_eq (t : Tr) : er t = .mk t.f.k t.f.n t.f.mn t.f.mx t.f.rs (t.ks.map er) := by
  cases t
  rw [er, ers_map]
  rfl
theorem er_iff (a b : Tr) : er a = er b ↔ a.f.k = b.f.k ∧ a.f.n = b.f.n ∧ a.f.mn = b.f.mn ∧ a.f.mx = b.f.mx ∧ a.f.rs = b.f.rs ∧ a.ks.map er = b.ks.map er := by
  rw [er_eq a, er_eq b]
  constructor
  · intro h
    injection h with h1 h2 h3 h4 h5 h6
    exact ⟨h1, h2, h3, h4, h5, h6⟩
  · rintro ⟨h1, h2, h3, h4, h5, h6⟩
    rw [h1, h2, h3, h4, h5, h6]
open Classical in
noncomputable def sameB (a b : Er) : Bool := decide (a = b)
theorem sameB_iff (a b : Er) : sameB a b = true ↔ a = b := by unfold sameB; simp
theorem sameB_refl (a : Er) : sameB a a = true := (sameB_iff a a).2 rfl
open Classical in
noncomputable def samesB (a b : List Er) : Bool := decide (a = b)
theorem samesB_iff (a b : List Er) : samesB a b = true ↔ a = b := by unfold samesB; simp
end Go.Proofs.YtpfdapnfkghgkaaGreatDoor
namespace Go.Proofs.YtpfdapnfkghgkaaGreatDoor

/-- What a token is to a tree: one that stands for itself, the beginning of a group (with its number), its end, an or, how often. -/
inductive Sgn where
  | lf (k n : Int) (rs : List (Int × Int))
  | op (n : Nat)
  | cl
  | al
  | rp (a b : Int)
inductive Ps where
  | lf (k n : Int) (rs : List (Int × Int))
  | grp (n : Nat) (x : Ps)
  | rep (a b : Int) (x : Ps)
  | row (l : List Ps)
  | alt (l : List Ps)
mutual
def Ps.sz : Ps → Nat
  | .lf _ _ _ => 1
  | .grp _ x => x.sz + 1
  | .rep _ _ x => x.sz + 1
  | .row l => pszs l + 1
  | .alt l => pszs l + 1
def pszs : List Ps → Nat
  | [] => 0
  | x :: l => x.sz + pszs l
end
mutual
def Ps.dp : Ps → Nat
  | .lf _ _ _ => 1
  | .grp _ x => x.dp + 1
  | .rep _ _ x => x.dp + 1
  | .row l => pdps l + 1
  | .alt l => pdps l + 1
def pdps : List Ps → Nat
  | [] => 0
  | x :: l => max x.dp (pdps l)
end
mutual
/-- The tokens of a tree. -/
def pfl : Ps → List Sgn
  | .lf k n rs => [.lf k n rs]
  | .grp n x => .op n :: (pfl x ++ [.cl])
  | .rep a b x => pfl x ++ [.rp a b]
  | .row l => pfls l
  | .alt l => pfla l
def pfls : List Ps → List Sgn
  | [] => []
  | x :: l => pfl x ++ pfls l
def pfla : List Ps → List Sgn
  | [] => []
  | x :: l => pfl x ++ pflt l
def pflt : List Ps → List Sgn
  | [] => []
  | x :: l => .al :: (pfl x ++ pflt l)
end
mutual
def te : Ps → Er
  | .lf k n rs => .mk k n 0 0 rs []
  | .grp n x => .mk 7 n 0 0 [] [te x]
  | .rep a b x => .mk 9 0 a b [] [te x]
  | .row l => if l.isEmpty then .mk 1 0 0 0 [] [] else .mk 5 0 0 0 [] (tes l)
  | .alt l => .mk 6 0 0 0 [] (tes l)
def tes : List Ps → List Er
  | [] => []
  | x :: l => te x :: tes l
end
theorem tes_map (l : List Ps) : tes l = l.map te := by
  induction l with
  | nil => rw [tes]; rfl
  | cons x l ih => rw [tes, ih]; rfl
/-- Of which kind the tree's top is. -/
def Ps.kd : Ps → Int
  | .lf k _ _ => k
  | .grp _ _ => 7
  | .rep _ _ _ => 9
  | .row l => if l.isEmpty then 1 else 5
  | .alt _ => 6
def isItm : Ps → Bool
  | .row _ => false
  | .alt _ => false
  | _ => true
def isBr : Ps → Bool
  | .alt _ => false
  | _ => true
def isThg : Ps → Bool
  | .lf k _ _ => k == 2 || k == 8
  | .grp _ _ => true
  | .rep _ _ _ => true
  | _ => false
/-- A beginning is first, an end is last. -/
def Anch (l : List Ps) : Prop := ∀ (i : Nat) (x : Ps), l[i]? = some x → isItm x = true ∧ (x.kd = 3 → i = 0) ∧ (x.kd = 4 → i + 1 = l.length)
mutual
def wf : Ps → Prop
  | .lf k _ _ => k = 2 ∨ k = 3 ∨ k = 4 ∨ k = 8
  | .grp _ x => wf x
  | .rep _ _ x => isThg x = true ∧ wf x
  | .row l => l.length ≠ 1 ∧ Anch l ∧ wfs l
  | .alt l => 2 ≤ l.length ∧ (∀ x ∈ l, isBr x = true) ∧ wfs l
def wfs : List Ps → Prop
  | [] => True
  | x :: l => wf x ∧ wfs l
end
theorem wfs_iff (l : List Ps) : wfs l ↔ ∀ x ∈ l, wf x := by
  induction l with
  | nil => rw [wfs]; simp
  | cons x l ih => rw [wfs, ih]; simp
theorem pfls_append (a b : List Ps) : pfls (a ++ b) = pfls a ++ pfls b := by
  induction a with
  | nil => rw [pfls]; rfl
  | cons x a ih => rw [List.cons_append, pfls, pfls, ih, List.append_assoc]
theorem pflt_append (a b : List Ps) : pflt (a ++ b) = pflt a ++ pflt b := by
  induction a with
  | nil => rw [pflt]; rfl
  | cons x a ih => rw [List.cons_append, pflt, pflt, ih]; simp
theorem pfls_one (x : Ps) : pfls [x] = pfl x := by rw [pfls, pfls, List.append_nil]
theorem pflt_one (x : Ps) : pflt [x] = .al :: pfl x := by rw [pflt, pflt, List.append_nil]
theorem pfla_cons (x : Ps) (l : List Ps) : pfla (x :: l) = pfl x ++ pflt l := by rw [pfla]
theorem psz_pos (x : Ps) : 1 ≤ x.sz := by cases x <;> simp [Ps.sz]
theorem pszs_cons (x : Ps) (l : List Ps) : pszs (x :: l) = x.sz + pszs l := by rw [pszs]
theorem pszs_nil : pszs [] = 0 := by rw [pszs]
theorem psz_mem {x : Ps} {l : List Ps} (h : x ∈ l) : x.sz ≤ pszs l := by
  induction l with
  | nil => cases h
  | cons y l ih =>
    rw [pszs_cons]
    rcases List.mem_cons.1 h with rfl | h
    · omega
    · have := ih h; omega
/-- What holds of a part whose parts all have it, all have. -/
def Ps.kids : Ps → List Ps
  | .lf _ _ _ => []
  | .grp _ x => [x]
  | .rep _ _ x => [x]
  | .row l => l
  | .alt l => l
theorem psz_kid {x y : Ps} (h : y ∈ x.kids) : y.sz < x.sz := by
  cases x with
  | lf => cases h
  | grp n k => simp [Ps.kids] at h; subst h; simp [Ps.sz]
  | rep a b k => simp [Ps.kids] at h; subst h; simp [Ps.sz]
  | row l => have := psz_mem (show y ∈ l from h); simp [Ps.sz]; omega
  | alt l => have := psz_mem (show y ∈ l from h); simp [Ps.sz]; omega
theorem Ps.ind {P : Ps → Prop} (h : ∀ x, (∀ y ∈ x.kids, P y) → P x) (x : Ps) : P x := by
  have : ∀ (m : Nat) (x : Ps), x.sz ≤ m → P x := by
    intro m
    induction m with
    | zero => intro x hx; have := psz_pos x; omega
    | succ m ih => intro x hx; exact h x fun y hy => ih y (by have := psz_kid hy; omega)
  exact this x.sz x (Nat.le_refl _)
theorem wf_kid {x y : Ps} (h : wf x) (hy : y ∈ x.kids) : wf y := by
  cases x with
  | lf => cases hy
  | grp n k => simp [Ps.kids] at hy; subst hy; rw [wf] at h; exact h
  | rep a b k => simp [Ps.kids] at hy; subst hy; rw [wf] at h; exact h.2
  | row l => rw [wf] at h; exact (wfs_iff l).1 h.2.2 y hy
  | alt l => rw [wf] at h; exact (wfs_iff l).1 h.2.2 y hy

/- How tokens may stand beside each other. -/
def okp : Option Sgn → Sgn → Prop
  | p, .rp _ _ => (∃ k n rs, p = some (.lf k n rs) ∧ (k = 2 ∨ k = 8)) ∨ p = some .cl ∨ ∃ a b, p = some (.rp a b)
  | p, .lf k _ _ => (k = 2 ∨ k = 3 ∨ k = 4 ∨ k = 8) ∧ (k = 3 → p = none ∨ p = some .al ∨ ∃ n, p = some (.op n)) ∧ ∀ n rs, p ≠ some (.lf 4 n rs)
  | p, .op _ => ∀ n rs, p ≠ some (.lf 4 n rs)
  | _, .cl => True
  | _, .al => True
def adj : Option Sgn → List Sgn → Prop
  | _, [] => True
  | p, x :: l => okp p x ∧ adj (some x) l
/-- Groups: the number of the next one, those that are open, those that have ended. -/
def hk : Nat → List Nat → List Nat → List Sgn → Prop
  | _, o, _, [] => o = []
  | g, o, e, .op n :: l => n = g + 1 ∧ g < 30 ∧ hk (g + 1) (n :: o) e l
  | g, o, e, .cl :: l => ∃ n o', o = n :: o' ∧ hk g o' (n :: e) l
  | g, o, e, .lf k n _ :: l => (k = 8 → ∃ i ∈ e, n = (i : Int)) ∧ hk g o e l
  | g, o, e, _ :: l => hk g o e l

def mkB (l : List Ps) : Ps := match l with
  | [x] => x
  | l => .row l
def mkP (l : List Ps) : Ps := match l with
  | [x] => x
  | l => .alt l
theorem mkB_flat (l : List Ps) : pfl (mkB l) = pfls l := by
  unfold mkB
  split
  · rw [pfls_one]
  · rw [pfl]
theorem mkP_flat (b : List Ps) (x : Ps) : pfl (mkP (b ++ [x])) = pfla (b ++ [x]) := by
  unfold mkP
  split
  · rename_i y h; rw [h, pfla_cons, pflt, List.append_nil]
  · rw [pfl]
theorem mkB_wf {l : List Ps} (h : Anch l) (hw : wfs l) : wf (mkB l) ∧ isBr (mkB l) = true := by
  unfold mkB
  split
  · rename_i x
    refine ⟨(wfs_iff _).1 hw x (by simp), ?_⟩
    have := (h 0 x rfl).1
    cases x <;> simp_all [isItm, isBr]
  · rename_i hne
    refine ⟨?_, rfl⟩
    rw [wf]
    refine ⟨fun hl => ?_, h, hw⟩
    match l, hl with
    | [x], _ => exact hne x rfl
theorem mkP_wf {l : List Ps} (hl : l ≠ []) (h : ∀ x ∈ l, isBr x = true) (hw : wfs l) : wf (mkP l) := by
  unfold mkP
  split
  · rename_i x
    exact (wfs_iff _).1 hw x (by simp)
  · rename_i hne
    rw [wf]
    refine ⟨?_, h, hw⟩
    match l, hl with
    | [x], _ => exact absurd rfl (hne x)
    | _ :: _ :: _, _ => simp
/-- A group that is open: its number, its branches that are whole, the items of the last one. -/
structure Pf where
  n : Nat
  b : List Ps
  i : List Ps
def flatF (f : Pf) : List Sgn := f.b.flatMap (fun x => pfl x ++ [.al]) ++ pfls f.i
def flatS : List Pf → List Sgn
  | [] => []
  | [f] => flatF f
  | f :: g :: r => flatS (g :: r) ++ .op f.n :: flatF f
theorem pfla_snoc (b : List Ps) (x : Ps) : pfla (b ++ [x]) = b.flatMap (fun x => pfl x ++ [.al]) ++ pfl x := by
  have : ∀ (b : List Ps) (x : Ps), Sgn.al :: (b.flatMap (fun x => pfl x ++ [.al]) ++ pfl x) = pflt (b ++ [x]) := by
    intro b
    induction b with
    | nil => intro x; rw [List.nil_append, pflt_one]; rfl
    | cons y b ih => intro x; rw [List.cons_append, pflt, ← ih]; simp
  cases b with
  | nil => rw [List.nil_append, pfla, pflt]; simp
  | cons y b => rw [List.cons_append, pfla, ← this]; simp
/-- How what stands last is seen in the items. -/
def topI : Option Sgn → List Ps → Prop
  | none, l => l = []
  | some (.op _), l => l = []
  | some .al, l => l = []
  | some (.lf k n rs), l => ∃ a, l = a ++ [.lf k n rs]
  | some _, l => ∃ a x, l = a ++ [x] ∧ isThg x = true
structure PfOK (f : Pf) : Prop where
  br : ∀ x ∈ f.b, isBr x = true ∧ wf x
  an : Anch f.i
  wf : wfs f.i
def no4 (l : List Ps) : Prop := ∀ x ∈ l, x.kd ≠ 4
theorem anch_snoc {l : List Ps} {x : Ps} (h : Anch l) (h4 : no4 l) (hx : isItm x = true) (h3 : x.kd = 3 → l = []) : Anch (l ++ [x]) := by
  intro i y hy
  rcases Nat.lt_trichotomy i l.length with g | g | g
  · rw [List.getElem?_append_left g] at hy
    exact ⟨(h i y hy).1, (h i y hy).2.1, fun q => absurd q (h4 y (List.mem_of_getElem? hy))⟩
  · subst g
    rw [List.getElem?_append_right (Nat.le_refl _), Nat.sub_self] at hy
    simp at hy
    subst hy
    exact ⟨hx, fun q => by rw [h3 q]; rfl, fun _ => by simp⟩
  · rw [List.getElem?_append_right (by omega), List.getElem?_eq_none (by simp; omega)] at hy
    cases hy
theorem thg_itm {x : Ps} (h : isThg x = true) : isItm x = true ∧ x.kd ≠ 3 ∧ x.kd ≠ 4 := by
  cases x with
  | lf k n rs =>
    simp [isThg] at h
    rcases h with rfl | rfl <;> simp [isItm, Ps.kd]
  | grp => simp [isItm, Ps.kd]
  | rep => simp [isItm, Ps.kd]
  | row => simp [isThg] at h
  | alt => simp [isThg] at h
theorem top_no4 {p : Option Sgn} {l : List Ps} (h : topI p l) (ha : Anch l) (hp : ∀ n rs, p ≠ some (.lf 4 n rs)) : no4 l := by
  have key : ∀ a x, l = a ++ [x] → x.kd ≠ 4 → no4 l := by
    rintro a x rfl hx y hy h4
    obtain ⟨i, hi, e⟩ := List.getElem_of_mem hy
    have h1 : (a ++ [x])[i]? = some y := by rw [List.getElem?_eq_getElem hi, e]
    have h2 := (ha i y h1).2.2 h4
    rw [List.length_append, List.length_singleton] at h2
    have h3 : i = a.length := by omega
    subst h3
    rw [List.getElem?_append_right (Nat.le_refl _), Nat.sub_self] at h1
    simp at h1
    subst h1
    exact hx h4
  match p, h with
  | none, h => rw [show l = [] from h]; intro x hx; cases hx
  | some (.op _), h => rw [show l = [] from h]; intro x hx; cases hx
  | some .al, h => rw [show l = [] from h]; intro x hx; cases hx
  | some (.lf k n rs), ⟨a, e⟩ => exact key a _ e (fun q => hp n rs (by rw [show k = 4 from q]))
  | some .cl, ⟨a, x, e, hx⟩ => exact key a x e (thg_itm hx).2.2
  | some (.rp _ _), ⟨a, x, e, hx⟩ => exact key a x e (thg_itm hx).2.2
theorem wfs_snoc {l : List Ps} {x : Ps} (h : wfs l) (hx : wf x) : wfs (l ++ [x]) := by
  rw [wfs_iff] at h ⊢
  intro y hy
  rcases List.mem_append.1 hy with q | q
  · exact h y q
  · simp at q; subst q; exact hx
/-- Tokens that may stand so can be put together. -/
theorem put_on : ∀ (L : List Sgn) (f : Pf) (st : List Pf) (p : Option Sgn) (g : Nat) (o e : List Nat), PfOK f → (∀ h ∈ st, PfOK h ∧ no4 h.i) → topI p f.i → adj p L → hk g o e L → o.length = st.length →
    ∃ x, wf x ∧ pfl x = flatS (f :: st) ++ L
  | [], f, st, p, g, o, e, h1, h2, h3, h4, h5, h6 => by
    have h7 : o = [] := h5
    subst h7
    obtain rfl := List.eq_nil_of_length_eq_zero h6.symm
    refine ⟨mkP (f.b ++ [mkB f.i]), mkP_wf (by simp) ?_ ?_, ?_⟩
    · intro x hx
      rcases List.mem_append.1 hx with q | q
      · exact (h1.br x q).1
      · simp at q; subst q; exact (mkB_wf h1.an h1.wf).2
    · exact wfs_snoc ((wfs_iff _).2 fun x hx => (h1.br x hx).2) (mkB_wf h1.an h1.wf).1
    · rw [mkP_flat, pfla_snoc, mkB_flat, List.append_nil]
      rfl
  | .lf k n rs :: L, f, st, p, g, o, e, h1, h2, h3, h4, h5, h6 => by
    obtain ⟨⟨k1, k2, k3⟩, ha⟩ := h4
    obtain ⟨x, hx, hf⟩ := put_on L ⟨f.n, f.b, f.i ++ [.lf k n rs]⟩ st (some (.lf k n rs)) g o e
      ⟨h1.br, anch_snoc h1.an (top_no4 h3 h1.an k3) rfl (fun q => by
        rcases k2 q with rfl | rfl | ⟨m, rfl⟩ <;> exact h3), wfs_snoc h1.wf (by rw [wf]; exact k1)⟩ h2 ⟨f.i, rfl⟩ ha h5.2 h6
    refine ⟨x, hx, hf.trans ?_⟩
    cases st with
    | nil => simp [flatS, flatF, pfls_append, pfls_one, pfl]
    | cons h st => simp [flatS, flatF, pfls_append, pfls_one, pfl]
  | .op n :: L, f, st, p, g, o, e, h1, h2, h3, h4, h5, h6 => by
    obtain ⟨k3, ha⟩ := h4
    obtain ⟨x, hx, hf⟩ := put_on L ⟨n, [], []⟩ (f :: st) (some (.op n)) (g + 1) (n :: o) e
      ⟨fun x hx => (by cases hx), fun i x hx => (by simp at hx), by rw [wfs]; trivial⟩ (fun h hh => by
        rcases List.mem_cons.1 hh with rfl | hh
        · exact ⟨h1, top_no4 h3 h1.an k3⟩
        · exact h2 h hh) rfl ha h5.2.2 (by simp [h6])
    refine ⟨x, hx, hf.trans ?_⟩
    simp [flatS, flatF, pfls]
  | .cl :: L, f, st, p, g, o, e, h1, h2, h3, h4, h5, h6 => by
    obtain ⟨n, o', rfl, h7⟩ := h5
    match st, h6 with
    | u :: st, h6 =>
      have hu := h2 u (List.mem_cons_self ..)
      have hP : wf (mkP (f.b ++ [mkB f.i])) := by
        refine mkP_wf (by simp) (fun x hx => ?_) (wfs_snoc ((wfs_iff _).2 fun x hx => (h1.br x hx).2) (mkB_wf h1.an h1.wf).1)
        rcases List.mem_append.1 hx with q | q
        · exact (h1.br x q).1
        · simp at q; subst q; exact (mkB_wf h1.an h1.wf).2
      obtain ⟨x, hx, hf⟩ := put_on L ⟨u.n, u.b, u.i ++ [.grp f.n (mkP (f.b ++ [mkB f.i]))]⟩ st (some .cl) g o' (n :: e)
        ⟨hu.1.br, anch_snoc hu.1.an hu.2 rfl (fun q => by cases q), wfs_snoc hu.1.wf (by rw [wf]; exact hP)⟩ (fun h hh => h2 h (List.mem_cons_of_mem _ hh)) ⟨u.i, _, rfl, rfl⟩ h4.2 h7 (by simpa using h6)
      refine ⟨x, hx, hf.trans ?_⟩
      have e1 : pfl (.grp f.n (mkP (f.b ++ [mkB f.i]))) = .op f.n :: (flatF f ++ [.cl]) := by
        rw [pfl, mkP_flat, pfla_snoc, mkB_flat]; rfl
      cases st with
      | nil => simp [flatS, flatF, pfls_append, pfls_one, e1]
      | cons h st => simp [flatS, flatF, pfls_append, pfls_one, e1]
  | .al :: L, f, st, p, g, o, e, h1, h2, h3, h4, h5, h6 => by
    obtain ⟨x, hx, hf⟩ := put_on L ⟨f.n, f.b ++ [mkB f.i], []⟩ st (some .al) g o e
      ⟨fun x hx => (by
        rcases List.mem_append.1 hx with q | q
        · exact h1.br x q
        · simp at q; subst q; exact ⟨(mkB_wf h1.an h1.wf).2, (mkB_wf h1.an h1.wf).1⟩), fun i x hx => (by simp at hx), by rw [wfs]; trivial⟩ h2 rfl h4.2 h5 h6
    refine ⟨x, hx, hf.trans ?_⟩
    cases st with
    | nil => simp [flatS, flatF, mkB_flat, pfls]
    | cons h st => simp [flatS, flatF, mkB_flat, pfls]
  | .rp a b :: L, f, st, p, g, o, e, h1, h2, h3, h4, h5, h6 => by
    obtain ⟨k, ha⟩ := h4
    have hh : ∃ a0 x, f.i = a0 ++ [x] ∧ isThg x = true := by
      rcases k with ⟨k, n, rs, rfl, hk⟩ | rfl | ⟨a, b, rfl⟩
      · obtain ⟨a0, e⟩ := h3
        exact ⟨a0, _, e, by rcases hk with rfl | rfl <;> rfl⟩
      · exact h3
      · exact h3
    obtain ⟨a0, y, e, hy⟩ := hh
    have hw : wfs a0 ∧ wf y := by
      have := (wfs_iff _).1 h1.wf
      rw [e] at this
      exact ⟨(wfs_iff _).2 fun z hz => this z (List.mem_append_left _ hz), this y (by simp)⟩
    have hA : Anch (a0 ++ [.rep a b y]) := by
      intro i z hz
      rcases Nat.lt_trichotomy i a0.length with g | g | g
      · rw [List.getElem?_append_left g] at hz
        have := h1.an i z (by rw [e, List.getElem?_append_left g]; exact hz)
        rw [e] at this
        simpa using this
      · subst g
        rw [List.getElem?_append_right (Nat.le_refl _), Nat.sub_self] at hz
        simp at hz
        subst hz
        exact ⟨rfl, fun q => (by cases q), fun q => (by cases q)⟩
      · rw [List.getElem?_append_right (by omega), List.getElem?_eq_none (by simp; omega)] at hz
        cases hz
    obtain ⟨x, hx, hf⟩ := put_on L ⟨f.n, f.b, a0 ++ [.rep a b y]⟩ st (some (.rp a b)) g o _
      ⟨h1.br, hA, wfs_snoc hw.1 (by rw [wf]; exact ⟨hy, hw.2⟩)⟩ h2 ⟨a0, _, rfl, rfl⟩ ha h5 h6
    refine ⟨x, hx, hf.trans ?_⟩
    have e2 : pfls f.i = pfls a0 ++ pfl y := by rw [e, pfls_append, pfls_one]
    cases st with
    | nil => simp [flatS, flatF, pfls_append, pfls_one, e2, pfl]
    | cons h st => simp [flatS, flatF, pfls_append, pfls_one, e2, pfl]
theorem put_all {L : List Sgn} (ha : adj none L) (hh : hk 0 [] [] L) : ∃ x, wf x ∧ pfl x = L := by
  obtain ⟨x, h1, h2⟩ := put_on L ⟨0, [], []⟩ [] none 0 [] [] ⟨fun x hx => (by cases hx), fun i x hx => (by simp at hx), by rw [wfs]; trivial⟩ (fun h hh => by cases hh) rfl ha hh rfl
  exact ⟨x, h1, by rw [h2]; simp [flatS, flatF, pfls]⟩
end Go.Proofs.YtpfdapnfkghgkaaGreatDoor
namespace Go.Proofs.YtpfdapnfkghgkaaGreatDoor
open Go

/-- How many bytes the unit at a place has, and its character (-1: none). -/
def wd (s : ByteArray) (p : Nat) : Nat := (Utf8.decode s p).2
def bad (s : ByteArray) (p : Nat) : Bool := decide (Utf8.decode s p = (65533, 1))
def ch (s : ByteArray) (p : Nat) : Int := if bad s p then -1 else (Utf8.decode s p).1

/-- A place's byte. -/
def bt (s : ByteArray) (i : Nat) : Nat := (s.data.toList.getD i 0).toNat
theorem bt_lt (s : ByteArray) (i : Nat) : bt s i < 256 := UInt8.toNat_lt _
theorem size_list (s : ByteArray) : s.data.toList.length = s.size := (Lib.size_eq s).symm
theorem dec_eq (s : ByteArray) (p : Nat) : Utf8.decode s p = Lib.decodeN (s.size - p) (bt s p) (bt s (p + 1)) (bt s (p + 2)) (bt s (p + 3)) := by
  rw [Lib.decode_N, size_list]; rfl
theorem bt_out (s : ByteArray) (i : Nat) (h : s.size ≤ i) : bt s i = 0 := by
  have : s.data.toList[i]? = none := List.getElem?_eq_none (by rw [size_list]; exact h)
  simp [bt, List.getD_eq_getElem?_getD, this]
theorem wd_pos (s : ByteArray) (p : Nat) : 1 ≤ wd s p := Lib.width_pos s p
theorem dec_le (s : ByteArray) (p : Nat) : (Utf8.decode s p).1 ≤ 1114111 := Lib.rune_le s p

/-- What the decoding tells, by its bytes. -/
theorem decN_cases (n b0 b1 b2 b3 : Nat) : Lib.decodeN n b0 b1 b2 b3 = (65533, 1) ∨ (b0 < 128 ∧ Lib.decodeN n b0 b1 b2 b3 = (b0, 1)) ∨
    (1 < n ∧ b0 / 32 = 6 ∧ b1 / 64 = 2 ∧ 128 ≤ b0 % 32 * 64 + b1 % 64 ∧ Lib.decodeN n b0 b1 b2 b3 = (b0 % 32 * 64 + b1 % 64, 2)) ∨
    (2 < n ∧ b0 / 16 = 14 ∧ b1 / 64 = 2 ∧ b2 / 64 = 2 ∧ 2048 ≤ b0 % 16 * 4096 + b1 % 64 * 64 + b2 % 64 ∧ (b0 % 16 * 4096 + b1 % 64 * 64 + b2 % 64 < 55296 ∨ 57344 ≤ b0 % 16 * 4096 + b1 % 64 * 64 + b2 % 64) ∧ Lib.decodeN n b0 b1 b2 b3 = (b0 % 16 * 4096 + b1 % 64 * 64 + b2 % 64, 3)) ∨
    (3 < n ∧ b0 / 8 = 30 ∧ b1 / 64 = 2 ∧ b2 / 64 = 2 ∧ b3 / 64 = 2 ∧ 65536 ≤ b0 % 8 * 262144 + b1 % 64 * 4096 + b2 % 64 * 64 + b3 % 64 ∧ b0 % 8 * 262144 + b1 % 64 * 4096 + b2 % 64 * 64 + b3 % 64 ≤ 1114111 ∧ Lib.decodeN n b0 b1 b2 b3 = (b0 % 8 * 262144 + b1 % 64 * 4096 + b2 % 64 * 64 + b3 % 64, 4)) := by
  unfold Lib.decodeN
  by_cases h0 : b0 < 128
  · rw [if_pos h0]; exact .inr (.inl ⟨h0, rfl⟩)
  rw [if_neg h0]
  split
  · rename_i h
    split
    · rename_i g
      exact .inr (.inr (.inl ⟨h.2.1, h.1, h.2.2, g, rfl⟩))
    · exact .inl rfl
  split
  · rename_i h
    split
    · rename_i g
      exact .inr (.inr (.inr (.inl ⟨h.2.2.1, h.1, h.2.1.2, h.2.2.2, g.1, by omega, rfl⟩)))
    · exact .inl rfl
  split
  · rename_i h
    split
    · rename_i g
      exact .inr (.inr (.inr (.inr ⟨h.2.2.2.1, h.1, h.2.1.2, h.2.2.1.2, h.2.2.2.2, g.1, by omega, rfl⟩)))
    · exact .inl rfl
  exact .inl rfl

theorem wd_le (s : ByteArray) (p : Nat) (h : p < s.size) : wd s p ≤ 4 ∧ p + wd s p ≤ s.size := by
  unfold wd
  rw [dec_eq]
  rcases decN_cases (s.size - p) (bt s p) (bt s (p + 1)) (bt s (p + 2)) (bt s (p + 3)) with e | ⟨_, e⟩ | ⟨_, _, _, _, e⟩ | ⟨_, _, _, _, _, _, e⟩ | ⟨_, _, _, _, _, _, _, e⟩
  all_goals (rw [e]; simp only; omega)
theorem ch_bad {s : ByteArray} {p : Nat} (h : bad s p = true) : ch s p = -1 ∧ wd s p = 1 ∧ (Utf8.decode s p).1 = 65533 := by
  have e : Utf8.decode s p = (65533, 1) := by simpa [bad] using h
  simp [ch, h, wd, e]
theorem ch_good {s : ByteArray} {p : Nat} (h : bad s p = false) : ch s p = (Utf8.decode s p).1 := by simp [ch, h]
theorem ch_neg {s : ByteArray} {p : Nat} : ch s p < 0 ↔ bad s p = true := by
  unfold ch
  split
  · rename_i h; simp [h]
  · rename_i h
    have := Int.natCast_nonneg (Utf8.decode s p).1
    simp [h]

/-- The bytes of U+FFFD tell it from a byte that is no character. -/
theorem prefix3 (l : List UInt8) (a b c : UInt8) : Lib.hasPrefix l [a, b, c] = (decide (2 < l.length) && l.getD 0 0 == a && l.getD 1 0 == b && l.getD 2 0 == c) := by
  unfold Lib.hasPrefix
  match l with
  | [] => simp [List.isPrefixOf]
  | [x] => simp [List.isPrefixOf]
  | [x, y] => simp [List.isPrefixOf]
  | x :: y :: z :: t =>
    rw [Bool.eq_iff_iff]
    simp [List.isPrefixOf]
    grind
theorem ext_list (s : ByteArray) (p : Nat) : (s.extract p s.size).data.toList = s.data.toList.drop p := by
  rw [ByteArray.data_extract, Array.toList_extract, List.extract_eq_take_drop, List.take_of_length_le (by rw [List.length_drop, size_list]; omega)]
theorem bad_iff (s : ByteArray) (p : Nat) (h : p < s.size) (hr : (Utf8.decode s p).1 = 65533) : Lib.hasPrefix (s.data.toList.drop p) [239, 191, 189] = !bad s p := by
  rw [prefix3]
  have g0 : (s.data.toList.drop p).getD 0 0 = s.data.toList.getD p 0 := by simp [List.getD_eq_getElem?_getD]
  have g1 : (s.data.toList.drop p).getD 1 0 = s.data.toList.getD (p + 1) 0 := by simp [List.getD_eq_getElem?_getD]
  have g2 : (s.data.toList.drop p).getD 2 0 = s.data.toList.getD (p + 2) 0 := by simp [List.getD_eq_getElem?_getD]
  rw [g0, g1, g2]
  have toN : ∀ (i : Nat) (k : UInt8), (s.data.toList.getD i 0 == k) = decide (bt s i = k.toNat) := fun i k => by
    unfold bt
    rw [Bool.eq_iff_iff]
    simp [UInt8.toNat_inj]
  rw [toN, toN, toN]
  have hl : (s.data.toList.drop p).length = s.size - p := by rw [List.length_drop, size_list]
  rw [hl]
  have e := dec_eq s p
  rw [e] at hr
  unfold bad
  rw [e]
  have q0 := bt_lt s p
  have q1 := bt_lt s (p + 1)
  have q2 := bt_lt s (p + 2)
  have q3 := bt_lt s (p + 3)
  rw [Bool.eq_iff_iff]
  simp only [Bool.and_eq_true, decide_eq_true_eq, Bool.not_eq_true', decide_eq_false_iff_not]
  show (((2 < s.size - p ∧ bt s p = 239) ∧ bt s (p + 1) = 191) ∧ bt s (p + 2) = 189) ↔ _
  rcases decN_cases (s.size - p) (bt s p) (bt s (p + 1)) (bt s (p + 2)) (bt s (p + 3)) with k | ⟨_, k⟩ | ⟨_, _, _, _, k⟩ | ⟨_, _, _, _, _, _, k⟩ | ⟨_, _, _, _, _, _, _, k⟩
  · rw [k]
    simp only [not_true, iff_false]
    rintro ⟨⟨⟨h1, h2⟩, h3⟩, h4⟩
    rw [h2, h3, h4] at k
    unfold Lib.decodeN at k
    simp at k
    omega
  · rw [k] at hr ⊢
    simp only at hr
    omega
  · rw [k] at hr ⊢
    simp only at hr
    omega
  · rw [k] at hr ⊢
    simp only at hr
    simp
    omega
  · rw [k] at hr ⊢
    simp only at hr
    omega

/-- The units from a place on. -/
def uFrom (s : ByteArray) : Nat → Nat → List (Nat × Int)
  | 0, _ => []
  | f + 1, p => if p < s.size then (p, ch s p) :: uFrom s f (p + wd s p) else []
def us (s : ByteArray) : List (Nat × Int) := uFrom s s.size 0
theorem uFrom_end (s : ByteArray) (f p : Nat) (h : ¬ p < s.size) : uFrom s f p = [] := by cases f <;> simp [uFrom, h]
theorem uFrom_more (s : ByteArray) (f p : Nat) (h : p < s.size) : uFrom s (f + 1) p = (p, ch s p) :: uFrom s f (p + wd s p) := by simp [uFrom, h]
theorem uFrom_length (s : ByteArray) : ∀ f p, (uFrom s f p).length ≤ s.size - p
  | 0, _ => by simp [uFrom]
  | f + 1, p => by
    unfold uFrom
    split
    · have := uFrom_length s f (p + wd s p)
      have := wd_pos s p
      simp; omega
    · simp
theorem us_length (s : ByteArray) : (us s).length ≤ s.size := by have := uFrom_length s s.size 0; unfold us; omega
end Go.Proofs.YtpfdapnfkghgkaaGreatDoor
namespace Go.Proofs.YtpfdapnfkghgkaaGreatDoor
open Go Go.RowKit

def top (m : Bool) : Int := if m then 1114111 else 255
def isChar (m : Bool) (c : Int) : Prop := 0 ≤ c ∧ c ≤ top m ∧ (m = true → c < 55296 ∨ 57343 < c)
def charsL (m : Bool) : List (Int × Int) := if m then [(0, 55295), (57344, 1114111)] else [(0, 255)]
theorem charsL_is (m : Bool) : IsC (charsL m) (isChar m) := by
  cases m with
  | true =>
    refine ⟨⟨by simp [charsL], by simp [charsL]⟩, fun r hr => ?_, fun c => ?_⟩
    · simp [charsL] at hr
      rcases hr with rfl | rfl <;> simp
    · simp [charsL, In, isChar, top]
      omega
  | false =>
    refine ⟨⟨by simp [charsL], by simp [charsL]⟩, fun r hr => ?_, fun c => ?_⟩
    · simp [charsL] at hr
      subst hr; simp
    · simp [charsL, In, isChar, top]
theorem charsL_length (m : Bool) : (charsL m).length ≤ 2 := by cases m <;> simp [charsL]

theorem top_c (m : Bool) (w : World) : Calls Tryz.prog 148 #[.bool m] w fun e w' => e = .returned (.int .i64 (top m)) ∧ w' = w := by
  cases m with
  | true =>
    go_enter Tryz.func148, Tryz.ntmps148
    go_wp2
    go_ret
    exact ⟨rfl, rfl⟩
  | false =>
    go_enter Tryz.func148, Tryz.ntmps148
    go_wp2
    go_ret
    exact ⟨rfl, rfl⟩
theorem chars_c (m : Bool) (w : World) : Calls Tryz.prog 129 #[.bool m] w fun e w' => ∃ v, e = .returned v ∧ RR w.heap.size w' v (charsL m) ∧ Below w.heap.size w w' := by
  cases m with
  | true =>
    go_enter Tryz.func129, Tryz.ntmps129
    go_wp2_with (go_at_call 148; refine (top_c _ _).mono ?_; rintro e w5 ⟨rfl, h5⟩; subst w5)
    go_ret
    exact ⟨_, rfl, World.ownsRow_lit w #[.int .i64 0, .int .i64 55295, .int .i64 57344, .int .i64 1114111] 2 (Nat.le_refl _) (by unfold maxLen; omega) rfl, (Below.refl _ _).alloc (Nat.le_refl _) _⟩
  | false =>
    go_enter Tryz.func129, Tryz.ntmps129
    go_wp2_with (go_at_call 148; refine (top_c _ _).mono ?_; rintro e w5 ⟨rfl, h5⟩; subst w5)
    go_ret
    exact ⟨_, rfl, World.ownsRow_lit w #[.int .i64 0, .int .i64 255] 1 (Nat.le_refl _) (by unfold maxLen; omega) rfl, (Below.refl _ _).alloc (Nat.le_refl _) _⟩
end Go.Proofs.YtpfdapnfkghgkaaGreatDoor
namespace Go.Proofs.YtpfdapnfkghgkaaGreatDoor
open Go

structure Md where
  c : Bool
  f : Bool
abbrev Rs (α : Type) := Except (Nat × Nat) α

/-- Does a text stand at a place? -/
def sees (s : ByteArray) (p : Nat) (t : List UInt8) : Bool := Lib.hasPrefix (s.data.toList.drop p) t
/-- The unit at a place. -/
def un (m : Md) (s : ByteArray) (p : Nat) : Int × Nat := if m.c then (ch s p, wd s p) else ((bt s p : Int), 1)
def chr (m : Md) (s : ByteArray) (p : Nat) : Rs (Int × Nat) := if (un m s p).1 < 0 then .error (20, p) else .ok ((un m s p).1, p + (un m s p).2)
/-- The first place from one on at which a text stands. -/
def fnd (s : ByteArray) (t : List UInt8) (k : Nat) : Option Nat :=
  if Lib.index (s.data.toList.drop k) t < 0 then none else some (k + (Lib.index (s.data.toList.drop k) t).toNat)
/-- The place of an item's end. -/
def wit (s : ByteArray) (o p k : Nat) : Rs Nat :=
  match fnd s [UInt8.ofNat (bt s (p + 1)), 93] (p + 2 + min k (s.size - (p + 2))) with
  | none => .error (33, o)
  | some e => .ok e
def elem (m : Md) (s : ByteArray) (o p : Nat) : Rs (Int × Nat) :=
  match wit s o p 1 with
  | .error e => .error e
  | .ok e => if (un m (s.extract (p + 2) e) 0).1 < 0 ∨ (un m (s.extract (p + 2) e) 0).2 < e - (p + 2) then .error (35, p) else .ok ((un m (s.extract (p + 2) e) 0).1, e + 2)
def endI (m : Md) (s : ByteArray) (o p : Nat) : Rs (Int × Nat) :=
  if p = s.size then .error (33, o) else if sees s p [91, 46] then elem m s o p else chr m s p
def spn (m : Md) (s : ByteArray) (o p : Nat) : Rs (List (Int × Int) × Nat) :=
  match endI m s o p with
  | .error e => .error e
  | .ok (lo, q) =>
    if sees s q [45, 93] || !sees s q [45] then .ok ([(lo, lo)], q)
    else if sees s (q + 1) [91, 58] || sees s (q + 1) [91, 61] then .error (34, p)
    else match endI m s o (q + 1) with
      | .error e => .error e
      | .ok (hi, r) => if hi < lo then .error (34, p) else .ok ([(lo, hi)], r)
/-- The class of a name. -/
def nmd (s : ByteArray) : Bool × List (Int × Int) :=
  if s.toList == [97, 108, 110, 117, 109] then (true, [(48, 57), (65, 90), (97, 122)])
  else if s.toList == [97, 108, 112, 104, 97] then (true, [(65, 90), (97, 122)])
  else if s.toList == [98, 108, 97, 110, 107] then (true, [(9, 9), (32, 32)])
  else if s.toList == [99, 110, 116, 114, 108] then (true, [(0, 31), (127, 127)])
  else if s.toList == [100, 105, 103, 105, 116] then (true, [(48, 57)])
  else if s.toList == [103, 114, 97, 112, 104] then (true, [(33, 126)])
  else if s.toList == [108, 111, 119, 101, 114] then (true, [(97, 122)])
  else if s.toList == [112, 114, 105, 110, 116] then (true, [(32, 126)])
  else if s.toList == [112, 117, 110, 99, 116] then (true, [(33, 47), (58, 64), (91, 96), (123, 126)])
  else if s.toList == [115, 112, 97, 99, 101] then (true, [(9, 13), (32, 32)])
  else if s.toList == [117, 112, 112, 101, 114] then (true, [(65, 90)])
  else if s.toList == [120, 100, 105, 103, 105, 116] then (true, [(48, 57), (65, 70), (97, 102)])
  else (false, [])
def nam (s : ByteArray) (o p : Nat) : Rs (List (Int × Int) × Nat) :=
  match wit s o p 0 with
  | .error e => .error e
  | .ok e => if (nmd (s.extract (p + 2) e)).1 then .ok ((nmd (s.extract (p + 2) e)).2, e + 2) else .error (35, p)
def sgl (m : Md) (s : ByteArray) (o p : Nat) : Rs (List (Int × Int) × Nat) :=
  if sees s p [91, 58] then nam s o p
  else if sees s p [91, 61] then (match elem m s o p with
    | .error e => .error e
    | .ok (c, q) => .ok ([(c, c)], q))
  else spn m s o p
def itm (m : Md) (s : ByteArray) (o p : Nat) : Rs (List (Int × Int) × Nat) :=
  if !sees s p [45] || sees s p [45, 93] then sgl m s o p else if p + 1 = s.size then .error (33, o) else .error (34, p)
def its (m : Md) (s : ByteArray) (o : Nat) : Nat → Nat → List (Int × Int) → Rs (List (Int × Int) × Nat)
  | 0, _, _ => .error (33, o)
  | f + 1, p, l => if sees s p [93] then .ok (l, p + 1) else match itm m s o p with
    | .error e => .error e
    | .ok (l', q) => its m s o f q (l ++ l')

structure Tk where
  kind : Nat
  n : Nat
  mn : Int
  mx : Int
  q : Int → Prop
def foldQ (Q : Int → Prop) (c : Int) : Prop := Q c ∨ (Q (c - 32) ∧ 65 ≤ c - 32 ∧ c - 32 ≤ 90) ∨ (Q (c + 32) ∧ 97 ≤ c + 32 ∧ c + 32 ≤ 122)
def setQ (m : Md) (L : List (Int × Int)) (t : Bool) (c : Int) : Prop :=
  isChar m.c c ∧ (if t then ¬ (if m.f then foldQ (In L) c else In L c) else if m.f then foldQ (In L) c else In L c)
def setT (m : Md) (L : List (Int × Int)) (t : Bool) : Tk := ⟨1, 0, 0, 0, setQ m L t⟩
def kT (k : Nat) : Tk := ⟨k, 0, 0, 0, fun _ => False⟩
def repT (a b : Int) : Tk := ⟨2, 0, a, b, fun _ => False⟩
def backT (n : Nat) : Tk := ⟨6, n, 0, 0, fun _ => False⟩

def brk (m : Md) (s : ByteArray) (p : Nat) : Rs (Tk × Nat) :=
  match sgl m s p (if sees s (p + 1) [94] then p + 2 else p + 1) with
  | .error e => .error e
  | .ok (l, r) => match its m s p (s.size + 1) r l with
    | .error e => .error e
    | .ok (l2, r2) => .ok (setT m l2 (sees s (p + 1) [94]), r2)
def dig (b : UInt8) : Bool := 48 ≤ b && b ≤ 57
def digs (s : ByteArray) (p : Nat) : List UInt8 := (s.data.toList.drop p).takeWhile dig
def numL (l : List UInt8) : Nat := l.foldl (fun n d => min (10 * n + (d.toNat - 48)) 256) 0
def ivQ (s : ByteArray) (p : Nat) : Nat := p + 2 + (digs s (p + 2)).length
def ivB (s : ByteArray) (p : Nat) : Int := if sees s (ivQ s p) [44] then (if (digs s (ivQ s p + 1)).length = 0 then -1 else (numL (digs s (ivQ s p + 1)) : Int)) else (numL (digs s (p + 2)) : Int)
def ivR (s : ByteArray) (p : Nat) : Nat := if sees s (ivQ s p) [44] then ivQ s p + 1 + (digs s (ivQ s p + 1)).length else ivQ s p
def intv (s : ByteArray) (p : Nat) : Rs (Tk × Nat) :=
  if (digs s (p + 2)).length = 0 ∨ sees s (ivR s p) [92, 125] = false then .error (36, p)
  else if 255 < numL (digs s (p + 2)) ∨ 255 < ivB s p ∨ (ivB s p ≠ -1 ∧ ivB s p < numL (digs s (p + 2))) then .error (37, p)
  else .ok (repT (numL (digs s (p + 2))) (ivB s p), ivR s p + 2)
def atBeg (last : Nat) : Bool := last == 0 || last == 3 || last == 5 || last == 7
def esc (m : Md) (s : ByteArray) (p last : Nat) : Rs (Tk × Nat) :=
  if p + 1 = s.size then .error (31, p)
  else if bt s (p + 1) = 40 then .ok (kT 3, p + 2)
  else if bt s (p + 1) = 41 then .ok (kT 4, p + 2)
  else if bt s (p + 1) = 124 then .ok (kT 5, p + 2)
  else if 49 ≤ bt s (p + 1) ∧ bt s (p + 1) ≤ 57 then .ok (backT (bt s (p + 1) - 48), p + 2)
  else if bt s (p + 1) = 43 ∨ bt s (p + 1) = 63 ∨ bt s (p + 1) = 123 then
    if atBeg last then .error (38, p)
    else if bt s (p + 1) = 43 then .ok (repT 1 (-1), p + 2)
    else if bt s (p + 1) = 63 then .ok (repT 0 1, p + 2)
    else intv s p
  else if bt s (p + 1) = 46 ∨ bt s (p + 1) = 91 ∨ bt s (p + 1) = 93 ∨ bt s (p + 1) = 42 ∨ bt s (p + 1) = 94 ∨ bt s (p + 1) = 36 ∨ bt s (p + 1) = 92 ∨ bt s (p + 1) = 47 then
    .ok (setT m [((bt s (p + 1) : Int), (bt s (p + 1) : Int))] false, p + 2)
  else .error (32, p)
def endsB (s : ByteArray) (p : Nat) : Bool := decide (p + 1 = s.size) || sees s (p + 1) [92, 41] || sees s (p + 1) [92, 124]
def tok (m : Md) (s : ByteArray) (p last : Nat) : Rs (Tk × Nat) :=
  if sees s p [92] then esc m s p last
  else if sees s p [42] && !atBeg last then .ok (repT 0 (-1), p + 1)
  else if sees s p [94] && (p == 0 || last == 3 || last == 5) then .ok (kT 7, p + 1)
  else if sees s p [36] && endsB s p then .ok (kT 8, p + 1)
  else if sees s p [46] then .ok (setT m [] true, p + 1)
  else if sees s p [91] then brk m s p
  else match chr m s p with
    | .error e => .error e
    | .ok (c, q) => .ok (setT m [(c, c)] false, q)
/-- A token and its places. -/
abbrev Tp := Tk × Nat × Nat
def lastK (T : List Tp) : Nat := match T.getLast? with
  | none => 0
  | some t => t.1.kind
def lx (m : Md) (s : ByteArray) : Nat → Nat → List Tp → Rs (List Tp)
  | 0, _, _ => .error (30, 0)
  | f + 1, p, T => if p < s.size then (match tok m s p (lastK T) with
      | .error e => .error e
      | .ok (t, q) => lx m s f q (T ++ [(t, p, q)]))
    else .ok T
def lexM (m : Md) (s : ByteArray) : Rs (List Tp) := if 2000 < s.size then .error (30, 0) else lx m s (s.size + 1) 0 []

/- Where a text stands. -/
theorem sees_len {s : ByteArray} {p : Nat} {t : List UInt8} (h : sees s p t = true) (ht : t ≠ []) : p + t.length ≤ s.size := by
  have := (List.isPrefixOf_iff_prefix.1 h).length_le
  rw [List.length_drop, size_list] at this
  have : 0 < t.length := List.length_pos_iff.2 ht
  omega
theorem sees_get {s : ByteArray} {p : Nat} {t : List UInt8} : sees s p t = true ↔ ∀ i x, t[i]? = some x → s.data.toList[p + i]? = some x := by
  unfold sees Lib.hasPrefix
  rw [List.isPrefixOf_iff_prefix, List.prefix_iff_getElem?]
  constructor
  · intro h i x hx
    have := h i (List.getElem?_eq_some_iff.1 hx).1
    rw [List.getElem?_drop] at this
    rw [this]
    exact congrArg some (List.getElem?_eq_some_iff.1 hx).2
  · intro h i hi
    rw [List.getElem?_drop]
    exact h i _ (List.getElem?_eq_getElem hi)
theorem bt_at {s : ByteArray} {p : Nat} {x : UInt8} : s.data.toList[p]? = some x ↔ p < s.size ∧ bt s p = x.toNat := by
  rw [← size_list]
  constructor
  · intro h
    obtain ⟨h1, h2⟩ := List.getElem?_eq_some_iff.1 h
    refine ⟨h1, ?_⟩
    unfold bt
    rw [List.getD_eq_getElem?_getD, h]; rfl
  · rintro ⟨h1, h2⟩
    rw [List.getElem?_eq_getElem h1]
    unfold bt at h2
    rw [List.getD_eq_getElem?_getD, List.getElem?_eq_getElem h1] at h2
    exact congrArg some (UInt8.toNat_inj.1 h2)
theorem sees_one {s : ByteArray} {p : Nat} {x : UInt8} : sees s p [x] = true ↔ p < s.size ∧ bt s p = x.toNat := by
  rw [sees_get]
  constructor
  · intro h; exact bt_at.1 (h 0 x rfl)
  · intro h i y hy
    match i, hy with
    | 0, hy => cases hy; exact bt_at.2 h
    | i + 1, hy => simp at hy
theorem sees_two {s : ByteArray} {p : Nat} {x y : UInt8} : sees s p [x, y] = true ↔ p + 1 < s.size ∧ bt s p = x.toNat ∧ bt s (p + 1) = y.toNat := by
  rw [sees_get]
  constructor
  · intro h
    have h0 := bt_at.1 (h 0 x rfl)
    have h1 := bt_at.1 (h 1 y rfl)
    exact ⟨h1.1, h0.2, h1.2⟩
  · intro h i z hz
    match i, hz with
    | 0, hz => cases hz; exact bt_at.2 ⟨by omega, h.2.1⟩
    | 1, hz => cases hz; exact bt_at.2 ⟨h.1, h.2.2⟩
    | i + 2, hz => simp at hz
/- The first place. -/
theorem occ_sees (s : ByteArray) (t : List UInt8) (k j : Nat) : Lib.occAt (s.data.toList.drop k) t j = sees s (k + j) t := by
  unfold Lib.occAt sees Lib.hasPrefix
  rw [List.drop_drop]
theorem fnd_some {s : ByteArray} {t : List UInt8} {k e : Nat} (h : fnd s t k = some e) : k ≤ e ∧ sees s e t = true ∧ ∀ j, k ≤ j → j < e → sees s j t = false := by
  unfold fnd at h
  split at h
  · cases h
  · rename_i hn
    cases h
    rcases Lib.index_spec (s.data.toList.drop k) t with ⟨h1, -⟩ | ⟨i, h1, h2, h3, h4⟩
    · rw [h1] at hn; omega
    · rw [h1, Int.toNat_natCast]
      rw [occ_sees] at h3
      refine ⟨by omega, h3, fun j hj1 hj2 => ?_⟩
      have := h4 (j - k) (by omega)
      rw [occ_sees, show k + (j - k) = j by omega] at this
      exact this
theorem fnd_none {s : ByteArray} {t : List UInt8} {k : Nat} (h : fnd s t k = none) (ht : t ≠ []) : ∀ j, k ≤ j → sees s j t = false := by
  unfold fnd at h
  split at h
  · rename_i hn
    rcases Lib.index_spec (s.data.toList.drop k) t with ⟨-, h1⟩ | ⟨i, h1, h2, h3, h4⟩
    · intro j hj
      rcases Nat.lt_or_ge j (s.size + 1) with g | g
      · have := h1 (j - k) (by rw [List.length_drop, size_list]; omega)
        rw [occ_sees, show k + (j - k) = j by omega] at this
        exact this
      · cases hs : sees s j t with
        | false => rfl
        | true => have := sees_len hs ht; omega
    · rw [h1] at hn; omega
  · cases h
theorem fnd_is {s : ByteArray} {t : List UInt8} {k e : Nat} (ht : t ≠ []) (h1 : k ≤ e) (h2 : sees s e t = true) (h3 : ∀ j, k ≤ j → j < e → sees s j t = false) : fnd s t k = some e := by
  cases h : fnd s t k with
  | none => rw [fnd_none h ht e h1] at h2; cases h2
  | some x =>
    obtain ⟨q1, q2, q3⟩ := fnd_some h
    rcases Nat.lt_trichotomy x e with g | g | g
    · rw [h3 x q1 g] at q2; cases q2
    · rw [g]
    · rw [q3 e h1 g] at h2; cases h2
theorem fnd_isnone {s : ByteArray} {t : List UInt8} {k : Nat} (h3 : ∀ j, k ≤ j → sees s j t = false) : fnd s t k = none := by
  cases h : fnd s t k with
  | none => rfl
  | some x =>
    obtain ⟨q1, q2, -⟩ := fnd_some h
    rw [h3 x q1] at q2; cases q2
/- What is read lies within; each token has bytes. -/
theorem un_wd (m : Md) (s : ByteArray) (p : Nat) (h : p < s.size) : 1 ≤ (un m s p).2 ∧ p + (un m s p).2 ≤ s.size := by
  unfold un
  split
  · exact ⟨wd_pos s p, (wd_le s p h).2⟩
  · simp only; omega
theorem un_le (m : Md) (s : ByteArray) (p : Nat) : -1 ≤ (un m s p).1 ∧ (un m s p).1 ≤ 1114111 := by
  unfold un
  split
  · simp only [ch]
    have := dec_le s p
    split <;> omega
  · have := bt_lt s p
    simp only; omega
/-- What an answer may be: within the pattern, behind a place; an error of the chapter's. -/
def Rng {α : Type} (s : ByteArray) (p : Nat) (f : α → Nat) (r : Rs α) : Prop := match r with
  | .error (c, a) => (c = 20 ∨ 30 ≤ c ∧ c ≤ 38) ∧ a ≤ s.size
  | .ok x => p < f x ∧ f x ≤ s.size
theorem chr_rng (m : Md) (s : ByteArray) (p : Nat) (h : p < s.size) : Rng s p Prod.snd (chr m s p) := by
  unfold chr
  have := un_wd m s p h
  split
  · exact ⟨.inl rfl, by omega⟩
  · exact ⟨by simp only; omega, by simp only; omega⟩
theorem wit_le {s : ByteArray} {o p k e : Nat} (h : wit s o p k = .ok e) : p + 2 + min k (s.size - (p + 2)) ≤ e ∧ e + 2 ≤ s.size := by
  unfold wit at h
  split at h
  · cases h
  · rename_i x hx
    cases h
    obtain ⟨h1, h2, -⟩ := fnd_some hx
    have := sees_len h2 (by simp)
    simp at this
    omega
theorem wit_rng (s : ByteArray) (o p k : Nat) (ho : o ≤ s.size) : Rng s p (fun e => e + 2) (wit s o p k) := by
  cases h : wit s o p k with
  | error e =>
    unfold wit at h
    split at h
    · cases h; exact ⟨.inr (by omega), ho⟩
    · cases h
  | ok e => have := wit_le h; exact ⟨by simp only; omega, by simp only; omega⟩
theorem elem_rng (m : Md) (s : ByteArray) (o p : Nat) (ho : o ≤ s.size) (hp : p ≤ s.size) : Rng s p Prod.snd (elem m s o p) := by
  have := wit_rng s o p 1 ho
  unfold elem
  split
  · rename_i e he; rw [he] at this; exact this
  · rename_i e he
    rw [he] at this
    split
    · exact ⟨.inr (by omega), hp⟩
    · exact ⟨this.1, this.2⟩
theorem endI_rng (m : Md) (s : ByteArray) (o p : Nat) (ho : o ≤ s.size) (hp : p ≤ s.size) : Rng s p Prod.snd (endI m s o p) := by
  unfold endI
  split
  · exact ⟨.inr (by omega), ho⟩
  split
  · exact elem_rng m s o p ho hp
  · exact chr_rng m s p (by omega)
theorem spn_rng (m : Md) (s : ByteArray) (o p : Nat) (ho : o ≤ s.size) (hp : p ≤ s.size) : Rng s p Prod.snd (spn m s o p) := by
  have h1 := endI_rng m s o p ho hp
  unfold spn
  split
  · rename_i e he; rw [he] at h1; exact h1
  · rename_i lo q he
    rw [he] at h1
    split
    · exact h1
    · rename_i hq
      have hs : sees s q [45] = true := by
        cases hx : sees s q [45] with
        | true => rfl
        | false => simp [hx] at hq
      have hl := sees_len hs (by simp)
      simp at hl
      split
      · exact ⟨.inr (by omega), hp⟩
      · have h2 := endI_rng m s o (q + 1) ho (by omega)
        split
        · rename_i e hf; rw [hf] at h2; exact h2
        · rename_i hi r hf
          rw [hf] at h2
          split
          · exact ⟨.inr (by omega), hp⟩
          · exact ⟨by have := h1.1; have := h2.1; simp only at *; omega, h2.2⟩
theorem nam_rng (s : ByteArray) (o p : Nat) (ho : o ≤ s.size) (hp : p ≤ s.size) : Rng s p Prod.snd (nam s o p) := by
  have := wit_rng s o p 0 ho
  unfold nam
  split
  · rename_i e he; rw [he] at this; exact this
  · rename_i e he
    rw [he] at this
    split
    · exact ⟨this.1, this.2⟩
    · exact ⟨.inr (by omega), hp⟩
theorem sgl_rng (m : Md) (s : ByteArray) (o p : Nat) (ho : o ≤ s.size) (hp : p ≤ s.size) : Rng s p Prod.snd (sgl m s o p) := by
  unfold sgl
  split
  · exact nam_rng s o p ho hp
  split
  · have h1 := elem_rng m s o p ho hp
    split
    · rename_i e he; rw [he] at h1; exact h1
    · rename_i c q he; rw [he] at h1; exact h1
  · exact spn_rng m s o p ho hp
theorem itm_rng (m : Md) (s : ByteArray) (o p : Nat) (ho : o ≤ s.size) (hp : p ≤ s.size) : Rng s p Prod.snd (itm m s o p) := by
  unfold itm
  split
  · exact sgl_rng m s o p ho hp
  split
  · exact ⟨.inr (by omega), ho⟩
  · exact ⟨.inr (by omega), hp⟩
theorem its_rng (m : Md) (s : ByteArray) (o : Nat) (ho : o ≤ s.size) : ∀ (f p : Nat) (l : List (Int × Int)), p ≤ s.size → Rng s p Prod.snd (its m s o f p l)
  | 0, p, l, hp => ⟨.inr (by omega), ho⟩
  | f + 1, p, l, hp => by
    unfold its
    split
    · rename_i h
      have := sees_len h (by simp)
      simp at this
      exact ⟨by simp only; omega, by simp only; omega⟩
    · have h1 := itm_rng m s o p ho hp
      split
      · rename_i e he; rw [he] at h1; exact h1
      · rename_i l' q he
        rw [he] at h1
        have h2 := its_rng m s o ho f q (l ++ l') h1.2
        cases hx : its m s o f q (l ++ l') with
        | error e => rw [hx] at h2; exact h2
        | ok r => rw [hx] at h2; exact ⟨by have := h1.1; have := h2.1; simp only at *; omega, h2.2⟩
theorem brk_rng (m : Md) (s : ByteArray) (p : Nat) (hp : p < s.size) : Rng s p Prod.snd (brk m s p) := by
  unfold brk
  have hq : p < (if sees s (p + 1) [94] then p + 2 else p + 1) ∧ (if sees s (p + 1) [94] then p + 2 else p + 1) ≤ s.size := by
    split
    · rename_i h
      have := sees_len h (by simp)
      simp at this
      omega
    · omega
  have h1 := sgl_rng m s p _ (by omega) hq.2
  split
  · rename_i e he; rw [he] at h1; exact h1
  · rename_i l r he
    rw [he] at h1
    have h2 := its_rng m s p (by omega) (s.size + 1) r l h1.2
    split
    · rename_i e hf; rw [hf] at h2; exact h2
    · rename_i l2 r2 hf
      rw [hf] at h2
      exact ⟨by have := h1.1; have := h2.1; simp only at *; omega, h2.2⟩
theorem digs_le (s : ByteArray) (p : Nat) (h : p ≤ s.size) : p + (digs s p).length ≤ s.size := by
  have := (List.takeWhile_prefix dig (l := s.data.toList.drop p)).length_le
  rw [List.length_drop, size_list] at this
  unfold digs
  omega
theorem ivR_ge (s : ByteArray) (p : Nat) : p + 2 ≤ ivR s p := by
  unfold ivR ivQ
  split <;> omega
theorem intv_rng (s : ByteArray) (p : Nat) (h : p + 1 < s.size) : Rng s p Prod.snd (intv s p) := by
  unfold intv
  split
  · exact ⟨.inr (by omega), by omega⟩
  split
  · exact ⟨.inr (by omega), by omega⟩
  · rename_i h1 _
    have h2 : sees s (ivR s p) [92, 125] = true := by
      cases hx : sees s (ivR s p) [92, 125] with
      | true => rfl
      | false => exact absurd (.inr hx) h1
    have h3 := sees_len h2 (by simp)
    have h4 := ivR_ge s p
    simp only [List.length_cons, List.length_nil] at h3
    exact ⟨by simp only; omega, by simpa using h3⟩
theorem esc_rng (m : Md) (s : ByteArray) (p last : Nat) (h : p < s.size) : Rng s p Prod.snd (esc m s p last) := by
  unfold esc
  split
  · exact ⟨.inr (by omega), by omega⟩
  have h2 : ∀ t : Tk, Rng s p Prod.snd (.ok (t, p + 2) : Rs (Tk × Nat)) := fun t => ⟨by simp only; omega, by simp only; omega⟩
  have h3 : ∀ c, 30 ≤ c → c ≤ 38 → Rng s p Prod.snd (.error (c, p) : Rs (Tk × Nat)) := fun c h1 h2 => ⟨.inr ⟨h1, h2⟩, by omega⟩
  have h4 := intv_rng s p (by omega)
  repeat' split
  all_goals first | exact h2 _ | exact h4 | exact h3 _ (by omega) (by omega)
theorem tok_rng (m : Md) (s : ByteArray) (p last : Nat) (h : p < s.size) : Rng s p Prod.snd (tok m s p last) := by
  unfold tok
  have h2 : ∀ t : Tk, Rng s p Prod.snd (.ok (t, p + 1) : Rs (Tk × Nat)) := fun t => ⟨by simp only; omega, by simp only; omega⟩
  split
  · exact esc_rng m s p last h
  split
  · exact h2 _
  split
  · exact h2 _
  split
  · exact h2 _
  split
  · exact h2 _
  split
  · exact brk_rng m s p h
  · have h5 := chr_rng m s p h
    split
    · rename_i e he; rw [he] at h5; exact h5
    · rename_i c q he; rw [he] at h5; exact h5
end Go.Proofs.YtpfdapnfkghgkaaGreatDoor
namespace Go.Proofs.YtpfdapnfkghgkaaGreatDoor
open Go

def TokOK (t : Tk) : Prop := 1 ≤ t.kind ∧ t.kind ≤ 8 ∧ t.n ≤ 9 ∧ (-1 ≤ t.mn ∧ t.mn ≤ 255) ∧ (-1 ≤ t.mx ∧ t.mx ≤ 255)
def OKr (r : Rs (Tk × Nat)) : Prop := match r with
  | .error _ => True
  | .ok x => TokOK x.1
theorem setT_ok (m : Md) (L : List (Int × Int)) (t : Bool) : TokOK (setT m L t) := by simp [TokOK, setT]
theorem brk_ok (m : Md) (s : ByteArray) (p : Nat) : OKr (brk m s p) := by
  unfold brk
  split
  · trivial
  · split
    · trivial
    · exact setT_ok ..
theorem intv_ok (s : ByteArray) (p : Nat) : OKr (intv s p) := by
  unfold intv
  split
  · trivial
  split
  · trivial
  · rename_i h
    refine ⟨by simp [repT], by simp [repT], by simp [repT], ?_, ?_⟩
    · simp only [repT]; omega
    · have : -1 ≤ ivB s p := by unfold ivB; split <;> (try split) <;> omega
      simp only [repT]; omega
theorem esc_ok (m : Md) (s : ByteArray) (p last : Nat) : OKr (esc m s p last) := by
  unfold esc
  have h4 := intv_ok s p
  repeat' split
  all_goals first | trivial | exact h4 | exact setT_ok .. | (refine ⟨?_, ?_, ?_, ?_, ?_⟩ <;> simp [kT, repT, backT] <;> omega) | (simp [OKr, TokOK, kT, repT, backT])
theorem tok_ok (m : Md) (s : ByteArray) (p last : Nat) : OKr (tok m s p last) := by
  unfold tok
  split
  · exact esc_ok ..
  split
  · simp [OKr, TokOK, repT]
  split
  · simp [OKr, TokOK, kT]
  split
  · simp [OKr, TokOK, kT]
  split
  · exact setT_ok ..
  split
  · exact brk_ok ..
  · split
    · trivial
    · exact setT_ok ..
/-- The place behind the first i tokens. -/
def plc (T : List Tp) : Nat → Nat
  | 0 => 0
  | i + 1 => match T[i]? with
    | some t => t.2.2
    | none => 0
structure Stands (s : ByteArray) (T : List Tp) (p : Nat) : Prop where
  each : ∀ i t, T[i]? = some t → t.2.1 = plc T i ∧ t.2.1 < t.2.2 ∧ t.2.2 ≤ s.size ∧ TokOK t.1
  last : plc T T.length = p
  few : T.length ≤ p
theorem plc_app (T : List Tp) (x : Tp) (i : Nat) (h : i ≤ T.length) : plc (T ++ [x]) i = plc T i := by
  cases i with
  | zero => rfl
  | succ i =>
    simp only [plc]
    rw [List.getElem?_append_left (by omega)]
theorem plc_end (T : List Tp) (x : Tp) : plc (T ++ [x]) (T.length + 1) = x.2.2 := by
  simp only [plc]
  rw [List.getElem?_append_right (Nat.le_refl _), Nat.sub_self]
  rfl
theorem Stands.nil (s : ByteArray) : Stands s [] 0 := ⟨fun i t h => by simp at h, rfl, Nat.le_refl _⟩
theorem Stands.add {s : ByteArray} {T : List Tp} {p : Nat} (h : Stands s T p) {t : Tk} {q : Nat} (h1 : p < q) (h2 : q ≤ s.size) (h3 : TokOK t) : Stands s (T ++ [(t, p, q)]) q := by
  refine ⟨fun i x hx => ?_, ?_, ?_⟩
  · rcases Nat.lt_trichotomy i T.length with g | g | g
    · rw [List.getElem?_append_left g] at hx
      rw [plc_app _ _ _ (by omega)]
      exact h.each i x hx
    · subst g
      rw [List.getElem?_append_right (Nat.le_refl _), Nat.sub_self] at hx
      simp at hx
      subst hx
      rw [plc_app _ _ _ (Nat.le_refl _), h.last]
      exact ⟨rfl, h1, h2, h3⟩
    · rw [List.getElem?_append_right (by omega), List.getElem?_eq_none (by simp; omega)] at hx
      cases hx
  · rw [List.length_append]; exact plc_end T _
  · rw [List.length_append]
    have := h.few
    simp; omega
/-- What comes of going on: tokens that stand, or an error of the chapter's. -/
def Ends (s : ByteArray) (r : Rs (List Tp)) : Prop := match r with
  | .error (c, a) => (c = 20 ∨ 30 ≤ c ∧ c ≤ 38) ∧ a ≤ s.size
  | .ok T => Stands s T s.size
theorem lx_ends (m : Md) (s : ByteArray) : ∀ (f p : Nat) (T : List Tp), Stands s T p → p ≤ s.size → s.size < f + p → Ends s (lx m s f p T)
  | 0, p, T, _, h1, h2 => by omega
  | f + 1, p, T, h, h1, h2 => by
    unfold lx
    split
    · rename_i hp
      have q1 := tok_rng m s p (lastK T) hp
      have q2 := tok_ok m s p (lastK T)
      split
      · rename_i e he
        rw [he] at q1
        exact q1
      · rename_i t q he
        rw [he] at q1 q2
        have q3 := q1.1
        have q4 := q1.2
        simp only at q3 q4
        exact lx_ends m s f q _ (h.add q3 q4 q2) q4 (by omega)
    · rename_i hp
      have : p = s.size := by omega
      simp only [Ends]
      rw [← this]; exact h
theorem lexM_ends (m : Md) (s : ByteArray) : Ends s (lexM m s) := by
  unfold lexM
  split
  · exact ⟨.inr (by omega), by omega⟩
  · exact lx_ends m s _ 0 [] (Stands.nil s) (by omega) (by omega)
end Go.Proofs.YtpfdapnfkghgkaaGreatDoor
namespace Go.Proofs.YtpfdapnfkghgkaaGreatDoor
open Go Go.RowKit

def kindB (k : Int) : Bool := decide (1 ≤ k) && decide (k ≤ 9)
def thingB (k : Int) : Bool := k == 2 || k == 7 || k == 8 || k == 9
def bndB (a b : Int) : Bool := decide (0 ≤ a) && decide (a ≤ 255) && (b == -1 || (decide (a ≤ b) && decide (b ≤ 255)))
def kidsB (k : Int) (n : Nat) : Bool := if k = 5 ∨ k = 6 then decide (2 ≤ n) else if k = 7 ∨ k = 9 then n == 1 else n == 0

set_option maxHeartbeats 1000000 in
theorem isKind_c (k : Int) (w : World) : Calls Tryz.prog 87 #[.int .i64 k] w fun e w' => e = .returned (.bool (kindB k)) ∧ w' = w := by
  have hid : ∀ b, kindB k = b → Calls Tryz.prog 87 #[.int .i64 k] w fun e w' => e = .returned (.bool b) ∧ w' = w := by
    intro b hb
    by_cases h1 : (1 : Int) ≤ k
    · by_cases h2 : k ≤ 9
      · have e : b = true := by rw [← hb]; simp [kindB, h1, h2]
        subst e
        clear hb
        go_enter Tryz.func87, Tryz.ntmps87
        go_wp2
        go_ret
        exact ⟨rfl, rfl⟩
      · have e : b = false := by rw [← hb]; simp [kindB, h2]
        subst e
        clear hb
        go_enter Tryz.func87, Tryz.ntmps87
        go_wp2
        go_ret
        exact ⟨rfl, rfl⟩
    · have e : b = false := by rw [← hb]; simp [kindB, h1]
      subst e
      clear hb
      go_enter Tryz.func87, Tryz.ntmps87
      go_wp2
      go_ret
      exact ⟨rfl, rfl⟩
  exact hid _ rfl

set_option maxHeartbeats 1000000 in
theorem mayRepeat_c (k : Int) (w : World) : Calls Tryz.prog 33 #[.int .i64 k] w fun e w' => e = .returned (.bool (thingB k)) ∧ w' = w := by
  have hid : ∀ b, thingB k = b → Calls Tryz.prog 33 #[.int .i64 k] w fun e w' => e = .returned (.bool b) ∧ w' = w := by
    intro b hb
    unfold thingB at hb
    cases h1 : (k == 2) <;> cases h2 : (k == 7) <;> cases h3 : (k == 8) <;> cases h4 : (k == 9) <;> rw [h1, h2, h3, h4] at hb <;> simp at hb <;> subst hb
    all_goals
      go_enter Tryz.func33, Tryz.ntmps33
      go_wp2
      go_ret
      exact ⟨rfl, rfl⟩
  exact hid _ rfl

set_option maxHeartbeats 1000000 in
theorem rightBounds_c (a b : Int) (w : World) : Calls Tryz.prog 34 #[.int .i64 a, .int .i64 b] w fun e w' => e = .returned (.bool (bndB a b)) ∧ w' = w := by
  have hid : ∀ r, bndB a b = r → Calls Tryz.prog 34 #[.int .i64 a, .int .i64 b] w fun e w' => e = .returned (.bool r) ∧ w' = w := by
    intro r hb
    unfold bndB at hb
    by_cases h1 : (0 : Int) ≤ a
    · by_cases h2 : a ≤ 255
      · cases h3 : (b == -1) with
        | true =>
          simp [h1, h2, h3] at hb
          subst hb
          go_enter Tryz.func34, Tryz.ntmps34
          go_wp2
          go_ret
          exact ⟨rfl, rfl⟩
        | false =>
          by_cases h4 : a ≤ b
          · by_cases h5 : b ≤ 255
            · simp [h1, h2, h3, h4, h5] at hb
              subst hb
              go_enter Tryz.func34, Tryz.ntmps34
              go_wp2
              go_ret
              exact ⟨rfl, rfl⟩
            · simp [h1, h2, h3, h4, h5] at hb
              subst hb
              go_enter Tryz.func34, Tryz.ntmps34
              go_wp2
              go_ret
              exact ⟨rfl, rfl⟩
          · simp [h1, h2, h3, h4] at hb
            subst hb
            go_enter Tryz.func34, Tryz.ntmps34
            go_wp2
            go_ret
            exact ⟨rfl, rfl⟩
      · simp [h1, h2] at hb
        subst hb
        go_enter Tryz.func34, Tryz.ntmps34
        go_wp2
        go_ret
        exact ⟨rfl, rfl⟩
    · simp [h1] at hb
      subst hb
      go_enter Tryz.func34, Tryz.ntmps34
      go_wp2
      go_ret
      exact ⟨rfl, rfl⟩
  exact hid _ rfl

theorem beq_zero (n : Nat) : ((n : Int) == 0) = (n == 0) := by cases n <;> rfl
theorem beq_one (n : Nat) : ((n : Int) == 1) = (n == 1) := by rw [Bool.eq_iff_iff]; simp; omega
set_option maxHeartbeats 1000000 in
theorem rightKids_c (f : Fl) (w : World) : Calls Tryz.prog 61 #[.agg #[.int .i64 f.k, .int .i64 f.n, .int .i64 f.mn, .int .i64 f.mx, .slice f.rq f.rs.length f.rc, .slice f.kq f.kl f.kc]] w fun e w' => e = .returned (.bool (kidsB f.k f.kl)) ∧ Below w.heap.size w w' := by
  obtain ⟨r, hr⟩ : ∃ r, kidsB f.k f.kl = r := ⟨_, rfl⟩
  rw [hr]
  have HR := hide hr
  have B1 : Hid (Below w.heap.size w (w.alloc (.cells #[.int .i64 f.k, .int .i64 f.n, .int .i64 f.mn, .int .i64 f.mx, .slice f.rq f.rs.length f.rc, .slice f.kq f.kl f.kc] 28))) := (Below.refl _ _).alloc (Nat.le_refl _) _
  have N1 : Hid (BoxN (w.alloc (.cells #[.int .i64 f.k, .int .i64 f.n, .int .i64 f.mn, .int .i64 f.mx, .slice f.rq f.rs.length f.rc, .slice f.kq f.kl f.kc] 28)) w.heap.size f) := alloc_new w _
  obtain ⟨c0, -, -, -, -, c5⟩ := N1.out.six
  simp only [Nat.zero_add] at c5
  clear hr
  cases h5 : (f.k == 5) <;> cases h6 : (f.k == 6) <;> cases h7 : (f.k == 7) <;> cases h9 : (f.k == 9)
  all_goals
    go_enter Tryz.func61, Tryz.ntmps61
    go_wp2
    go_ret
    refine ⟨?_, B1.out⟩
    rw [← HR.out]
    unfold kidsB
    simp at h5 h6 h7 h9
    simp [h5, h6, h7, h9]
    try first | exact beq_zero _ | exact beq_one _ | omega
end Go.Proofs.YtpfdapnfkghgkaaGreatDoor
namespace Go.Proofs.YtpfdapnfkghgkaaGreatDoor
open Go

open Classical in
/-- The class of a predicate. -/
noncomputable def rsQ (q : Int → Prop) : List (Int × Int) := if h : ∃ C, IsC C q then h.choose else []
theorem rsQ_is {C : List (Int × Int)} {q : Int → Prop} (h : IsC C q) : rsQ q = C := by
  have hx : ∃ C, IsC C q := ⟨C, h⟩
  unfold rsQ
  rw [dif_pos hx]
  exact hx.choose_spec.one h (fun _ => Iff.rfl)
noncomputable def sgT (g : Nat) (t : Tk) : Sgn :=
  if t.kind = 3 then .op (g + 1) else if t.kind = 4 then .cl else if t.kind = 5 then .al else if t.kind = 2 then .rp t.mn t.mx
  else if t.kind = 7 then .lf 3 0 [] else if t.kind = 8 then .lf 4 0 [] else if t.kind = 6 then .lf 8 (t.n : Int) [] else .lf 2 0 (rsQ t.q)
def gnx (g : Nat) (t : Tk) : Nat := if t.kind = 3 then g + 1 else g
noncomputable def sgns : Nat → List Tp → List Sgn
  | _, [] => []
  | g, t :: T => sgT g t.1 :: sgns (gnx g t.1) T
def gcnt : Nat → List Tp → Nat
  | g, [] => g
  | g, t :: T => gcnt (gnx g t.1) T
theorem sgns_append : ∀ (g : Nat) (A B : List Tp), sgns g (A ++ B) = sgns g A ++ sgns (gcnt g A) B
  | g, [], B => rfl
  | g, t :: A, B => by rw [List.cons_append, sgns, sgns, sgns_append, List.cons_append]; rfl
theorem sgns_length : ∀ (g : Nat) (T : List Tp), (sgns g T).length = T.length
  | g, [] => rfl
  | g, t :: T => by rw [sgns, List.length_cons, List.length_cons, sgns_length]
theorem sgns_kinds : ∀ (g : Nat) {A B : List Tp}, A.map Prod.fst = B.map Prod.fst → sgns g A = sgns g B
  | g, [], [], _ => rfl
  | g, [], _ :: _, h => by cases h
  | g, _ :: _, [], h => by cases h
  | g, a :: A, b :: B, h => by
    rw [List.map_cons, List.map_cons] at h
    injection h with h1 h2
    rw [sgns, sgns, h1, sgns_kinds _ h2]

/- What is wrong with groups. -/
structure GS where
  g : Nat
  o : List (Nat × Nat)
  e : List Nat
def glk (s : GS) (t : Tp) : Except (Nat × Nat) GS :=
  if t.1.kind = 3 then (if s.g = 30 then .error (42, t.2.1) else .ok ⟨s.g + 1, s.o ++ [(s.g + 1, t.2.1)], s.e⟩)
  else if t.1.kind = 4 then (match s.o.getLast? with
    | none => .error (40, t.2.1)
    | some x => .ok ⟨s.g, s.o.dropLast, x.1 :: s.e⟩)
  else if t.1.kind = 6 then (if t.1.n ∈ s.e then .ok s else .error (41, t.2.1))
  else .ok s
def gck : GS → List Tp → Except (Nat × Nat) GS
  | s, [] => .ok s
  | s, t :: T => match glk s t with
    | .error x => .error x
    | .ok s' => gck s' T
def gs0 : GS := ⟨0, [], []⟩
def heldM (T : List Tp) : Option (Nat × Nat) := match gck gs0 T with
  | .error x => some x
  | .ok s => match s.o with
    | [] => none
    | x :: _ => some (39, x.2)
theorem gck_hk : ∀ (T : List Tp) (s s' : GS), s.g ≤ 30 → gck s T = .ok s' → s'.o = [] → hk s.g (s.o.map Prod.fst).reverse s.e (sgns s.g T)
  | [], s, s', hg, h, ho => by
    cases h
    rw [ho]
    rfl
  | t :: T, s, s', hg, h, ho => by
    rw [gck] at h
    rw [sgns]
    by_cases k3 : t.1.kind = 3
    · by_cases hg2 : s.g = 30
      · simp [glk, k3, hg2] at h
      · simp only [glk, if_pos k3, if_neg hg2] at h
        have := gck_hk T _ s' (by simp only; omega) h ho
        simp only [List.map_append, List.reverse_append] at this
        simp only [sgT, if_pos k3, gnx, hk]
        exact ⟨trivial, by omega, this⟩
    · by_cases k4 : t.1.kind = 4
      · cases hl : s.o.getLast? with
        | none => simp [glk, k4, hl] at h
        | some x =>
          simp only [glk, if_neg k3, if_pos k4, hl] at h
          have hx : s.o = s.o.dropLast ++ [x] := by
            have hne : s.o ≠ [] := fun e => by rw [e] at hl; cases hl
            rw [List.getLast?_eq_some_getLast hne] at hl
            cases hl
            exact (List.dropLast_concat_getLast hne).symm
          have := gck_hk T _ s' (by simp only; omega) h ho
          simp only [sgT, if_neg k3, if_pos k4, gnx, hk]
          refine ⟨x.1, (s.o.dropLast.map Prod.fst).reverse, ?_, this⟩
          conv => lhs; rw [hx]
          simp
      · by_cases k6 : t.1.kind = 6
        · by_cases hm : t.1.n ∈ s.e
          · simp only [glk, if_neg k3, if_neg k4, if_pos k6, if_pos hm] at h
            have := gck_hk T _ s' hg h ho
            have e1 : sgT s.g t.1 = .lf 8 (t.1.n : Int) [] := by simp [sgT, k6]
            rw [e1]
            simp only [gnx, if_neg k3, hk]
            exact ⟨fun _ => ⟨_, hm, rfl⟩, this⟩
          · simp [glk, k6, hm] at h
        · simp only [glk, if_neg k3, if_neg k4, if_neg k6] at h
          have := gck_hk T _ s' hg h ho
          simp only [sgT, if_neg k3, if_neg k4, if_neg k6, gnx]
          repeat' split
          all_goals first | exact this | exact ⟨fun q => by (exfalso; revert q; decide), this⟩ | (simp only [hk]; exact this)
theorem held_hk {T : List Tp} (h : heldM T = none) : hk 0 [] [] (sgns 0 T) := by
  unfold heldM at h
  cases hg : gck gs0 T with
  | error x => rw [hg] at h; cases h
  | ok s =>
    rw [hg] at h
    have ho : s.o = [] := by
      cases ho : s.o with
      | nil => rfl
      | cons x r => simp [ho] at h
    exact gck_hk T gs0 s (by simp [gs0]) hg ho
/-- What is wrong with groups is one of the chapter's errors, at a token. -/
theorem glk_err {s : GS} {t : Tp} {c a : Nat} (h : glk s t = .error (c, a)) : (c = 40 ∨ c = 41 ∨ c = 42) ∧ a = t.2.1 := by
  unfold glk at h
  repeat' split at h
  all_goals (cases h; try exact ⟨by omega, rfl⟩)
theorem glk_o {s s' : GS} {t : Tp} (h : glk s t = .ok s') : ∀ x ∈ s'.o, x ∈ s.o ∨ x.2 = t.2.1 := by
  unfold glk at h
  repeat' split at h
  all_goals cases h
  · intro x hx
    rcases List.mem_append.1 hx with q | q
    · exact .inl q
    · simp at q; exact .inr (by rw [q])
  · exact fun x hx => .inl (List.dropLast_subset _ hx)
  · exact fun x hx => .inl hx
  · exact fun x hx => .inl hx
theorem gck_at (n : Nat) : ∀ (T : List Tp) (s : GS), (∀ t ∈ T, t.2.1 ≤ n) → (∀ x ∈ s.o, x.2 ≤ n) → match gck s T with
    | .error (c, a) => (c = 40 ∨ c = 41 ∨ c = 42) ∧ a ≤ n
    | .ok s' => ∀ x ∈ s'.o, x.2 ≤ n
  | [], s, _, ho => ho
  | t :: T, s, hT, ho => by
    have h1 := hT t (List.mem_cons_self ..)
    rw [gck]
    cases hg : glk s t with
    | error x =>
      obtain ⟨c, a⟩ := x
      obtain ⟨h2, h3⟩ := glk_err hg
      exact ⟨h2, by omega⟩
    | ok s' => exact gck_at n T s' (fun u hu => hT u (List.mem_cons_of_mem _ hu)) (fun x hx => by
        rcases glk_o hg x hx with q | q
        · exact ho x q
        · omega)
theorem held_at {s : ByteArray} {T : List Tp} {p c a : Nat} (hs : Stands s T p) (h : heldM T = some (c, a)) : 39 ≤ c ∧ c ≤ 42 ∧ a ≤ s.size := by
  have hT : ∀ t ∈ T, t.2.1 ≤ s.size := fun t ht => by
    obtain ⟨i, hi, e⟩ := List.getElem_of_mem ht
    have := hs.each i t (by rw [List.getElem?_eq_getElem hi, e])
    omega
  have := gck_at s.size T gs0 hT (fun x hx => by cases hx)
  unfold heldM at h
  cases hg : gck gs0 T with
  | error x =>
    rw [hg] at h this
    cases h
    simp only at this
    omega
  | ok s' =>
    rw [hg] at h this
    simp only at h this
    split at h
    · cases h
    · rename_i x r ho
      cases h
      have := this x (by rw [ho]; exact List.mem_cons_self ..)
      exact ⟨by omega, by omega, this⟩

/- How tokens may stand. -/
structure TkK (m : Md) (s : ByteArray) (p last : Nat) (t : Tk) (q : Nat) : Prop where
  rep : t.kind = 2 → atBeg last = false ∧ bndB t.mn t.mx = true
  beg : t.kind = 7 → p = 0 ∨ last = 3 ∨ last = 5
  fin : t.kind = 8 → q = p + 1 ∧ endsB s p = true
  back : t.kind = 6 → 1 ≤ t.n ∧ t.n ≤ 9
  set : t.kind = 1 → ∃ L b, t.q = setQ m L b
  chr : ∀ c, t.q c → isChar m.c c
def TkR (m : Md) (s : ByteArray) (p last : Nat) (r : Rs (Tk × Nat)) : Prop := match r with
  | .error _ => True
  | .ok x => TkK m s p last x.1 x.2
theorem tk_set (m : Md) (s : ByteArray) (p last : Nat) (L : List (Int × Int)) (b : Bool) (q : Nat) : TkR m s p last (.ok (setT m L b, q)) :=
  ⟨fun h => (by cases h), fun h => (by cases h), fun h => (by cases h), fun h => (by cases h), fun _ => ⟨L, b, rfl⟩, fun c h => h.1⟩
theorem tk_kT (m : Md) (s : ByteArray) (p last k q : Nat) (h1 : k = 3 ∨ k = 4 ∨ k = 5) : TkR m s p last (.ok (kT k, q)) := by
  refine ⟨fun h => ?_, fun h => ?_, fun h => ?_, fun h => ?_, fun h => ?_, fun c h => h.elim⟩ <;> (have h' : k = _ := h; omega)
theorem tk_rep (m : Md) (s : ByteArray) (p last : Nat) (a b : Int) (q : Nat) (h1 : atBeg last = false) (h2 : bndB a b = true) : TkR m s p last (.ok (repT a b, q)) :=
  ⟨fun _ => ⟨h1, h2⟩, fun h => (by cases h), fun h => (by cases h), fun h => (by cases h), fun h => (by cases h), fun c h => h.elim⟩
theorem brk_k (m : Md) (s : ByteArray) (p last : Nat) : TkR m s p last (brk m s p) := by
  unfold brk
  split
  · trivial
  · split
    · trivial
    · exact tk_set ..
theorem intv_k (m : Md) (s : ByteArray) (p last : Nat) (h : atBeg last = false) : TkR m s p last (intv s p) := by
  unfold intv
  split
  · trivial
  split
  · trivial
  · rename_i n
    refine tk_rep _ _ _ _ _ _ _ h ?_
    have : -1 ≤ ivB s p := by unfold ivB; split <;> (try split) <;> omega
    simp only [bndB, Bool.and_eq_true, Bool.or_eq_true, decide_eq_true_eq, beq_iff_eq]
    omega
theorem esc_k (m : Md) (s : ByteArray) (p last : Nat) : TkR m s p last (esc m s p last) := by
  unfold esc
  split
  · trivial
  split
  · exact tk_kT _ _ _ _ _ _ (by omega)
  split
  · exact tk_kT _ _ _ _ _ _ (by omega)
  split
  · exact tk_kT _ _ _ _ _ _ (by omega)
  split
  · rename_i h
    exact ⟨fun h => (by cases h), fun h => (by cases h), fun h => (by cases h), fun _ => ⟨by simp only [backT]; omega, by simp only [backT]; omega⟩, fun h => (by cases h), fun c h => h.elim⟩
  split
  · split
    · trivial
    rename_i hb
    have hb' : atBeg last = false := by simpa using hb
    split
    · exact tk_rep _ _ _ _ _ _ _ hb' rfl
    split
    · exact tk_rep _ _ _ _ _ _ _ hb' rfl
    · exact intv_k m s p last hb'
  split
  · exact tk_set ..
  · trivial
theorem tok_k (m : Md) (s : ByteArray) (p last : Nat) : TkR m s p last (tok m s p last) := by
  unfold tok
  split
  · exact esc_k ..
  split
  · rename_i h
    simp only [Bool.and_eq_true, Bool.not_eq_true'] at h
    exact tk_rep _ _ _ _ _ _ _ h.2 rfl
  split
  · rename_i h
    simp only [Bool.and_eq_true, Bool.or_eq_true, beq_iff_eq] at h
    exact ⟨fun h => (by cases h), fun _ => by omega, fun h => (by cases h), fun h => (by cases h), fun h => (by cases h), fun c h => h.elim⟩
  split
  · rename_i h
    simp only [Bool.and_eq_true] at h
    exact ⟨fun h => (by cases h), fun h => (by cases h), fun _ => ⟨rfl, h.2⟩, fun h => (by cases h), fun h => (by cases h), fun c h => h.elim⟩
  split
  · exact tk_set ..
  split
  · exact brk_k ..
  · split
    · trivial
    · exact tk_set ..
/-- Behind an end there is a group's end, or an or. -/
theorem tok_fin (m : Md) (s : ByteArray) (p last : Nat) {t : Tk} {q : Nat} (h : sees s p [92, 41] = true ∨ sees s p [92, 124] = true) (hw : tok m s p last = .ok (t, q)) : t.kind = 4 ∨ t.kind = 5 := by
  have h0 : sees s p [92] = true := by
    rcases h with h | h
    · exact sees_one.2 ⟨by have := (sees_two.1 h).1; omega, (sees_two.1 h).2.1⟩
    · exact sees_one.2 ⟨by have := (sees_two.1 h).1; omega, (sees_two.1 h).2.1⟩
  unfold tok at hw
  rw [if_pos h0] at hw
  unfold esc at hw
  rcases h with h | h
  · have h1 := sees_two.1 h
    rw [if_neg (by omega), if_neg (by rw [h1.2.2]; decide), if_pos (by rw [h1.2.2]; decide)] at hw
    cases hw
    exact .inl rfl
  · have h1 := sees_two.1 h
    rw [if_neg (by omega), if_neg (by rw [h1.2.2]; decide), if_neg (by rw [h1.2.2]; decide), if_pos (by rw [h1.2.2]; decide)] at hw
    cases hw
    exact .inr rfl
def okk (a b : Nat) : Prop := (b = 2 → a = 1 ∨ a = 2 ∨ a = 4 ∨ a = 6) ∧ (b = 7 → a = 0 ∨ a = 3 ∨ a = 5) ∧ (a = 8 → b = 4 ∨ b = 5)
/-- What is known of a token. -/
structure TkW (m : Md) (t : Tk) : Prop where
  ok : TokOK t
  rep : t.kind = 2 → bndB t.mn t.mx = true
  back : t.kind = 6 → 1 ≤ t.n ∧ t.n ≤ 9
  set : t.kind = 1 → ∃ L b, t.q = setQ m L b
  chr : ∀ c, t.q c → isChar m.c c
structure Beside (m : Md) (s : ByteArray) (T : List Tp) (p : Nat) : Prop where
  each : ∀ i t, T[i]? = some t → okk (lastK (T.take i)) t.1.kind
  tok : ∀ t ∈ T, TkW m t.1
  fin : lastK T = 8 → p = s.size ∨ sees s p [92, 41] = true ∨ sees s p [92, 124] = true
theorem lastK_range {m : Md} {s : ByteArray} {T : List Tp} {p : Nat} (h : Beside m s T p) : lastK T ≤ 8 ∧ (lastK T = 0 → T = []) := by
  unfold lastK
  cases hl : T.getLast? with
  | none => exact ⟨by simp, fun _ => List.getLast?_eq_none_iff.1 hl⟩
  | some x =>
    have := (h.tok x (List.mem_of_getLast? hl)).ok
    exact ⟨this.2.1, fun q => by have := this.1; simp only at q; omega⟩
theorem Beside.add {m : Md} {s : ByteArray} {T : List Tp} {p q : Nat} {t : Tk} (h : Beside m s T p) (hp : p < s.size) (h0 : p = 0 → T = []) (hw : Go.Proofs.YtpfdapnfkghgkaaGreatDoor.tok m s p (lastK T) = .ok (t, q)) : Beside m s (T ++ [(t, p, q)]) q := by
  have hk := tok_k m s p (lastK T)
  have ho := tok_ok m s p (lastK T)
  rw [hw] at hk ho
  have hk' : TkK m s p (lastK T) t q := hk
  have ho' : TokOK t := ho
  have hr := lastK_range h
  have h8 : lastK T = 8 → t.kind = 4 ∨ t.kind = 5 := fun e => by
    rcases h.fin e with z | z
    · omega
    · exact tok_fin m s p _ z hw
  refine ⟨fun i x hx => ?_, fun x hx => ?_, fun e => ?_⟩
  · rcases Nat.lt_trichotomy i T.length with g | g | g
    · rw [List.getElem?_append_left g] at hx
      rw [List.take_append_of_le_length (by omega)]
      exact h.each i x hx
    · subst g
      rw [List.getElem?_append_right (Nat.le_refl _), Nat.sub_self] at hx
      simp at hx
      subst hx
      rw [List.take_append_of_le_length (by omega), List.take_length]
      refine ⟨fun e => ?_, fun e => ?_, h8⟩
      · have := (hk'.rep e).1
        have k1 : lastK T ≠ 8 := fun z => by have := h8 z; simp only at e; omega
        unfold atBeg at this
        simp only [Bool.or_eq_false_iff, beq_eq_false_iff_ne] at this
        omega
      · rcases hk'.beg e with z | z
        · left; rw [h0 z]; rfl
        · right; exact z
    · rw [List.getElem?_append_right (by omega), List.getElem?_eq_none (by simp; omega)] at hx
      cases hx
  · rcases List.mem_append.1 hx with z | z
    · exact h.tok x z
    · simp at z
      subst z
      exact ⟨ho', fun e => (hk'.rep e).2, hk'.back, hk'.set, hk'.chr⟩
  · rw [show lastK (T ++ [(t, p, q)]) = t.kind by simp [lastK]] at e
    obtain ⟨e1, e2⟩ := hk'.fin e
    unfold endsB at e2
    simp only [Bool.or_eq_true, decide_eq_true_eq] at e2
    subst e1
    rcases e2 with (z | z) | z
    · exact .inl z
    · exact .inr (.inl z)
    · exact .inr (.inr z)
theorem lx_beside (m : Md) (s : ByteArray) : ∀ (f p : Nat) (T T' : List Tp), Stands s T p → Beside m s T p → lx m s f p T = .ok T' → ∃ p', Beside m s T' p'
  | 0, p, T, T', _, _, hw => by unfold lx at hw; cases hw
  | f + 1, p, T, T', hs, hb, hw => by
    unfold lx at hw
    split at hw
    · rename_i hp
      have q1 := tok_rng m s p (lastK T) hp
      have q2 := tok_ok m s p (lastK T)
      cases ht : Go.Proofs.YtpfdapnfkghgkaaGreatDoor.tok m s p (lastK T) with
      | error e => rw [ht] at hw; cases hw
      | ok x =>
        obtain ⟨t, q⟩ := x
        rw [ht] at hw q1 q2
        have h1 : p < q := q1.1
        have h2 : q ≤ s.size := q1.2
        exact lx_beside m s f q _ T' (hs.add h1 h2 q2) (hb.add hp (fun z => by have := hs.few; exact List.eq_nil_of_length_eq_zero (by omega)) ht) hw
    · cases hw
      exact ⟨p, hb⟩
theorem lex_beside {m : Md} {s : ByteArray} {T : List Tp} (h : lexM m s = .ok T) : ∃ p, Beside m s T p := by
  unfold lexM at h
  split at h
  · cases h
  · exact lx_beside m s _ 0 [] T (Stands.nil s) ⟨fun i t hx => (by simp at hx), fun t ht => by (cases ht), fun e => (by cases e)⟩ h
theorem kinds_of {k : Nat} (h1 : 1 ≤ k) (h2 : k ≤ 8) : k = 1 ∨ k = 2 ∨ k = 3 ∨ k = 4 ∨ k = 5 ∨ k = 6 ∨ k = 7 ∨ k = 8 := by omega
theorem okp_of {p : Option Sgn} {a g : Nat} {t : Tk} (h : okk a t.kind) (h1 : 1 ≤ t.kind) (h2 : t.kind ≤ 8) (hp : (p = none ∧ a = 0) ∨ ∃ g' t', p = some (sgT g' t') ∧ a = t'.kind ∧ 1 ≤ t'.kind ∧ t'.kind ≤ 8) : okp p (sgT g t) := by
  rcases hp with ⟨rfl, rfl⟩ | ⟨g', t', rfl, rfl, k1, k2⟩
  · rcases kinds_of h1 h2 with e | e | e | e | e | e | e | e
    all_goals first
      | (exfalso; have := h.1 e; omega)
      | simp [sgT, e, okp]
  · rcases kinds_of h1 h2 with e | e | e | e | e | e | e | e <;> rcases kinds_of k1 k2 with f | f | f | f | f | f | f | f
    all_goals first
      | (exfalso; have q1 := h.1; have q2 := h.2.1; have q3 := h.2.2; omega)
      | simp [sgT, e, f, okp]
theorem adj_of {m : Md} {s : ByteArray} : ∀ (B A : List Tp) (g p0 : Nat) (p : Option Sgn), Beside m s (A ++ B) p0 → ((p = none ∧ A = []) ∨ ∃ g' A' t', A = A' ++ [t'] ∧ p = some (sgT g' t'.1)) → adj p (sgns g B)
  | [], A, g, p0, p, _, _ => trivial
  | t :: B, A, g, p0, p, h, hp => by
    have h1 := h.each A.length t (by rw [List.getElem?_append_right (Nat.le_refl _), Nat.sub_self]; rfl)
    rw [List.take_append_of_le_length (Nat.le_refl _), List.take_length] at h1
    have h2 := (h.tok t (by simp)).ok
    refine ⟨okp_of h1 h2.1 h2.2.1 ?_, adj_of B (A ++ [t]) _ p0 _ (by rw [List.append_assoc]; exact h) (.inr ⟨g, A, t, rfl, rfl⟩)⟩
    rcases hp with ⟨e1, e2⟩ | ⟨g', A', t', e1, e2⟩
    · exact .inl ⟨e1, by rw [e2]; rfl⟩
    · subst e1
      have h3 := (h.tok t' (by simp)).ok
      exact .inr ⟨g', t'.1, e2, by simp [lastK], h3.1, h3.2.1⟩
/-- A pattern's tokens, if nothing is wrong with groups, are a tree's. -/
theorem tree_of {m : Md} {s : ByteArray} {T : List Tp} (h : lexM m s = .ok T) (hh : heldM T = none) : ∃ x, wf x ∧ pfl x = sgns 0 T := by
  obtain ⟨p, hb⟩ := lex_beside h
  exact put_all (adj_of T [] 0 p none (by simpa using hb) (.inl ⟨rfl, rfl⟩)) (held_hk hh)
end Go.Proofs.YtpfdapnfkghgkaaGreatDoor
