/-
  A step of the script, whatever its kind; a script that came in.
-/
import Derived.Test.YtofiidfnjgoenaaStep4
namespace Go.Proofs.Ytofiidfnjgoenaa
open Go Go.RowKit Go.Shelf

/-- A step's numbers. -/
structure Sp where
  kind : Int
  on : Int
  n : Int
  lv : Int
  tn : Int
  ii : Int
  o6 : Int
def Sp.val (x : Sp) : Value := .agg #[.int .i64 x.kind, .int .i64 x.on, .int .i64 x.n, .int .i64 x.lv, .int .i64 x.tn, .int .i64 x.ii, .int .i64 x.o6]
structure Sp.Ok (x : Sp) : Prop where
  on : (Lit.int .i64 x.on).wf = true
  lv : (Lit.int .i64 x.lv).wf = true
  tn : (Lit.int .i64 x.tn).wf = true

theorem step_c {w : World} {wb base : Nat} {s : St} (h : WS w wb s) (heq : s.R = s.L) (hvl : s.vs.length ≤ 9000) (hbs : base ≤ w.heap.size) (hfs : ∀ z, s.foot wb z → base ≤ z) (x : Sp) (ok : x.Ok) :
    Calls Try.prog 16 #[.pointer (some ⟨wb, 0, none⟩), x.val] w (Goes base w wb s) := by
  obtain ⟨kind, on, n, lv, tn, ii, o6⟩ := x
  have G : ∀ e w', Left w wb s e w' → Goes base w wb s e w' := fun e w' q => goes_of_left hbs hfs q
  unfold Sp.val
  by_cases h5 : kind = 5
  · subst h5; exact (step_all h heq hvl on n lv tn ii o6 ok.on ok.lv ok.tn).mono G
  by_cases h6 : kind = 6
  · subst h6; exact (step_old h heq hvl on n lv tn ii o6 ok.on ok.lv ok.tn).mono G
  by_cases h8 : kind = 8
  · subst h8; exact (step_same h heq on n lv tn ii o6 ok.on).mono G
  by_cases h9 : kind = 9
  · subst h9; exact step_copy h heq hbs hfs on n lv tn ii o6 ok.on
  exact (step_does h heq hvl kind on n lv tn ii o6 ok.on h5 h6 h8 h9).mono G

/-- A script that came in. -/
def ArgS (W : World) (v : Value) (rs : List Sp) : Prop :=
  (∃ p cap, v = .slice p 0 cap ∧ rs = []) ∨ ∃ g off cap, v = .slice (some ⟨g, off, none⟩) rs.length cap ∧ g < W.heap.size ∧ rs.length ≤ cap ∧ cap ≤ maxLen ∧ ∀ (i : Nat) (x : Sp), rs[i]? = some x → x.Ok ∧
    W.cell? ⟨g, off + i * 7, none⟩ = some (.int .i64 x.kind) ∧ W.cell? ⟨g, off + i * 7 + 1, none⟩ = some (.int .i64 x.on) ∧ W.cell? ⟨g, off + i * 7 + 2, none⟩ = some (.int .i64 x.n) ∧ W.cell? ⟨g, off + i * 7 + 3, none⟩ = some (.int .i64 x.lv) ∧ W.cell? ⟨g, off + i * 7 + 4, none⟩ = some (.int .i64 x.tn) ∧ W.cell? ⟨g, off + i * 7 + 5, none⟩ = some (.int .i64 x.ii) ∧ W.cell? ⟨g, off + i * 7 + 6, none⟩ = some (.int .i64 x.o6)
theorem ArgS.slice {W : World} {v : Value} {rs : List Sp} (h : ArgS W v rs) : ∃ q cap, v = .slice q rs.length cap ∧ rs.length ≤ maxLen ∧
    (∀ (i : Nat) (x : Sp), rs[i]? = some x → ∃ g off, q = some ⟨g, off, none⟩ ∧ g < W.heap.size ∧ x.Ok ∧
    W.cell? ⟨g, off + i * 7, none⟩ = some (.int .i64 x.kind) ∧ W.cell? ⟨g, off + i * 7 + 1, none⟩ = some (.int .i64 x.on) ∧ W.cell? ⟨g, off + i * 7 + 2, none⟩ = some (.int .i64 x.n) ∧ W.cell? ⟨g, off + i * 7 + 3, none⟩ = some (.int .i64 x.lv) ∧ W.cell? ⟨g, off + i * 7 + 4, none⟩ = some (.int .i64 x.tn) ∧ W.cell? ⟨g, off + i * 7 + 5, none⟩ = some (.int .i64 x.ii) ∧ W.cell? ⟨g, off + i * 7 + 6, none⟩ = some (.int .i64 x.o6)) := by
  rcases h with ⟨p, cap, rfl, rfl⟩ | ⟨g, off, cap, rfl, h2, h3, h4, h5⟩
  · exact ⟨p, cap, rfl, Nat.zero_le _, fun i x hx => by simp at hx⟩
  · exact ⟨_, cap, rfl, Nat.le_trans h3 h4, fun i x hx => ⟨g, off, rfl, h2, h5 i x hx⟩⟩
end Go.Proofs.Ytofiidfnjgoenaa
