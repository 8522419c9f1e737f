/-
  Lists of ranges in memory: lists that can be read, lists of one's own. Top, characters: the class of all characters of a mode. Tokens of patterns as mathematics. What the library does with texts, as it lies in this program. Laid by program at this seat: at another seat lay it anew (NOTES.md). Units of a text: what the program's own calls tell. Next, Valid, Column: contracts. The reader in memory; what stands where it is; what is wrong.
-/
import Derived.Test.YtloeajhmmjdlgaaGreatDoorC0
import Derived.Laws.OwnMore
import Derived.Lib.IndexMore
import Derived.Shelf.Strings.Search1
import Derived.Shelf.Strings.Search2
import Derived.Shelf.Strings.Search3
import Derived.Shelf.Strings.Prefix
import Derived.Shelf.Unicode.DecodeSlow
import Derived.Shelf.Unicode.DecodeAny
import Derived.Test.YtloeajhmmjdlgaaGreatDoorProg
import Derived.Lib.OthersKept
namespace Go.Proofs.YtloeajhmmjdlgaaGreatDoor
open Go Go.RowKit

theorem hide {p : Prop} (h : p) : Hid p := h
theorem wf_range {x : Int} (h : (Lit.int .i64 x).wf = true) : -9223372036854775808 ≤ x ∧ x ≤ 9223372036854775807 := by
  simp [Lit.wf, IntKind.min, IntKind.max, IntKind.signed, IntKind.bits] at h
  omega
theorem size_range : (Tryz.prog.info? 39).map (fun i => (i.zero, i.size, i.bytes)) = some (some (.agg #[.int .i64 0, .int .i64 0]), 2, 16) := by kernel_rfl
theorem und_ranges : Tryz.prog.underlying 35 = some (.slice 39) := by kernel_rfl

theorem max_run (P : Program) (t : Array TypeId) (ty : TypeId) (w : World) (x y : Int) : (Builtin.max_ t ty #[.int .i64 x, .int .i64 y]).run P w = .ok (.int .i64 (max x y)) w := by
  have e : max x y = if y > x then y else x := by split <;> omega
  rw [e]
  rfl
theorem min_run (P : Program) (t : Array TypeId) (ty : TypeId) (w : World) (x y : Int) : (Builtin.min_ t ty #[.int .i64 x, .int .i64 y]).run P w = .ok (.int .i64 (min x y)) w := by
  have e : min x y = if y < x then y else x := by split <;> omega
  rw [e]
  rfl
/-- Ranges that can be read. -/
def ArgR (W : World) (v : Value) (L : List (Int × Int)) : Prop :=
  (∃ p cap, v = .slice p 0 cap ∧ L = [] ∧ (p = none → cap = 0)) ∨ ∃ g off cap, v = .slice (some ⟨g, off, none⟩) L.length cap ∧ g < W.heap.size ∧ L.length ≤ cap ∧ cap ≤ maxLen ∧ ∀ (i : Nat) (r : Int × Int), L[i]? = some r → W.cell? ⟨g, off + 2 * i, none⟩ = some (.int .i64 r.1) ∧ W.cell? ⟨g, off + 2 * i + 1, none⟩ = some (.int .i64 r.2)
theorem ArgR.kept {W W' : World} {v : Value} {L : List (Int × Int)} (h : ArgR W v L) (hb : Below W.heap.size W W') : ArgR W' v L := by
  rcases h with h | ⟨g, off, cap, h1, h2, h3, h4, h5⟩
  · exact .inl h
  · exact .inr ⟨g, off, cap, h1, Nat.lt_of_lt_of_le h2 hb.size, h3, h4, fun i x hx => ⟨(hb.cell (p := ⟨g, off + 2 * i, none⟩) h2).trans (h5 i x hx).1, (hb.cell (p := ⟨g, off + 2 * i + 1, none⟩) h2).trans (h5 i x hx).2⟩⟩
theorem ArgR.slice {W : World} {v : Value} {L : List (Int × Int)} (h : ArgR W v L) : ∃ q cap, v = .slice q L.length cap ∧ L.length ≤ maxLen ∧ L.length ≤ cap ∧
    (∀ (i : Nat) (r : Int × Int), L[i]? = some r → ∃ g off, q = some ⟨g, off, none⟩ ∧ g < W.heap.size ∧ W.cell? ⟨g, off + 2 * i, none⟩ = some (.int .i64 r.1) ∧ W.cell? ⟨g, off + 2 * i + 1, none⟩ = some (.int .i64 r.2)) := by
  rcases h with ⟨p, cap, rfl, rfl, -⟩ | ⟨g, off, cap, rfl, h2, h3, h4, h5⟩
  · exact ⟨p, cap, rfl, Nat.zero_le _, Nat.zero_le _, fun i x hx => by simp at hx⟩
  · exact ⟨_, cap, rfl, Nat.le_trans h3 h4, h3, fun i x hx => ⟨g, off, rfl, h2, h5 i x hx⟩⟩

theorem ArgR.news {W : World} {ad : Addr} {n c : Nat} {L : List (Int × Int)} (h : ArgR W (.slice (some ad) n c) L) : ∀ j u, (cellsR L)[j]? = some u → W.cell? (ad.add j) = some u := by
  intro j u hj
  have hjl : j < L.length * 2 := by have := (List.getElem?_eq_some_iff.1 hj).1; rwa [cellsR_length] at this
  rcases h with ⟨p, cap, e, rfl, -⟩ | ⟨g, off, cap, e, h2, h3, h4, h5⟩
  · simp at hjl
  · cases e
    obtain ⟨q1, q2⟩ := h5 (j / 2) _ (List.getElem?_eq_getElem (by omega))
    obtain ⟨r1, r2⟩ := cellsR_get L (j / 2) _ (List.getElem?_eq_getElem (by omega))
    have hadd : (⟨g, off, none⟩ : Addr).add j = ⟨g, off + j, none⟩ := by unfold Addr.add; split <;> simp_all
    rw [hadd]
    rcases Nat.mod_two_eq_zero_or_one j with e | e
    · rw [show 2 * (j / 2) = j by omega] at q1 r1
      rw [q1, ← r1, hj]
    · rw [show off + 2 * (j / 2) + 1 = off + j by omega] at q2
      rw [show 2 * (j / 2) + 1 = j by omega] at r2
      rw [q2, ← r2, hj]
/-- Ranges in a list of one's own. -/
def RR (base : Nat) (w : World) (v : Value) (L : List (Int × Int)) : Prop := w.ownsRow base 39 2 v L.length (cellsR L)
theorem RR.arg {base : Nat} {w : World} {v : Value} {L : List (Int × Int)} (h : RR base w v L) : ArgR w v L := by
  have h' := h
  rcases h.2 with ⟨rfl, hn⟩ | ⟨g, cap, cur, rfl, hg, hc, h1, h2, h3, h4⟩
  · exact .inl ⟨none, 0, rfl, List.eq_nil_of_length_eq_zero hn, fun _ => rfl⟩
  · exact .inr ⟨g, 0, cap, rfl, lt_of_heap hc, h1, h2, fun i x hx => by
      obtain ⟨p1, p2⟩ := cellsR_get L i x hx
      rw [Nat.zero_add]
      exact ⟨ownsRow_cell h' p1, ownsRow_cell h' p2⟩⟩
theorem RR.nil (base : Nat) (w : World) : RR base w (.slice none 0 0) [] := ⟨rfl, .inl ⟨rfl, rfl⟩⟩
theorem RR.fr {base : Nat} {w w' : World} {v : Value} {L : List (Int × Int)} {S : Nat → Prop} (h : RR base w v L) (hf : Fr S w w') (hs : ∀ k, v.ownBlock = some k → ¬ S k) : RR base w' v L := ownsRow_fr h hf hs
theorem RR.kept {base : Nat} {w w' : World} {v : Value} {L : List (Int × Int)} (h : RR base w v L) (hb : Below w.heap.size w w') : RR base w' v L := h.fr (S := fun _ => False) (Fr.of_below hb) (fun _ _ q => q)
theorem RR.mono {base base' : Nat} {w : World} {v : Value} {L : List (Int × Int)} (h : RR base w v L) (hb : base' ≤ base) : RR base' w v L := ownsRow_mono h hb
theorem RR.shape {base : Nat} {w : World} {v : Value} {L : List (Int × Int)} (h : RR base w v L) : ∃ q c, v = .slice q L.length c := ownsRow_shape h

/-- A class of the numbers of which p is so. -/
structure IsC (C : List (Int × Int)) (p : Int → Prop) : Prop where
  cls : Cls C
  fit : Fit C
  mem : ∀ c, In C c ↔ p c
theorem IsC.one {C D : List (Int × Int)} {p q : Int → Prop} (h : IsC C p) (k : IsC D q) (e : ∀ c, p c ↔ q c) : C = D :=
  cls_unique C D h.cls k.cls fun c => (h.mem c).trans ((e c).trans (k.mem c).symm)
theorem IsC.to {C : List (Int × Int)} {p q : Int → Prop} (h : IsC C p) (e : ∀ c, p c ↔ q c) : IsC C q := ⟨h.cls, h.fit, fun c => (h.mem c).trans (e c)⟩
/-- What a call answers that makes a class. -/
def Gets (w : World) (p : Int → Prop) (n : Nat) (e : Ending) (w' : World) : Prop := ∃ v C, e = .returned v ∧ RR w.heap.size w' v C ∧ IsC C p ∧ C.length ≤ n ∧ Below w.heap.size w w'
end Go.Proofs.YtloeajhmmjdlgaaGreatDoor
namespace Go.Proofs.YtloeajhmmjdlgaaGreatDoor
open Go Go.RowKit

def top (m : Bool) : Int := if m then 1114111 else 255
def isChar (m : Bool) (c : Int) : Prop := 0 ≤ c ∧ c ≤ top m ∧ (m = true → c < 55296 ∨ 57343 < c)
def charsL (m : Bool) : List (Int × Int) := if m then [(0, 55295), (57344, 1114111)] else [(0, 255)]
theorem charsL_is (m : Bool) : IsC (charsL m) (isChar m) := by
  cases m with
  | true =>
    refine ⟨⟨by simp [charsL], by simp [charsL]⟩, fun r hr => ?_, fun c => ?_⟩
    · simp [charsL] at hr
      rcases hr with rfl | rfl <;> simp
    · simp [charsL, In, isChar, top]
      omega
  | false =>
    refine ⟨⟨by simp [charsL], by simp [charsL]⟩, fun r hr => ?_, fun c => ?_⟩
    · simp [charsL] at hr
      subst hr; simp
    · simp [charsL, In, isChar, top]
theorem charsL_length (m : Bool) : (charsL m).length ≤ 2 := by cases m <;> simp [charsL]

theorem top_c (m : Bool) (w : World) : Calls Tryz.prog 78 #[.bool m] w fun e w' => e = .returned (.int .i64 (top m)) ∧ w' = w := by
  cases m with
  | true =>
    go_enter Tryz.func78, Tryz.ntmps78
    go_wp2
    go_ret
    exact ⟨rfl, rfl⟩
  | false =>
    go_enter Tryz.func78, Tryz.ntmps78
    go_wp2
    go_ret
    exact ⟨rfl, rfl⟩
theorem chars_c (m : Bool) (w : World) : Calls Tryz.prog 63 #[.bool m] w fun e w' => ∃ v, e = .returned v ∧ RR w.heap.size w' v (charsL m) ∧ Below w.heap.size w w' := by
  cases m with
  | true =>
    go_enter Tryz.func63, Tryz.ntmps63
    go_wp2_with (go_at_call 78; refine (top_c _ _).mono ?_; rintro e w5 ⟨rfl, h5⟩; subst w5)
    go_ret
    exact ⟨_, rfl, World.ownsRow_lit w #[.int .i64 0, .int .i64 55295, .int .i64 57344, .int .i64 1114111] 2 (Nat.le_refl _) (by unfold maxLen; omega) rfl, (Below.refl _ _).alloc (Nat.le_refl _) _⟩
  | false =>
    go_enter Tryz.func63, Tryz.ntmps63
    go_wp2_with (go_at_call 78; refine (top_c _ _).mono ?_; rintro e w5 ⟨rfl, h5⟩; subst w5)
    go_ret
    exact ⟨_, rfl, World.ownsRow_lit w #[.int .i64 0, .int .i64 255] 1 (Nat.le_refl _) (by unfold maxLen; omega) rfl, (Below.refl _ _).alloc (Nat.le_refl _) _⟩
end Go.Proofs.YtloeajhmmjdlgaaGreatDoor
namespace Go.Proofs.YtloeajhmmjdlgaaGreatDoor
open Go

structure Md where
  c : Bool
  f : Bool
abbrev Rs (α : Type) := Except (Nat × Nat) α

/-- Does a text stand at a place? -/
def sees (s : ByteArray) (p : Nat) (t : List UInt8) : Bool := Lib.hasPrefix (s.data.toList.drop p) t
/-- The unit at a place. -/
def un (m : Md) (s : ByteArray) (p : Nat) : Int × Nat := if m.c then (ch s p, wd s p) else ((bt s p : Int), 1)
def chr (m : Md) (s : ByteArray) (p : Nat) : Rs (Int × Nat) := if (un m s p).1 < 0 then .error (20, p) else .ok ((un m s p).1, p + (un m s p).2)
/-- The first place from one on at which a text stands. -/
def fnd (s : ByteArray) (t : List UInt8) (k : Nat) : Option Nat :=
  if Lib.index (s.data.toList.drop k) t < 0 then none else some (k + (Lib.index (s.data.toList.drop k) t).toNat)
/-- The place of an item's end. -/
def wit (s : ByteArray) (o p k : Nat) : Rs Nat :=
  match fnd s [UInt8.ofNat (bt s (p + 1)), 93] (p + 2 + min k (s.size - (p + 2))) with
  | none => .error (33, o)
  | some e => .ok e
def elem (m : Md) (s : ByteArray) (o p : Nat) : Rs (Int × Nat) :=
  match wit s o p 1 with
  | .error e => .error e
  | .ok e => if (un m (s.extract (p + 2) e) 0).1 < 0 ∨ (un m (s.extract (p + 2) e) 0).2 < e - (p + 2) then .error (35, p) else .ok ((un m (s.extract (p + 2) e) 0).1, e + 2)
def endI (m : Md) (s : ByteArray) (o p : Nat) : Rs (Int × Nat) :=
  if p = s.size then .error (33, o) else if sees s p [91, 46] then elem m s o p else chr m s p
def spn (m : Md) (s : ByteArray) (o p : Nat) : Rs (List (Int × Int) × Nat) :=
  match endI m s o p with
  | .error e => .error e
  | .ok (lo, q) =>
    if sees s q [45, 93] || !sees s q [45] then .ok ([(lo, lo)], q)
    else if sees s (q + 1) [91, 58] || sees s (q + 1) [91, 61] then .error (34, p)
    else match endI m s o (q + 1) with
      | .error e => .error e
      | .ok (hi, r) => if hi < lo then .error (34, p) else .ok ([(lo, hi)], r)
/-- The class of a name. -/
def nmd (s : ByteArray) : Bool × List (Int × Int) :=
  if s.toList == [97, 108, 110, 117, 109] then (true, [(48, 57), (65, 90), (97, 122)])
  else if s.toList == [97, 108, 112, 104, 97] then (true, [(65, 90), (97, 122)])
  else if s.toList == [98, 108, 97, 110, 107] then (true, [(9, 9), (32, 32)])
  else if s.toList == [99, 110, 116, 114, 108] then (true, [(0, 31), (127, 127)])
  else if s.toList == [100, 105, 103, 105, 116] then (true, [(48, 57)])
  else if s.toList == [103, 114, 97, 112, 104] then (true, [(33, 126)])
  else if s.toList == [108, 111, 119, 101, 114] then (true, [(97, 122)])
  else if s.toList == [112, 114, 105, 110, 116] then (true, [(32, 126)])
  else if s.toList == [112, 117, 110, 99, 116] then (true, [(33, 47), (58, 64), (91, 96), (123, 126)])
  else if s.toList == [115, 112, 97, 99, 101] then (true, [(9, 13), (32, 32)])
  else if s.toList == [117, 112, 112, 101, 114] then (true, [(65, 90)])
  else if s.toList == [120, 100, 105, 103, 105, 116] then (true, [(48, 57), (65, 70), (97, 102)])
  else (false, [])
def nam (s : ByteArray) (o p : Nat) : Rs (List (Int × Int) × Nat) :=
  match wit s o p 0 with
  | .error e => .error e
  | .ok e => if (nmd (s.extract (p + 2) e)).1 then .ok ((nmd (s.extract (p + 2) e)).2, e + 2) else .error (35, p)
def sgl (m : Md) (s : ByteArray) (o p : Nat) : Rs (List (Int × Int) × Nat) :=
  if sees s p [91, 58] then nam s o p
  else if sees s p [91, 61] then (match elem m s o p with
    | .error e => .error e
    | .ok (c, q) => .ok ([(c, c)], q))
  else spn m s o p
def itm (m : Md) (s : ByteArray) (o p : Nat) : Rs (List (Int × Int) × Nat) :=
  if !sees s p [45] || sees s p [45, 93] then sgl m s o p else if p + 1 = s.size then .error (33, o) else .error (34, p)
def its (m : Md) (s : ByteArray) (o : Nat) : Nat → Nat → List (Int × Int) → Rs (List (Int × Int) × Nat)
  | 0, _, _ => .error (33, o)
  | f + 1, p, l => if sees s p [93] then .ok (l, p + 1) else match itm m s o p with
    | .error e => .error e
    | .ok (l', q) => its m s o f q (l ++ l')

structure Tk where
  kind : Nat
  n : Nat
  mn : Int
  mx : Int
  q : Int → Prop
def foldQ (Q : Int → Prop) (c : Int) : Prop := Q c ∨ (Q (c - 32) ∧ 65 ≤ c - 32 ∧ c - 32 ≤ 90) ∨ (Q (c + 32) ∧ 97 ≤ c + 32 ∧ c + 32 ≤ 122)
def setQ (m : Md) (L : List (Int × Int)) (t : Bool) (c : Int) : Prop :=
  isChar m.c c ∧ (if t then ¬ (if m.f then foldQ (In L) c else In L c) else if m.f then foldQ (In L) c else In L c)
def setT (m : Md) (L : List (Int × Int)) (t : Bool) : Tk := ⟨1, 0, 0, 0, setQ m L t⟩
def kT (k : Nat) : Tk := ⟨k, 0, 0, 0, fun _ => False⟩
def repT (a b : Int) : Tk := ⟨2, 0, a, b, fun _ => False⟩
def backT (n : Nat) : Tk := ⟨6, n, 0, 0, fun _ => False⟩

def brk (m : Md) (s : ByteArray) (p : Nat) : Rs (Tk × Nat) :=
  match sgl m s p (if sees s (p + 1) [94] then p + 2 else p + 1) with
  | .error e => .error e
  | .ok (l, r) => match its m s p (s.size + 1) r l with
    | .error e => .error e
    | .ok (l2, r2) => .ok (setT m l2 (sees s (p + 1) [94]), r2)
def dig (b : UInt8) : Bool := 48 ≤ b && b ≤ 57
def digs (s : ByteArray) (p : Nat) : List UInt8 := (s.data.toList.drop p).takeWhile dig
def numL (l : List UInt8) : Nat := l.foldl (fun n d => min (10 * n + (d.toNat - 48)) 256) 0
def ivQ (s : ByteArray) (p : Nat) : Nat := p + 2 + (digs s (p + 2)).length
def ivB (s : ByteArray) (p : Nat) : Int := if sees s (ivQ s p) [44] then (if (digs s (ivQ s p + 1)).length = 0 then -1 else (numL (digs s (ivQ s p + 1)) : Int)) else (numL (digs s (p + 2)) : Int)
def ivR (s : ByteArray) (p : Nat) : Nat := if sees s (ivQ s p) [44] then ivQ s p + 1 + (digs s (ivQ s p + 1)).length else ivQ s p
def intv (s : ByteArray) (p : Nat) : Rs (Tk × Nat) :=
  if (digs s (p + 2)).length = 0 ∨ sees s (ivR s p) [92, 125] = false then .error (36, p)
  else if 255 < numL (digs s (p + 2)) ∨ 255 < ivB s p ∨ (ivB s p ≠ -1 ∧ ivB s p < numL (digs s (p + 2))) then .error (37, p)
  else .ok (repT (numL (digs s (p + 2))) (ivB s p), ivR s p + 2)
def atBeg (last : Nat) : Bool := last == 0 || last == 3 || last == 5 || last == 7
def esc (m : Md) (s : ByteArray) (p last : Nat) : Rs (Tk × Nat) :=
  if p + 1 = s.size then .error (31, p)
  else if bt s (p + 1) = 40 then .ok (kT 3, p + 2)
  else if bt s (p + 1) = 41 then .ok (kT 4, p + 2)
  else if bt s (p + 1) = 124 then .ok (kT 5, p + 2)
  else if 49 ≤ bt s (p + 1) ∧ bt s (p + 1) ≤ 57 then .ok (backT (bt s (p + 1) - 48), p + 2)
  else if bt s (p + 1) = 43 ∨ bt s (p + 1) = 63 ∨ bt s (p + 1) = 123 then
    if atBeg last then .error (38, p)
    else if bt s (p + 1) = 43 then .ok (repT 1 (-1), p + 2)
    else if bt s (p + 1) = 63 then .ok (repT 0 1, p + 2)
    else intv s p
  else if bt s (p + 1) = 46 ∨ bt s (p + 1) = 91 ∨ bt s (p + 1) = 93 ∨ bt s (p + 1) = 42 ∨ bt s (p + 1) = 94 ∨ bt s (p + 1) = 36 ∨ bt s (p + 1) = 92 ∨ bt s (p + 1) = 47 then
    .ok (setT m [((bt s (p + 1) : Int), (bt s (p + 1) : Int))] false, p + 2)
  else .error (32, p)
def endsB (s : ByteArray) (p : Nat) : Bool := decide (p + 1 = s.size) || sees s (p + 1) [92, 41] || sees s (p + 1) [92, 124]
def tok (m : Md) (s : ByteArray) (p last : Nat) : Rs (Tk × Nat) :=
  if sees s p [92] then esc m s p last
  else if sees s p [42] && !atBeg last then .ok (repT 0 (-1), p + 1)
  else if sees s p [94] && (p == 0 || last == 3 || last == 5) then .ok (kT 7, p + 1)
  else if sees s p [36] && endsB s p then .ok (kT 8, p + 1)
  else if sees s p [46] then .ok (setT m [] true, p + 1)
  else if sees s p [91] then brk m s p
  else match chr m s p with
    | .error e => .error e
    | .ok (c, q) => .ok (setT m [(c, c)] false, q)
/-- A token and its places. -/
abbrev Tp := Tk × Nat × Nat
def lastK (T : List Tp) : Nat := match T.getLast? with
  | none => 0
  | some t => t.1.kind
def lx (m : Md) (s : ByteArray) : Nat → Nat → List Tp → Rs (List Tp)
  | 0, _, _ => .error (30, 0)
  | f + 1, p, T => if p < s.size then (match tok m s p (lastK T) with
      | .error e => .error e
      | .ok (t, q) => lx m s f q (T ++ [(t, p, q)]))
    else .ok T
def lexM (m : Md) (s : ByteArray) : Rs (List Tp) := if 2000 < s.size then .error (30, 0) else lx m s (s.size + 1) 0 []

/- Where a text stands. -/
theorem sees_len {s : ByteArray} {p : Nat} {t : List UInt8} (h : sees s p t = true) (ht : t ≠ []) : p + t.length ≤ s.size := by
  have := (List.isPrefixOf_iff_prefix.1 h).length_le
  rw [List.length_drop, size_list] at this
  have : 0 < t.length := List.length_pos_iff.2 ht
  omega
theorem sees_get {s : ByteArray} {p : Nat} {t : List UInt8} : sees s p t = true ↔ ∀ i x, t[i]? = some x → s.data.toList[p + i]? = some x := by
  unfold sees Lib.hasPrefix
  rw [List.isPrefixOf_iff_prefix, List.prefix_iff_getElem?]
  constructor
  · intro h i x hx
    have := h i (List.getElem?_eq_some_iff.1 hx).1
    rw [List.getElem?_drop] at this
    rw [this]
    exact congrArg some (List.getElem?_eq_some_iff.1 hx).2
  · intro h i hi
    rw [List.getElem?_drop]
    exact h i _ (List.getElem?_eq_getElem hi)
theorem bt_at {s : ByteArray} {p : Nat} {x : UInt8} : s.data.toList[p]? = some x ↔ p < s.size ∧ bt s p = x.toNat := by
  rw [← size_list]
  constructor
  · intro h
    obtain ⟨h1, h2⟩ := List.getElem?_eq_some_iff.1 h
    refine ⟨h1, ?_⟩
    unfold bt
    rw [List.getD_eq_getElem?_getD, h]; rfl
  · rintro ⟨h1, h2⟩
    rw [List.getElem?_eq_getElem h1]
    unfold bt at h2
    rw [List.getD_eq_getElem?_getD, List.getElem?_eq_getElem h1] at h2
    exact congrArg some (UInt8.toNat_inj.1 h2)
theorem sees_one {s : ByteArray} {p : Nat} {x : UInt8} : sees s p [x] = true ↔ p < s.size ∧ bt s p = x.toNat := by
  rw [sees_get]
  constructor
  · intro h; exact bt_at.1 (h 0 x rfl)
  · intro h i y hy
    match i, hy with
    | 0, hy => cases hy; exact bt_at.2 h
    | i + 1, hy => simp at hy
theorem sees_two {s : ByteArray} {p : Nat} {x y : UInt8} : sees s p [x, y] = true ↔ p + 1 < s.size ∧ bt s p = x.toNat ∧ bt s (p + 1) = y.toNat := by
  rw [sees_get]
  constructor
  · intro h
    have h0 := bt_at.1 (h 0 x rfl)
    have h1 := bt_at.1 (h 1 y rfl)
    exact ⟨h1.1, h0.2, h1.2⟩
  · intro h i z hz
    match i, hz with
    | 0, hz => cases hz; exact bt_at.2 ⟨by omega, h.2.1⟩
    | 1, hz => cases hz; exact bt_at.2 ⟨h.1, h.2.2⟩
    | i + 2, hz => simp at hz
/- The first place. -/
theorem occ_sees (s : ByteArray) (t : List UInt8) (k j : Nat) : Lib.occAt (s.data.toList.drop k) t j = sees s (k + j) t := by
  unfold Lib.occAt sees Lib.hasPrefix
  rw [List.drop_drop]
theorem fnd_some {s : ByteArray} {t : List UInt8} {k e : Nat} (h : fnd s t k = some e) : k ≤ e ∧ sees s e t = true ∧ ∀ j, k ≤ j → j < e → sees s j t = false := by
  unfold fnd at h
  split at h
  · cases h
  · rename_i hn
    cases h
    rcases Lib.index_spec (s.data.toList.drop k) t with ⟨h1, -⟩ | ⟨i, h1, h2, h3, h4⟩
    · rw [h1] at hn; omega
    · rw [h1, Int.toNat_natCast]
      rw [occ_sees] at h3
      refine ⟨by omega, h3, fun j hj1 hj2 => ?_⟩
      have := h4 (j - k) (by omega)
      rw [occ_sees, show k + (j - k) = j by omega] at this
      exact this
theorem fnd_none {s : ByteArray} {t : List UInt8} {k : Nat} (h : fnd s t k = none) (ht : t ≠ []) : ∀ j, k ≤ j → sees s j t = false := by
  unfold fnd at h
  split at h
  · rename_i hn
    rcases Lib.index_spec (s.data.toList.drop k) t with ⟨-, h1⟩ | ⟨i, h1, h2, h3, h4⟩
    · intro j hj
      rcases Nat.lt_or_ge j (s.size + 1) with g | g
      · have := h1 (j - k) (by rw [List.length_drop, size_list]; omega)
        rw [occ_sees, show k + (j - k) = j by omega] at this
        exact this
      · cases hs : sees s j t with
        | false => rfl
        | true => have := sees_len hs ht; omega
    · rw [h1] at hn; omega
  · cases h
theorem fnd_is {s : ByteArray} {t : List UInt8} {k e : Nat} (ht : t ≠ []) (h1 : k ≤ e) (h2 : sees s e t = true) (h3 : ∀ j, k ≤ j → j < e → sees s j t = false) : fnd s t k = some e := by
  cases h : fnd s t k with
  | none => rw [fnd_none h ht e h1] at h2; cases h2
  | some x =>
    obtain ⟨q1, q2, q3⟩ := fnd_some h
    rcases Nat.lt_trichotomy x e with g | g | g
    · rw [h3 x q1 g] at q2; cases q2
    · rw [g]
    · rw [q3 e h1 g] at h2; cases h2
theorem fnd_isnone {s : ByteArray} {t : List UInt8} {k : Nat} (h3 : ∀ j, k ≤ j → sees s j t = false) : fnd s t k = none := by
  cases h : fnd s t k with
  | none => rfl
  | some x =>
    obtain ⟨q1, q2, -⟩ := fnd_some h
    rw [h3 x q1] at q2; cases q2
/- What is read lies within; each token has bytes. -/
theorem un_wd (m : Md) (s : ByteArray) (p : Nat) (h : p < s.size) : 1 ≤ (un m s p).2 ∧ p + (un m s p).2 ≤ s.size := by
  unfold un
  split
  · exact ⟨wd_pos s p, (wd_le s p h).2⟩
  · simp only; omega
theorem un_le (m : Md) (s : ByteArray) (p : Nat) : -1 ≤ (un m s p).1 ∧ (un m s p).1 ≤ 1114111 := by
  unfold un
  split
  · simp only [ch]
    have := dec_le s p
    split <;> omega
  · have := bt_lt s p
    simp only; omega
/-- What an answer may be: within the pattern, behind a place; an error of the chapter's. -/
def Rng {α : Type} (s : ByteArray) (p : Nat) (f : α → Nat) (r : Rs α) : Prop := match r with
  | .error (c, a) => (c = 20 ∨ 30 ≤ c ∧ c ≤ 38) ∧ a ≤ s.size
  | .ok x => p < f x ∧ f x ≤ s.size
theorem chr_rng (m : Md) (s : ByteArray) (p : Nat) (h : p < s.size) : Rng s p Prod.snd (chr m s p) := by
  unfold chr
  have := un_wd m s p h
  split
  · exact ⟨.inl rfl, by omega⟩
  · exact ⟨by simp only; omega, by simp only; omega⟩
theorem wit_le {s : ByteArray} {o p k e : Nat} (h : wit s o p k = .ok e) : p + 2 + min k (s.size - (p + 2)) ≤ e ∧ e + 2 ≤ s.size := by
  unfold wit at h
  split at h
  · cases h
  · rename_i x hx
    cases h
    obtain ⟨h1, h2, -⟩ := fnd_some hx
    have := sees_len h2 (by simp)
    simp at this
    omega
theorem wit_rng (s : ByteArray) (o p k : Nat) (ho : o ≤ s.size) : Rng s p (fun e => e + 2) (wit s o p k) := by
  cases h : wit s o p k with
  | error e =>
    unfold wit at h
    split at h
    · cases h; exact ⟨.inr (by omega), ho⟩
    · cases h
  | ok e => have := wit_le h; exact ⟨by simp only; omega, by simp only; omega⟩
theorem elem_rng (m : Md) (s : ByteArray) (o p : Nat) (ho : o ≤ s.size) (hp : p ≤ s.size) : Rng s p Prod.snd (elem m s o p) := by
  have := wit_rng s o p 1 ho
  unfold elem
  split
  · rename_i e he; rw [he] at this; exact this
  · rename_i e he
    rw [he] at this
    split
    · exact ⟨.inr (by omega), hp⟩
    · exact ⟨this.1, this.2⟩
theorem endI_rng (m : Md) (s : ByteArray) (o p : Nat) (ho : o ≤ s.size) (hp : p ≤ s.size) : Rng s p Prod.snd (endI m s o p) := by
  unfold endI
  split
  · exact ⟨.inr (by omega), ho⟩
  split
  · exact elem_rng m s o p ho hp
  · exact chr_rng m s p (by omega)
theorem spn_rng (m : Md) (s : ByteArray) (o p : Nat) (ho : o ≤ s.size) (hp : p ≤ s.size) : Rng s p Prod.snd (spn m s o p) := by
  have h1 := endI_rng m s o p ho hp
  unfold spn
  split
  · rename_i e he; rw [he] at h1; exact h1
  · rename_i lo q he
    rw [he] at h1
    split
    · exact h1
    · rename_i hq
      have hs : sees s q [45] = true := by
        cases hx : sees s q [45] with
        | true => rfl
        | false => simp [hx] at hq
      have hl := sees_len hs (by simp)
      simp at hl
      split
      · exact ⟨.inr (by omega), hp⟩
      · have h2 := endI_rng m s o (q + 1) ho (by omega)
        split
        · rename_i e hf; rw [hf] at h2; exact h2
        · rename_i hi r hf
          rw [hf] at h2
          split
          · exact ⟨.inr (by omega), hp⟩
          · exact ⟨by have := h1.1; have := h2.1; simp only at *; omega, h2.2⟩
theorem nam_rng (s : ByteArray) (o p : Nat) (ho : o ≤ s.size) (hp : p ≤ s.size) : Rng s p Prod.snd (nam s o p) := by
  have := wit_rng s o p 0 ho
  unfold nam
  split
  · rename_i e he; rw [he] at this; exact this
  · rename_i e he
    rw [he] at this
    split
    · exact ⟨this.1, this.2⟩
    · exact ⟨.inr (by omega), hp⟩
theorem sgl_rng (m : Md) (s : ByteArray) (o p : Nat) (ho : o ≤ s.size) (hp : p ≤ s.size) : Rng s p Prod.snd (sgl m s o p) := by
  unfold sgl
  split
  · exact nam_rng s o p ho hp
  split
  · have h1 := elem_rng m s o p ho hp
    split
    · rename_i e he; rw [he] at h1; exact h1
    · rename_i c q he; rw [he] at h1; exact h1
  · exact spn_rng m s o p ho hp
theorem itm_rng (m : Md) (s : ByteArray) (o p : Nat) (ho : o ≤ s.size) (hp : p ≤ s.size) : Rng s p Prod.snd (itm m s o p) := by
  unfold itm
  split
  · exact sgl_rng m s o p ho hp
  split
  · exact ⟨.inr (by omega), ho⟩
  · exact ⟨.inr (by omega), hp⟩
theorem its_rng (m : Md) (s : ByteArray) (o : Nat) (ho : o ≤ s.size) : ∀ (f p : Nat) (l : List (Int × Int)), p ≤ s.size → Rng s p Prod.snd (its m s o f p l)
  | 0, p, l, hp => ⟨.inr (by omega), ho⟩
  | f + 1, p, l, hp => by
    unfold its
    split
    · rename_i h
      have := sees_len h (by simp)
      simp at this
      exact ⟨by simp only; omega, by simp only; omega⟩
    · have h1 := itm_rng m s o p ho hp
      split
      · rename_i e he; rw [he] at h1; exact h1
      · rename_i l' q he
        rw [he] at h1
        have h2 := its_rng m s o ho f q (l ++ l') h1.2
        cases hx : its m s o f q (l ++ l') with
        | error e => rw [hx] at h2; exact h2
        | ok r => rw [hx] at h2; exact ⟨by have := h1.1; have := h2.1; simp only at *; omega, h2.2⟩
theorem brk_rng (m : Md) (s : ByteArray) (p : Nat) (hp : p < s.size) : Rng s p Prod.snd (brk m s p) := by
  unfold brk
  have hq : p < (if sees s (p + 1) [94] then p + 2 else p + 1) ∧ (if sees s (p + 1) [94] then p + 2 else p + 1) ≤ s.size := by
    split
    · rename_i h
      have := sees_len h (by simp)
      simp at this
      omega
    · omega
  have h1 := sgl_rng m s p _ (by omega) hq.2
  split
  · rename_i e he; rw [he] at h1; exact h1
  · rename_i l r he
    rw [he] at h1
    have h2 := its_rng m s p (by omega) (s.size + 1) r l h1.2
    split
    · rename_i e hf; rw [hf] at h2; exact h2
    · rename_i l2 r2 hf
      rw [hf] at h2
      exact ⟨by have := h1.1; have := h2.1; simp only at *; omega, h2.2⟩
theorem digs_le (s : ByteArray) (p : Nat) (h : p ≤ s.size) : p + (digs s p).length ≤ s.size := by
  have := (List.takeWhile_prefix dig (l := s.data.toList.drop p)).length_le
  rw [List.length_drop, size_list] at this
  unfold digs
  omega
theorem ivR_ge (s : ByteArray) (p : Nat) : p + 2 ≤ ivR s p := by
  unfold ivR ivQ
  split <;> omega
theorem intv_rng (s : ByteArray) (p : Nat) (h : p + 1 < s.size) : Rng s p Prod.snd (intv s p) := by
  unfold intv
  split
  · exact ⟨.inr (by omega), by omega⟩
  split
  · exact ⟨.inr (by omega), by omega⟩
  · rename_i h1 _
    have h2 : sees s (ivR s p) [92, 125] = true := by
      cases hx : sees s (ivR s p) [92, 125] with
      | true => rfl
      | false => exact absurd (.inr hx) h1
    have h3 := sees_len h2 (by simp)
    have h4 := ivR_ge s p
    simp only [List.length_cons, List.length_nil] at h3
    exact ⟨by simp only; omega, by simpa using h3⟩
theorem esc_rng (m : Md) (s : ByteArray) (p last : Nat) (h : p < s.size) : Rng s p Prod.snd (esc m s p last) := by
  unfold esc
  split
  · exact ⟨.inr (by omega), by omega⟩
  have h2 : ∀ t : Tk, Rng s p Prod.snd (.ok (t, p + 2) : Rs (Tk × Nat)) := fun t => ⟨by simp only; omega, by simp only; omega⟩
  have h3 : ∀ c, 30 ≤ c → c ≤ 38 → Rng s p Prod.snd (.error (c, p) : Rs (Tk × Nat)) := fun c h1 h2 => ⟨.inr ⟨h1, h2⟩, by omega⟩
  have h4 := intv_rng s p (by omega)
  repeat' split
  all_goals first | exact h2 _ | exact h4 | exact h3 _ (by omega) (by omega)
theorem tok_rng (m : Md) (s : ByteArray) (p last : Nat) (h : p < s.size) : Rng s p Prod.snd (tok m s p last) := by
  unfold tok
  have h2 : ∀ t : Tk, Rng s p Prod.snd (.ok (t, p + 1) : Rs (Tk × Nat)) := fun t => ⟨by simp only; omega, by simp only; omega⟩
  split
  · exact esc_rng m s p last h
  split
  · exact h2 _
  split
  · exact h2 _
  split
  · exact h2 _
  split
  · exact h2 _
  split
  · exact brk_rng m s p h
  · have h5 := chr_rng m s p h
    split
    · rename_i e he; rw [he] at h5; exact h5
    · rename_i c q he; rw [he] at h5; exact h5
end Go.Proofs.YtloeajhmmjdlgaaGreatDoor
namespace Go.Proofs
open Go.Shelf
def Tryz.lays217_ren : Go.Shelf.Ren := ⟨fun | 217 => 105 | 266 => 114 | n => n, fun | 9 => 9 | 5 => 5 | 3 => 3 | n => n, fun | n => n⟩
theorem Tryz.lays217 : Go.Proofs.Lays.n217 Tryz.prog Tryz.lays217_ren := {
  mixed := by kernel_rfl
  f217 := Tryz.func105.trans (congrArg some (by kernel_rfl))
  f266 := Tryz.func114.trans (congrArg some (by kernel_rfl))
  t3 := Tryz.underlying3
  a3 := Tryz.isAgg3
  z3 := Tryz.sizeOf3
  v3 := Tryz.zeroValue3
  t5 := Tryz.underlying5
  a5 := Tryz.isAgg5
  z5 := Tryz.sizeOf5
  v5 := Tryz.zeroValue5
  t9 := Tryz.underlying9
  a9 := Tryz.isAgg9
  z9 := Tryz.sizeOf9
  v9 := Tryz.zeroValue9 }
open Go.RowKit Go.Lib in
theorem Tryz.stringslite_IndexByte (s : ByteArray) (c : Int) (w : World) :
    Calls Tryz.prog 105 #[.string s, .int .u8 c] w fun e w' => e = .returned (.int .i64 (Lib.indexByte s.data.toList c.toNat.toUInt8)) ∧ w' = w := Any.stringslite_IndexByte Tryz.lays217 s c w
def Tryz.lays224_ren : Go.Shelf.Ren := ⟨fun | 224 => 107 | n => n, fun | 3 => 3 | n => n, fun | n => n⟩
theorem Tryz.lays224 : Go.Proofs.Lays.n224 Tryz.prog Tryz.lays224_ren := {
  mixed := by kernel_rfl
  f224 := Tryz.func107.trans (congrArg some (by kernel_rfl))
  t3 := Tryz.underlying3
  a3 := Tryz.isAgg3
  z3 := Tryz.sizeOf3
  v3 := Tryz.zeroValue3 }
open Go.RowKit Go.Lib in
theorem Tryz.bytealg_Cutover (n : Int) (h0 : 0 ≤ n) (h1 : n < 4611686018427387904) (w : World) :
    Calls Tryz.prog 107 #[.int .i64 n] w fun e w' => e = .returned (.int .i64 ((n + 16) / 8)) ∧ w' = w := Any.bytealg_Cutover Tryz.lays224 n h0 h1 w
def Tryz.lays314_ren : Go.Shelf.Ren := ⟨fun | 314 => 115 | n => n, fun | 9 => 9 | 51 => 120 | 3 => 3 | 4 => 4 | 5 => 5 | 46 => 107 | n => n, fun | n => n⟩
theorem Tryz.lays314 : Go.Proofs.Lays.n314 Tryz.prog Tryz.lays314_ren := {
  mixed := by kernel_rfl
  f314 := Tryz.func115.trans (congrArg some (by kernel_rfl))
  t3 := Tryz.underlying3
  a3 := Tryz.isAgg3
  z3 := Tryz.sizeOf3
  v3 := Tryz.zeroValue3
  t4 := Tryz.underlying4
  a4 := Tryz.isAgg4
  z4 := Tryz.sizeOf4
  v4 := Tryz.zeroValue4
  t5 := Tryz.underlying5
  a5 := Tryz.isAgg5
  z5 := Tryz.sizeOf5
  v5 := Tryz.zeroValue5
  t9 := Tryz.underlying9
  a9 := Tryz.isAgg9
  z9 := Tryz.sizeOf9
  v9 := Tryz.zeroValue9
  t46 := Tryz.underlying107
  a46 := Tryz.isAgg107
  z46 := Tryz.sizeOf107
  v46 := Tryz.zeroValue107
  t51 := Tryz.underlying120
  a51 := Tryz.isAgg120
  z51 := Tryz.sizeOf120
  v51 := Tryz.zeroValue120 }
open Go.RowKit Go.Lib in
theorem Tryz.bytealg_hashStr (sep : ByteArray) (hs : sep.size < 4294967281) (w : World) :
    Calls Tryz.prog 115 #[.string sep] w fun e w' => e = .returned (.tuple #[.int .u32 (RK.H sep.data.toList % 4294967296), .int .u32 (16777619 ^ sep.size % 4294967296)]) ∧ w' = w := Any.bytealg_hashStr Tryz.lays314 sep hs w
def Tryz.lays267_ren : Go.Shelf.Ren := ⟨fun | 267 => 108 | 314 => 115 | n => n, fun | 9 => 9 | 3 => 3 | 146 => 130 | 51 => 120 | 4 => 4 | 5 => 5 | 46 => 107 | n => n, fun | n => n⟩
theorem Tryz.lays267 : Go.Proofs.Lays.n267 Tryz.prog Tryz.lays267_ren := {
  mixed := by kernel_rfl
  f267 := Tryz.func108.trans (congrArg some (by kernel_rfl))
  f314 := Tryz.func115.trans (congrArg some (by kernel_rfl))
  t3 := Tryz.underlying3
  a3 := Tryz.isAgg3
  z3 := Tryz.sizeOf3
  v3 := Tryz.zeroValue3
  t4 := Tryz.underlying4
  a4 := Tryz.isAgg4
  z4 := Tryz.sizeOf4
  v4 := Tryz.zeroValue4
  t5 := Tryz.underlying5
  a5 := Tryz.isAgg5
  z5 := Tryz.sizeOf5
  v5 := Tryz.zeroValue5
  t9 := Tryz.underlying9
  a9 := Tryz.isAgg9
  z9 := Tryz.sizeOf9
  v9 := Tryz.zeroValue9
  t46 := Tryz.underlying107
  a46 := Tryz.isAgg107
  z46 := Tryz.sizeOf107
  v46 := Tryz.zeroValue107
  t51 := Tryz.underlying120
  a51 := Tryz.isAgg120
  z51 := Tryz.sizeOf120
  v51 := Tryz.zeroValue120
  t146 := Tryz.underlying130
  a146 := Tryz.isAgg130
  z146 := Tryz.sizeOf130
  v146 := Tryz.zeroValue130 }
open Go.RowKit Go.Lib in
theorem Tryz.bytealg_IndexRabinKarp (s sep : ByteArray) (h1 : 1 ≤ sep.size) (h2 : sep.size ≤ s.size) (hs : s.size < 4294967281) (w : World) :
    Calls Tryz.prog 108 #[.string s, .string sep] w fun e w' => e = .returned (.int .i64 (Lib.index s.data.toList sep.data.toList)) ∧ w' = w := Any.bytealg_IndexRabinKarp Tryz.lays267 s sep h1 h2 hs w
def Tryz.lays219_ren : Go.Shelf.Ren := ⟨fun | 219 => 94 | 217 => 105 | 225 => 106 | 224 => 107 | 267 => 108 | 266 => 114 | 314 => 115 | n => n, fun | 9 => 9 | 3 => 3 | 4 => 4 | 5 => 5 | 46 => 107 | 146 => 130 | 51 => 120 | n => n, fun | 1 => 2 | n => n⟩
theorem Tryz.lays219 : Go.Proofs.Lays.n219 Tryz.prog Tryz.lays219_ren := {
  mixed := by kernel_rfl
  f217 := Tryz.func105.trans (congrArg some (by kernel_rfl))
  f219 := Tryz.func94.trans (congrArg some (by kernel_rfl))
  f224 := Tryz.func107.trans (congrArg some (by kernel_rfl))
  f225 := Tryz.func106.trans (congrArg some (by kernel_rfl))
  f266 := Tryz.func114.trans (congrArg some (by kernel_rfl))
  f267 := Tryz.func108.trans (congrArg some (by kernel_rfl))
  f314 := Tryz.func115.trans (congrArg some (by kernel_rfl))
  t3 := Tryz.underlying3
  a3 := Tryz.isAgg3
  z3 := Tryz.sizeOf3
  v3 := Tryz.zeroValue3
  t4 := Tryz.underlying4
  a4 := Tryz.isAgg4
  z4 := Tryz.sizeOf4
  v4 := Tryz.zeroValue4
  t5 := Tryz.underlying5
  a5 := Tryz.isAgg5
  z5 := Tryz.sizeOf5
  v5 := Tryz.zeroValue5
  t9 := Tryz.underlying9
  a9 := Tryz.isAgg9
  z9 := Tryz.sizeOf9
  v9 := Tryz.zeroValue9
  t46 := Tryz.underlying107
  a46 := Tryz.isAgg107
  z46 := Tryz.sizeOf107
  v46 := Tryz.zeroValue107
  t51 := Tryz.underlying120
  a51 := Tryz.isAgg120
  z51 := Tryz.sizeOf120
  v51 := Tryz.zeroValue120
  t146 := Tryz.underlying130
  a146 := Tryz.isAgg130
  z146 := Tryz.sizeOf130
  v146 := Tryz.zeroValue130
  g1 := by kernel_rfl }
open Go.RowKit Go.Lib in
theorem Tryz.stringslite_Index_one (s : ByteArray) (c : UInt8) (w : World) :
    Calls Tryz.prog 94 #[.string s, .string ⟨#[c]⟩] w fun e w' => e = .returned (.int .i64 (Lib.indexByte s.data.toList c)) ∧ w' = w := Any.stringslite_Index_one Tryz.lays219 s c w
open Go.RowKit Go.Lib in
theorem Tryz.stringslite_Index (s sub : ByteArray) (m : Int) (w : World) (hs : s.size < 4294967281) (hm : w.cell? ⟨2, 0, none⟩ = some (.int .i64 m)) :
    Calls Tryz.prog 94 #[.string s, .string sub] w fun e w' => e = .returned (.int .i64 (Lib.index s.data.toList sub.data.toList)) ∧ w' = w := Any.stringslite_Index Tryz.lays219 s sub m w hs hm
def Tryz.lays143_ren : Go.Shelf.Ren := ⟨fun | 143 => 89 | 219 => 94 | 217 => 105 | 225 => 106 | 224 => 107 | 267 => 108 | 266 => 114 | 314 => 115 | n => n, fun | 9 => 9 | 3 => 3 | 4 => 4 | 5 => 5 | 46 => 107 | 146 => 130 | 51 => 120 | n => n, fun | 1 => 2 | n => n⟩
theorem Tryz.lays143 : Go.Proofs.Lays.n143 Tryz.prog Tryz.lays143_ren := {
  mixed := by kernel_rfl
  f143 := Tryz.func89.trans (congrArg some (by kernel_rfl))
  f217 := Tryz.func105.trans (congrArg some (by kernel_rfl))
  f219 := Tryz.func94.trans (congrArg some (by kernel_rfl))
  f224 := Tryz.func107.trans (congrArg some (by kernel_rfl))
  f225 := Tryz.func106.trans (congrArg some (by kernel_rfl))
  f266 := Tryz.func114.trans (congrArg some (by kernel_rfl))
  f267 := Tryz.func108.trans (congrArg some (by kernel_rfl))
  f314 := Tryz.func115.trans (congrArg some (by kernel_rfl))
  t3 := Tryz.underlying3
  a3 := Tryz.isAgg3
  z3 := Tryz.sizeOf3
  v3 := Tryz.zeroValue3
  t4 := Tryz.underlying4
  a4 := Tryz.isAgg4
  z4 := Tryz.sizeOf4
  v4 := Tryz.zeroValue4
  t5 := Tryz.underlying5
  a5 := Tryz.isAgg5
  z5 := Tryz.sizeOf5
  v5 := Tryz.zeroValue5
  t9 := Tryz.underlying9
  a9 := Tryz.isAgg9
  z9 := Tryz.sizeOf9
  v9 := Tryz.zeroValue9
  t46 := Tryz.underlying107
  a46 := Tryz.isAgg107
  z46 := Tryz.sizeOf107
  v46 := Tryz.zeroValue107
  t51 := Tryz.underlying120
  a51 := Tryz.isAgg120
  z51 := Tryz.sizeOf120
  v51 := Tryz.zeroValue120
  t146 := Tryz.underlying130
  a146 := Tryz.isAgg130
  z146 := Tryz.sizeOf130
  v146 := Tryz.zeroValue130
  g1 := by kernel_rfl }
open Go.RowKit Go.Lib in
theorem Tryz.strings_Index_one (s : ByteArray) (c : UInt8) (w : World) :
    Calls Tryz.prog 89 #[.string s, .string ⟨#[c]⟩] w fun e w' => e = .returned (.int .i64 (Lib.indexByte s.data.toList c)) ∧ w' = w := Any.strings_Index_one Tryz.lays143 s c w
open Go.RowKit Go.Lib in
theorem Tryz.strings_Index (s sub : ByteArray) (m : Int) (w : World) (hs : s.size < 4294967281) (hm : w.cell? ⟨2, 0, none⟩ = some (.int .i64 m)) :
    Calls Tryz.prog 89 #[.string s, .string sub] w fun e w' => e = .returned (.int .i64 (Lib.index s.data.toList sub.data.toList)) ∧ w' = w := Any.strings_Index Tryz.lays143 s sub m w hs hm
def Tryz.lays206_ren : Go.Shelf.Ren := ⟨fun | 206 => 57 | n => n, fun | 9 => 9 | 4 => 4 | 3 => 3 | n => n, fun | n => n⟩
theorem Tryz.lays206 : Go.Proofs.Lays.n206 Tryz.prog Tryz.lays206_ren := {
  mixed := by kernel_rfl
  f206 := Tryz.func57.trans (congrArg some (by kernel_rfl))
  t3 := Tryz.underlying3
  a3 := Tryz.isAgg3
  z3 := Tryz.sizeOf3
  v3 := Tryz.zeroValue3
  t4 := Tryz.underlying4
  a4 := Tryz.isAgg4
  z4 := Tryz.sizeOf4
  v4 := Tryz.zeroValue4
  t9 := Tryz.underlying9
  a9 := Tryz.isAgg9
  z9 := Tryz.sizeOf9
  v9 := Tryz.zeroValue9 }
open Go.RowKit Go.Lib in
theorem Tryz.stringslite_HasPrefix (s p : ByteArray) (w : World) :
    Calls Tryz.prog 57 #[.string s, .string p] w fun e w' => e = .returned (.bool (Lib.hasPrefix s.data.toList p.data.toList)) ∧ w' = w := Any.stringslite_HasPrefix Tryz.lays206 s p w
def Tryz.lays99_ren : Go.Shelf.Ren := ⟨fun | 99 => 41 | 206 => 57 | n => n, fun | 9 => 9 | 4 => 4 | 3 => 3 | n => n, fun | n => n⟩
theorem Tryz.lays99 : Go.Proofs.Lays.n99 Tryz.prog Tryz.lays99_ren := {
  mixed := by kernel_rfl
  f99 := Tryz.func41.trans (congrArg some (by kernel_rfl))
  f206 := Tryz.func57.trans (congrArg some (by kernel_rfl))
  t3 := Tryz.underlying3
  a3 := Tryz.isAgg3
  z3 := Tryz.sizeOf3
  v3 := Tryz.zeroValue3
  t4 := Tryz.underlying4
  a4 := Tryz.isAgg4
  z4 := Tryz.sizeOf4
  v4 := Tryz.zeroValue4
  t9 := Tryz.underlying9
  a9 := Tryz.isAgg9
  z9 := Tryz.sizeOf9
  v9 := Tryz.zeroValue9 }
open Go.RowKit Go.Lib in
theorem Tryz.strings_HasPrefix (s p : ByteArray) (w : World) :
    Calls Tryz.prog 41 #[.string s, .string p] w fun e w' => e = .returned (.bool (Lib.hasPrefix s.data.toList p.data.toList)) ∧ w' = w := Any.strings_HasPrefix Tryz.lays99 s p w
def Tryz.lays260_ren : Go.Shelf.Ren := ⟨fun | 260 => 90 | n => n, fun | 9 => 9 | 21 => 21 | 3 => 3 | 4 => 4 | 5 => 5 | 119 => 108 | 0 => 0 | 46 => 107 | 139 => 111 | 138 => 110 | n => n, fun | 3 => 0 | 4 => 1 | n => n⟩
theorem Tryz.lays260 : Go.Proofs.Lays.n260 Tryz.prog Tryz.lays260_ren := {
  mixed := by kernel_rfl
  f260 := Tryz.func90.trans (congrArg some (by kernel_rfl))
  t0 := Tryz.underlying0
  a0 := Tryz.isAgg0
  z0 := Tryz.sizeOf0
  v0 := Tryz.zeroValue0
  t3 := Tryz.underlying3
  a3 := Tryz.isAgg3
  z3 := Tryz.sizeOf3
  v3 := Tryz.zeroValue3
  t4 := Tryz.underlying4
  a4 := Tryz.isAgg4
  z4 := Tryz.sizeOf4
  v4 := Tryz.zeroValue4
  t5 := Tryz.underlying5
  a5 := Tryz.isAgg5
  z5 := Tryz.sizeOf5
  v5 := Tryz.zeroValue5
  t9 := Tryz.underlying9
  a9 := Tryz.isAgg9
  z9 := Tryz.sizeOf9
  v9 := Tryz.zeroValue9
  t21 := Tryz.underlying21
  a21 := Tryz.isAgg21
  z21 := Tryz.sizeOf21
  v21 := Tryz.zeroValue21
  t46 := Tryz.underlying107
  a46 := Tryz.isAgg107
  z46 := Tryz.sizeOf107
  v46 := Tryz.zeroValue107
  t119 := Tryz.underlying108
  a119 := Tryz.isAgg108
  z119 := Tryz.sizeOf108
  t138 := Tryz.underlying110
  a138 := Tryz.isAgg110
  z138 := Tryz.sizeOf110
  v138 := Tryz.zeroValue110
  t139 := Tryz.underlying111
  a139 := Tryz.isAgg111
  z139 := Tryz.sizeOf111
  v139 := Tryz.zeroValue111
  g3 := by kernel_rfl
  g4 := by kernel_rfl }
open Go.RowKit Go.Lib in
theorem Tryz.utf8_decodeRuneInStringSlow (s : ByteArray) (w : World) (hT : Lib.Utf8Tabs 0 1 w) :
    Calls Tryz.prog 90 #[.string s] w fun e w' => e = .returned (.tuple #[.int .i32 (Lib.decodeGo s).1, .int .i64 (Lib.decodeGo s).2]) ∧ Below w.heap.size w w' := Any.utf8_decodeRuneInStringSlow Tryz.lays260 s w hT
def Tryz.lays197_ren : Go.Shelf.Ren := ⟨fun | 197 => 82 | 260 => 90 | n => n, fun | 9 => 9 | 21 => 21 | 3 => 3 | 4 => 4 | 5 => 5 | 105 => 97 | 119 => 108 | 0 => 0 | 46 => 107 | 139 => 111 | 138 => 110 | n => n, fun | 3 => 0 | 4 => 1 | n => n⟩
theorem Tryz.lays197 : Go.Proofs.Lays.n197 Tryz.prog Tryz.lays197_ren := {
  mixed := by kernel_rfl
  f197 := Tryz.func82.trans (congrArg some (by kernel_rfl))
  f260 := Tryz.func90.trans (congrArg some (by kernel_rfl))
  t0 := Tryz.underlying0
  a0 := Tryz.isAgg0
  z0 := Tryz.sizeOf0
  v0 := Tryz.zeroValue0
  t3 := Tryz.underlying3
  a3 := Tryz.isAgg3
  z3 := Tryz.sizeOf3
  v3 := Tryz.zeroValue3
  t4 := Tryz.underlying4
  a4 := Tryz.isAgg4
  z4 := Tryz.sizeOf4
  v4 := Tryz.zeroValue4
  t5 := Tryz.underlying5
  a5 := Tryz.isAgg5
  z5 := Tryz.sizeOf5
  v5 := Tryz.zeroValue5
  t9 := Tryz.underlying9
  a9 := Tryz.isAgg9
  z9 := Tryz.sizeOf9
  v9 := Tryz.zeroValue9
  t21 := Tryz.underlying21
  a21 := Tryz.isAgg21
  z21 := Tryz.sizeOf21
  v21 := Tryz.zeroValue21
  t46 := Tryz.underlying107
  a46 := Tryz.isAgg107
  z46 := Tryz.sizeOf107
  v46 := Tryz.zeroValue107
  t105 := Tryz.underlying97
  a105 := Tryz.isAgg97
  z105 := Tryz.sizeOf97
  v105 := Tryz.zeroValue97
  t119 := Tryz.underlying108
  a119 := Tryz.isAgg108
  z119 := Tryz.sizeOf108
  t138 := Tryz.underlying110
  a138 := Tryz.isAgg110
  z138 := Tryz.sizeOf110
  v138 := Tryz.zeroValue110
  t139 := Tryz.underlying111
  a139 := Tryz.isAgg111
  z139 := Tryz.sizeOf111
  v139 := Tryz.zeroValue111
  g3 := by kernel_rfl
  g4 := by kernel_rfl }
open Go.RowKit Go.Lib in
theorem Tryz.utf8_DecodeRuneInString (s : ByteArray) (w : World) (hT : Lib.Utf8Tabs 0 1 w) :
    Calls Tryz.prog 82 #[.string s] w fun e w' => e = .returned (.tuple #[.int .i32 (Lib.decodeGo s).1, .int .i64 (Lib.decodeGo s).2]) ∧ Below w.heap.size w w' := Any.utf8_DecodeRuneInString Tryz.lays197 s w hT
end Go.Proofs
namespace Go.Proofs.YtloeajhmmjdlgaaGreatDoor
open Go Go.RowKit

abbrev Tabs (w : World) : Prop := Lib.Utf8Tabs 0 1 w
theorem cell_block {w : World} {b o : Nat} {v : Value} (h : w.cell? ⟨b, o, none⟩ = some v) : b < w.heap.size := by
  rcases Nat.lt_or_ge b w.heap.size with g | g
  · exact g
  · have : w.heap[b]? = none := Array.getElem?_eq_none g
    simp [World.cell?, this] at h
theorem Tabs.blocks {w : World} (h : Tabs w) : 0 < w.heap.size ∧ 1 < w.heap.size := ⟨cell_block (h.1 0 (by omega)), cell_block (h.2 0 (by omega)).1⟩
theorem Tabs.to {w w' : World} (h : Tabs w) (h1 : w'.heap[0]? = w.heap[0]?) (h2 : w'.heap[1]? = w.heap[1]?) : Tabs w' := by
  refine ⟨fun c hc => ?_, fun i hi => ?_⟩
  · have := h.1 c hc
    simpa [World.cell?, h1] using this
  · have := h.2 i hi
    simpa [World.cell?, h2] using this
/-- What the program's own variables hold. -/
def Glb (w : World) : Prop := Tabs w ∧ ∃ m, w.cell? ⟨2, 0, none⟩ = some (.int .i64 m)
theorem Glb.size {w : World} (h : Glb w) : 2 < w.heap.size := cell_block h.2.choose_spec
theorem Glb.to {w w' : World} (h : Glb w) (h0 : w'.heap[0]? = w.heap[0]?) (h1 : w'.heap[1]? = w.heap[1]?) (h2 : w'.heap[2]? = w.heap[2]?) : Glb w' := by
  obtain ⟨h3, m, h4⟩ := h
  refine ⟨h3.to h0 h1, m, ?_⟩
  simpa [World.cell?, h2] using h4
theorem Glb.below {n : Nat} {w w' : World} (h : Glb w) (hb : Below n w w') (hn : 2 < n) : Glb w' := h.to (hb.block 0 (by omega)) (hb.block 1 (by omega)) (hb.block 2 hn)
theorem Glb.kept {w w' : World} (h : Glb w) (hb : Below w.heap.size w w') : Glb w' := h.below hb h.size
theorem Glb.fr {S : Nat → Prop} {w w' : World} (h : Glb w) (hb : Fr S w w') (hn : ∀ k, S k → 2 < k) : Glb w' := by
  have := h.size
  exact h.to (hb.block 0 (by omega) fun q => by have := hn 0 q; omega) (hb.block 1 (by omega) fun q => by have := hn 1 q; omega) (hb.block 2 (by omega) fun q => by have := hn 2 q; omega)

set_option maxHeartbeats 4000000 in
set_option maxRecDepth 1000000 in
theorem broken_c (s : ByteArray) (p : Nat) (w : World) (hp : p < s.size) :
    Calls Tryz.prog 83 #[.string s, .int .i64 (p : Int), .int .i32 ((Utf8.decode s p).1 : Int)] w fun e w' => e = .returned (.bool (bad s p)) ∧ w' = w := by
  obtain ⟨r, hr⟩ : ∃ r, (Utf8.decode s p).1 = r := ⟨_, rfl⟩
  rw [hr]
  have h0 : (0 : Int) ≤ (p : Int) := by omega
  have h1 : (p : Int) ≤ (s.size : Int) := by omega
  have h2 : ¬ s.size < p := by omega
  by_cases h : r = 65533
  · subst h
    have hb := bad_iff s p hp hr
    rw [← ext_list] at hb
    clear hr
    go_enter Tryz.func83, Tryz.ntmps83
    go_wp2_with (go_at_call 41; refine (Tryz.strings_HasPrefix _ _ _).mono ?_; rintro e w' ⟨rfl, rfl⟩)
    all_goals (go_ret; refine ⟨?_, rfl⟩)
    all_goals simp_all
  · have hb : bad s p = false := by simp [bad]; intro q; rw [q] at hr; exact h hr.symm
    have hz : ((r : Int) == 65533) = false := by simp; omega
    clear hr
    go_enter Tryz.func83, Tryz.ntmps83
    go_wp2
    go_ret
    exact ⟨by rw [hb]; rfl, rfl⟩
end Go.Proofs.YtloeajhmmjdlgaaGreatDoor
namespace Go.Proofs.YtloeajhmmjdlgaaGreatDoor
open Go Go.RowKit

set_option maxHeartbeats 4000000 in
set_option maxRecDepth 1000000 in
theorem next_in (s : ByteArray) (p : Nat) (w : World) (hT : Tabs w) (hp : p < s.size) (hs : s.size ≤ maxLen) :
    Calls Tryz.prog 68 #[.string s, .int .i64 (p : Int)] w fun e w' => e = .returned (.tuple #[.int .i64 (ch s p), .int .i64 (wd s p : Int)]) ∧ Below w.heap.size w w' := by
  have HT : Hid (Tabs w) := hT
  have HS : Hid (s.size ≤ maxLen) := hs
  unfold maxLen at hs
  have hz : (s.extract p s.size).size = s.size - p := by rw [ByteArray.size_extract]; omega
  have hd : Lib.decodeGo (s.extract p s.size) = Utf8.decode s p := by
    unfold Lib.decodeGo
    rw [if_neg (by rw [hz]; omega), Lib.tail_decode]; rfl
  have h0 : ¬ (p : Int) < 0 := by omega
  have h1 : ¬ (s.size : Int) ≤ (p : Int) := by omega
  have h2 : (0 : Int) ≤ (p : Int) := by omega
  have h3 : (p : Int) ≤ (s.size : Int) := by omega
  have h4 : ¬ s.size < p := by omega
  have HD : Hid (Utf8.decode s p = ((Utf8.decode s p).1, (Utf8.decode s p).2)) := rfl
  have hc := broken_c s p
  have hl := dec_le s p
  rcases hb : bad s p with _ | _
  · have e1 := ch_good hb
    clear hT hz
    go_enter Tryz.func68, Tryz.ntmps68
    go_wp2_with first
      | (go_at_call 82; (with_reducible refine (Tryz.utf8_DecodeRuneInString _ _ HT.out).mono ?_); rw [hd]; rintro e w1 ⟨rfl, hb1⟩)
      | (go_at_call 83; (with_reducible refine (hc _ hp).mono ?_); rw [hb]; rintro e w' ⟨rfl, rfl⟩)
    go_ret2
    rw [e1]
    refine ⟨?_, hb1⟩
    simp only [wd]
    rfl
  · have e1 : Hid _ := ch_bad hb
    clear hT hz
    go_enter Tryz.func68, Tryz.ntmps68
    go_wp2_with first
      | (go_at_call 82; (with_reducible refine (Tryz.utf8_DecodeRuneInString _ _ HT.out).mono ?_); rw [hd]; rintro e w1 ⟨rfl, hb1⟩)
      | (go_at_call 83; (with_reducible refine (hc _ hp).mono ?_); rw [hb]; rintro e w' ⟨rfl, rfl⟩)
    go_ret2
    rw [e1.out.1, e1.out.2.1]
    exact ⟨rfl, hb1⟩
set_option maxHeartbeats 4000000 in
set_option maxRecDepth 1000000 in
theorem next_out (s : ByteArray) (p : Int) (w : World) (hp : p < 0 ∨ (s.size : Int) ≤ p) :
    Calls Tryz.prog 68 #[.string s, .int .i64 p] w fun e w' => e = .returned (.tuple #[.int .i64 0, .int .i64 0]) ∧ w' = w := by
  by_cases h0 : p < 0
  · go_enter Tryz.func68, Tryz.ntmps68
    go_wp2
    go_ret2
    exact ⟨rfl, rfl⟩
  · have h1 : (s.size : Int) ≤ p := by omega
    clear hp
    go_enter Tryz.func68, Tryz.ntmps68
    go_wp2
    go_ret2
    exact ⟨rfl, rfl⟩

/-- The first unit that is no character. -/
def validOf (n : Nat) : List (Nat × Int) → Nat
  | [] => n
  | (p, c) :: t => if c < 0 then p else validOf n t

theorem iter_below {w wr : World} {k n : Nat} {s : ByteArray} (h : Below n w wr) (hk : n ≤ k) (p : Nat) : Below n w (wr.iterAt k s p) := Lib.below_iterAt h hk s p

/-- How many units begin ahead of a place. -/
def colOf (at' : Int) : List (Nat × Int) → Nat
  | [] => 0
  | (p, _) :: t => if at' ≤ (p : Int) then 0 else colOf at' t + 1
theorem colOf_le (x : Int) (l : List (Nat × Int)) : colOf x l ≤ l.length := by
  induction l with
  | nil => simp [colOf]
  | cons a t ih =>
    obtain ⟨p, c⟩ := a
    rw [colOf]
    split <;> simp <;> omega
end Go.Proofs.YtloeajhmmjdlgaaGreatDoor
namespace Go.Proofs.YtloeajhmmjdlgaaGreatDoor
open Go Go.RowKit
attribute [local go_sem] ext_cell

/-- A reader in memory. -/
def RD (w : World) (b : Nat) (s : ByteArray) (m : Md) (p : Nat) (tv : Value) : Prop :=
  w.heap[b]? = some (.cells #[.string s, .bool m.c, .bool m.f, .int .i64 (p : Int), tv] 49 (0, 0))
theorem RD.lt {w : World} {b : Nat} {s : ByteArray} {m : Md} {p : Nat} {tv : Value} (h : RD w b s m p tv) : b < w.heap.size := lt_of_heap h
theorem RD.kept {w w' : World} {b : Nat} {s : ByteArray} {m : Md} {p : Nat} {tv : Value} (h : RD w b s m p tv) (hb : Below w.heap.size w w') : RD w' b s m p tv := (hb.block b h.lt).trans h
theorem RD.below {n : Nat} {w w' : World} {b : Nat} {s : ByteArray} {m : Md} {p : Nat} {tv : Value} (h : RD w b s m p tv) (hb : Below n w w') (hn : b < n) : RD w' b s m p tv := (hb.block b hn).trans h
theorem RD.c0 {w : World} {b : Nat} {s : ByteArray} {m : Md} {p : Nat} {tv : Value} (h : RD w b s m p tv) : w.cell? ⟨b, 0, none⟩ = some (.string s) := cell_row h (i := 0) rfl
theorem RD.c1 {w : World} {b : Nat} {s : ByteArray} {m : Md} {p : Nat} {tv : Value} (h : RD w b s m p tv) : w.cell? ⟨b, 1, none⟩ = some (.bool m.c) := cell_row h (i := 1) rfl
theorem RD.c2 {w : World} {b : Nat} {s : ByteArray} {m : Md} {p : Nat} {tv : Value} (h : RD w b s m p tv) : w.cell? ⟨b, 2, none⟩ = some (.bool m.f) := cell_row h (i := 2) rfl
theorem RD.c3 {w : World} {b : Nat} {s : ByteArray} {m : Md} {p : Nat} {tv : Value} (h : RD w b s m p tv) : w.cell? ⟨b, 3, none⟩ = some (.int .i64 (p : Int)) := cell_row h (i := 3) rfl
theorem RD.c4 {w : World} {b : Nat} {s : ByteArray} {m : Md} {p : Nat} {tv : Value} (h : RD w b s m p tv) : w.cell? ⟨b, 4, none⟩ = some tv := cell_row h (i := 4) rfl
theorem RD.frz {w : World} {b : Nat} {s : ByteArray} {m : Md} {p : Nat} {tv : Value} (h : RD w b s m p tv) (i : Nat) : w.frozen? ⟨b, i, none⟩ = false := frz_row h i
theorem RD.to {w : World} {b : Nat} {s : ByteArray} {m : Md} {p : Nat} {tv : Value} (h : RD w b s m p tv) (q : Nat) {x : Int} (hx : x = (q : Int)) : RD (w.setCell ⟨b, 3, none⟩ (.int .i64 x)) b s m q tv := by
  subst hx
  exact heap_set_in h 3 _
/-- The block that a reader's calls change. -/
abbrev At (b k : Nat) : Prop := k = b

set_option maxRecDepth 100000 in
set_option maxHeartbeats 1000000 in
theorem sees_c {w : World} {b : Nat} {s : ByteArray} {m : Md} {p : Nat} {tv : Value} (h : RD w b s m p tv) (hp : p ≤ s.size) (t : ByteArray) :
    Calls Tryz.prog 25 #[.pointer (some ⟨b, 0, none⟩), .string t] w fun e w' => e = .returned (.bool (sees s p t.data.toList)) ∧ Below w.heap.size w w' := by
  have c0 := h.c0
  have c3 := h.c3
  have lb := h.lt
  have h0 : (0 : Int) ≤ (p : Int) := by omega
  have h1 : (p : Int) ≤ (s.size : Int) := by omega
  have h2 : ¬ s.size < p := by omega
  have hc : ∀ W, Calls Tryz.prog 41 #[.string (s.extract p s.size), .string t] W fun e w' => e = .returned (.bool (sees s p t.data.toList)) ∧ w' = W := fun W => by
    have := Tryz.strings_HasPrefix (s.extract p s.size) t W
    rw [ext_list] at this
    exact this
  clear h
  go_enter Tryz.func25, Tryz.ntmps25
  go_wp2
  refine wp_region_ext (by kernel_rfl) (by kernel_rfl) ?_
  repeat (go_big_quiet_step (first | exact rfl | (go_at_call 41; exact ext_call_same (hc _))))
  refine wpQuiet_nil ?_
  intro w5 hw5
  have B5 : Hid (Below w.heap.size w w5) := ext_of hw5
  clear hw5
  go_wp2
  go_ret
  exact ⟨rfl, B5.out⟩

set_option maxRecDepth 100000 in
set_option maxHeartbeats 1000000 in
theorem skips_yes {w : World} {b : Nat} {s : ByteArray} {m : Md} {p : Nat} {tv : Value} (h : RD w b s m p tv) (hp : p ≤ s.size) (hs : s.size ≤ 2000) (t : ByteArray) (ht : t.size ≤ 2) (hy : sees s p t.data.toList = true) :
    Calls Tryz.prog 46 #[.pointer (some ⟨b, 0, none⟩), .string t] w fun e w' => e = .returned (.bool true) ∧ RD w' b s m (p + t.size) tv ∧ Fr (At b) w w' := by
  have lb := h.lt
  have hw1 : IntKind.wrap .i64 ((p : Int) + (t.size : Int)) = (p : Int) + (t.size : Int) := wrap_small _ (by omega) (by omega)
  have hc := sees_c h hp t
  rw [hy] at hc
  have H : Hid (RD w b s m p tv) := h
  clear h
  go_enter Tryz.func46, Tryz.ntmps46
  go_wp2_with (go_at_call 25; refine hc.mono ?_; rintro e w5 ⟨rfl, h5⟩; have X5 : Hid (RD w5 b s m p tv ∧ Below w.heap.size w w5) := ⟨H.out.kept h5, h5⟩; have c3 := X5.out.1.c3; have f3 := X5.out.1.frz 3; clear h5)
  go_ret
  exact ⟨rfl, X5.out.1.to _ (by omega), Fr.setCell (S := At b) (Fr.of_below X5.out.2) (p := ⟨b, 3, none⟩) rfl _⟩
set_option maxRecDepth 100000 in
set_option maxHeartbeats 1000000 in
theorem skips_no {w : World} {b : Nat} {s : ByteArray} {m : Md} {p : Nat} {tv : Value} (h : RD w b s m p tv) (hp : p ≤ s.size) (t : ByteArray) (hy : sees s p t.data.toList = false) :
    Calls Tryz.prog 46 #[.pointer (some ⟨b, 0, none⟩), .string t] w fun e w' => e = .returned (.bool false) ∧ Below w.heap.size w w' := by
  have hc := sees_c h hp t
  rw [hy] at hc
  clear h
  go_enter Tryz.func46, Tryz.ntmps46
  go_wp2_with (go_at_call 25; refine hc.mono ?_; rintro e w5 ⟨rfl, h5⟩; have X5 : Hid (Below w.heap.size w w5) := h5; clear h5)
  go_ret
  exact ⟨rfl, X5.out⟩
/-- What is wrong, in memory. -/
def BadAt (w : World) (g : Nat) (c a : Nat) : Prop := w.heap[g]? = some (.cells #[.int .i64 (c : Int), .int .i64 (a : Int)] 53 (0, 0))
theorem wrong_c (c a : Nat) (w : World) : Calls Tryz.prog 12 #[.int .i64 (c : Int), .int .i64 (a : Int)] w fun e w' => e = .returned (.pointer (some ⟨w.heap.size, 0, none⟩)) ∧ BadAt w' w.heap.size c a ∧ Below w.heap.size w w' := by
  go_enter Tryz.func12, Tryz.ntmps12
  go_wp2
  go_ret
  exact ⟨rfl, alloc_new _ _, (Below.refl _ _).alloc (Nat.le_refl _) _⟩
/-- A token as a value. -/
def tkV (t : Tk) (a e : Nat) (rv : Value) : Value := .agg #[.int .i64 (t.kind : Int), .int .i64 (a : Int), .int .i64 (e : Int), .int .i64 (t.n : Int), .int .i64 t.mn, .int .i64 t.mx, rv]
theorem repeat_c (x y : Int) (w : World) : Calls Tryz.prog 28 #[.int .i64 x, .int .i64 y] w fun e w' => e = .returned (tkV (repT x y) 0 0 (.slice none 0 0)) ∧ Below w.heap.size w w' := by
  go_enter Tryz.func28, Tryz.ntmps28
  go_wp2
  exact bodyPost_ret (v := tkV (repT x y) 0 0 (.slice none 0 0)) (by simp [results, Tryz.results28, go_sem, tkV, repT]) rfl ⟨rfl, (Below.refl _ _).alloc (Nat.le_refl _) _⟩
theorem lone_c (c : Int) (w : World) : Calls Tryz.prog 33 #[.int .i64 c] w fun e w' => ∃ v, e = .returned v ∧ RR w.heap.size w' v [(c, c)] ∧ Below w.heap.size w w' := by
  go_enter Tryz.func33, Tryz.ntmps33
  go_wp2
  go_ret
  exact ⟨_, rfl, World.ownsRow_lit w #[.int .i64 c, .int .i64 c] 1 (Nat.le_refl _) (by unfold maxLen; omega) rfl, (Below.refl _ _).alloc (Nat.le_refl _) _⟩
end Go.Proofs.YtloeajhmmjdlgaaGreatDoor
