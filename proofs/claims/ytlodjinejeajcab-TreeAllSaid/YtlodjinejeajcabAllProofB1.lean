/-
  Trees put together, as mathematics: Cat of Cats, Alt of Alts. strings.HasPrefix, out of the library. Units of a text in bytes, as the model's own decoding tells them: mathematics alone. Units of a text: what the program's own calls tell. Next, Valid, Column: contracts. Places and Decode: contracts. The node of one character; the characters of a text. The characters of a text.
-/
import Derived.Test.YtlodjinejeajcabC15
import Derived.Test.YtlodjinejeajcabC16
import Derived.Shelf.Strings.Prefix
import Derived.Shelf.Unicode.DecodeSlow
import Derived.Shelf.Unicode.DecodeAny
import Derived.Test.YtlodjinejeajcabProg
import Derived.Lib.MapLaws
import Derived.Lib.RuneCountTail
import Derived.Lib.Strings
import Derived.Test.YtlodjinejeajcabC0
import Derived.Lib.OthersKept
import Derived.Test.YtlodjinejeajcabC10
import Derived.OwnWalk
import Derived.Laws.MakeOwn
namespace Go.Proofs.Ytlodjinejeajcab
open Go Go.RowKit

mutual
def Er.sz : Er → Nat | .mk _ _ _ _ _ ks => eszs ks + 1
def eszs : List Er → Nat | [] => 0 | x :: xs => x.sz + eszs xs
end
def Er.k : Er → Int | .mk k _ _ _ _ _ => k
def Er.ks : Er → List Er | .mk _ _ _ _ _ ks => ks
theorem esz_eq (x : Er) : x.sz = eszs x.ks + 1 := by cases x; rw [Er.sz]; rfl
theorem eszs_cons (x : Er) (l : List Er) : eszs (x :: l) = x.sz + eszs l := by rw [eszs]
theorem eszs_nil : eszs [] = 0 := by rw [eszs]
theorem eszs_append (a b : List Er) : eszs (a ++ b) = eszs a + eszs b := by
  induction a with
  | nil => rw [eszs_nil]; simp
  | cons x a ih => rw [List.cons_append, eszs_cons, eszs_cons, ih]; omega
theorem er_k (t : Tr) : (er t).k = t.f.k := by rw [er_eq]; rfl
theorem er_ks (t : Tr) : (er t).ks = t.ks.map er := by rw [er_eq]; rfl
theorem er_sz (t : Tr) : (er t).sz = t.sz := by
  refine Tr.ind (P := fun t => (er t).sz = t.sz) (fun t ih => ?_) t
  rw [esz_eq, er_ks, sz_eq]
  congr 1
  have : ∀ l : List Tr, (∀ u ∈ l, (er u).sz = u.sz) → eszs (l.map er) = szs l := by
    intro l
    induction l with
    | nil => intro _; rw [List.map_nil, eszs_nil, szs_nil]
    | cons x l ih2 =>
      intro h
      rw [List.map_cons, eszs_cons, szs_cons, h x (List.mem_cons_self ..), ih2 (fun u hu => h u (List.mem_cons_of_mem _ hu))]
  exact this t.ks ih
def catE (x : Er) : List Er := if x.k = 1 then [] else if x.k = 5 then x.ks else [x]
def altE (x : Er) : List Er := if x.k = 6 then x.ks else [x]
theorem catT_er (t : Tr) : (catT t).map er = catE (er t) := by
  unfold catT catE
  rw [er_k, er_ks]
  split
  · rfl
  · split <;> rfl
theorem altT_er (t : Tr) : (altT t).map er = altE (er t) := by
  unfold altT altE
  rw [er_k, er_ks]
  split <;> rfl
theorem catE_sz (x : Er) : eszs (catE x) ≤ x.sz := by
  unfold catE
  split
  · rw [eszs_nil]; omega
  · split
    · rw [esz_eq]; omega
    · rw [eszs_cons, eszs_nil]; omega
theorem altE_sz (x : Er) : eszs (altE x) ≤ x.sz := by
  unfold altE
  split
  · rw [esz_eq]; omega
  · rw [eszs_cons, eszs_nil]; omega
theorem join_sz (k : Int) (l : List Er) (k0 : Int) : (joinE k l (.mk k0 0 0 0 [] [])).sz ≤ eszs l + 1 := by
  unfold joinE
  split
  · rw [esz_eq]; exact Nat.le_refl _
  · rw [eszs_cons, eszs_nil]; omega
  · rw [esz_eq]; exact Nat.le_refl _
def catX (a b : Er) : Er := joinE 5 (catE a ++ catE b) (.mk 1 0 0 0 [] [])
def altX (a b : Er) : Er := joinE 6 (altE a ++ altE b) (.mk 2 0 0 0 [] [])
def cat3X (a b c : Er) : Er := joinE 5 (catE a ++ (catE b ++ catE c)) (.mk 1 0 0 0 [] [])
def alt3X (a b c : Er) : Er := joinE 6 (altE a ++ (altE b ++ altE c)) (.mk 2 0 0 0 [] [])
theorem catX_sz (a b : Er) : (catX a b).sz ≤ a.sz + b.sz + 1 := by
  have := join_sz 5 (catE a ++ catE b) 1
  rw [eszs_append] at this
  have h1 := catE_sz a
  have h2 := catE_sz b
  unfold catX
  omega
theorem altX_sz (a b : Er) : (altX a b).sz ≤ a.sz + b.sz + 1 := by
  have := join_sz 6 (altE a ++ altE b) 2
  rw [eszs_append] at this
  have h1 := altE_sz a
  have h2 := altE_sz b
  unfold altX
  omega
theorem cat3X_sz (a b c : Er) : (cat3X a b c).sz ≤ a.sz + b.sz + c.sz + 1 := by
  have := join_sz 5 (catE a ++ (catE b ++ catE c)) 1
  rw [eszs_append, eszs_append] at this
  have h1 := catE_sz a
  have h2 := catE_sz b
  have h3 := catE_sz c
  unfold cat3X
  omega
theorem alt3X_sz (a b c : Er) : (alt3X a b c).sz ≤ a.sz + b.sz + c.sz + 1 := by
  have := join_sz 6 (altE a ++ (altE b ++ altE c)) 2
  rw [eszs_append, eszs_append] at this
  have h1 := altE_sz a
  have h2 := altE_sz b
  have h3 := altE_sz c
  unfold alt3X
  omega
theorem catE_one {x : Er} (h1 : x.k ≠ 1) (h5 : x.k ≠ 5) : catE x = [x] := by unfold catE; rw [if_neg h1, if_neg h5]
theorem altE_one {x : Er} (h6 : x.k ≠ 6) : altE x = [x] := by unfold altE; rw [if_neg h6]
theorem cat_left {a b c : Er} (ha : a.k ≠ 1 ∧ a.k ≠ 5) (hb : b.k ≠ 1 ∧ b.k ≠ 5) (hc : c.k ≠ 1 ∧ c.k ≠ 5) : catX (catX a b) c = cat3X a b c := by
  unfold catX cat3X
  rw [catE_one ha.1 ha.2, catE_one hb.1 hb.2, catE_one hc.1 hc.2]
  rfl
theorem cat_right {a b c : Er} (ha : a.k ≠ 1 ∧ a.k ≠ 5) (hb : b.k ≠ 1 ∧ b.k ≠ 5) (hc : c.k ≠ 1 ∧ c.k ≠ 5) : catX a (catX b c) = cat3X a b c := by
  unfold catX cat3X
  rw [catE_one ha.1 ha.2, catE_one hb.1 hb.2, catE_one hc.1 hc.2]
  rfl
theorem alt_left {a b c : Er} (ha : a.k ≠ 6) (hb : b.k ≠ 6) (hc : c.k ≠ 6) : altX (altX a b) c = alt3X a b c := by
  unfold altX alt3X
  rw [altE_one ha, altE_one hb, altE_one hc]
  rfl
theorem alt_right {a b c : Er} (ha : a.k ≠ 6) (hb : b.k ≠ 6) (hc : c.k ≠ 6) : altX a (altX b c) = alt3X a b c := by
  unfold altX alt3X
  rw [altE_one ha, altE_one hb, altE_one hc]
  rfl
/-- Two trees that are the same, and small enough. -/
theorem same_yes8 {w : World} {a b : Tr} (ta : TA w a) (tb : TA w b) (h : er a = er b) (hs : (er a).sz ≤ 2000) : Calls Try.prog 21 #[.agg #[.int .i64 a.f.k, .int .i64 a.f.n, .int .i64 a.f.mn, .int .i64 a.f.mx, .slice a.f.rq a.f.rs.length a.f.rc, .slice a.f.kq a.f.kl a.f.kc], .agg #[.int .i64 b.f.k, .int .i64 b.f.n, .int .i64 b.f.mn, .int .i64 b.f.mx, .slice b.f.rq b.f.rs.length b.f.rc, .slice b.f.kq b.f.kl b.f.kc]] w fun e w' => e = .returned (.bool true) ∧ Below w.heap.size w w' :=
  (same8_c ta tb).mono fun e w' ⟨h1, h2⟩ => ⟨by
    have l1 : (pp [] a).length ≤ 2000 := by rw [pp_len, ← er_sz]; exact hs
    have l2 : (pp [] b).length ≤ 2000 := by rw [pp_len, ← er_sz, ← h]; exact hs
    rw [h1, h, sameB_refl, decide_eq_false (by omega), decide_eq_false (by omega)]
    rfl, h2⟩
/-- A row of two nodes in a block. -/
theorem arg_two {V : World} {g : Nat} {t1 t2 : Tr} (N : V.heap[g]? = some (.cells #[.int .i64 t1.f.k, .int .i64 t1.f.n, .int .i64 t1.f.mn, .int .i64 t1.f.mx, .slice t1.f.rq t1.f.rs.length t1.f.rc, .slice t1.f.kq t1.f.kl t1.f.kc, .int .i64 t2.f.k, .int .i64 t2.f.n, .int .i64 t2.f.mn, .int .i64 t2.f.mx, .slice t2.f.rq t2.f.rs.length t2.f.rc, .slice t2.f.kq t2.f.kl t2.f.kc] 25 (0, 0))) : ArgK V (.slice (some ⟨g, 0, none⟩) [t1, t2].length 2) [t1, t2] := by
  refine .inr ⟨g, 0, 2, rfl, lt_of_heap N, Nat.le_refl _, by unfold maxLen; decide, fun i t hi => ?_⟩
  match i, hi with
  | 0, hi =>
    simp at hi
    subst hi
    exact ⟨cell_row N (i := 0) rfl, cell_row N (i := 1) rfl, cell_row N (i := 2) rfl, cell_row N (i := 3) rfl, cell_row N (i := 4) rfl, cell_row N (i := 5) rfl⟩
  | 1, hi =>
    simp at hi
    subst hi
    exact ⟨cell_row N (i := 6) rfl, cell_row N (i := 7) rfl, cell_row N (i := 8) rfl, cell_row N (i := 9) rfl, cell_row N (i := 10) rfl, cell_row N (i := 11) rfl⟩
theorem arg_three {V : World} {g : Nat} {t1 t2 t3 : Tr} (N : V.heap[g]? = some (.cells #[.int .i64 t1.f.k, .int .i64 t1.f.n, .int .i64 t1.f.mn, .int .i64 t1.f.mx, .slice t1.f.rq t1.f.rs.length t1.f.rc, .slice t1.f.kq t1.f.kl t1.f.kc, .int .i64 t2.f.k, .int .i64 t2.f.n, .int .i64 t2.f.mn, .int .i64 t2.f.mx, .slice t2.f.rq t2.f.rs.length t2.f.rc, .slice t2.f.kq t2.f.kl t2.f.kc, .int .i64 t3.f.k, .int .i64 t3.f.n, .int .i64 t3.f.mn, .int .i64 t3.f.mx, .slice t3.f.rq t3.f.rs.length t3.f.rc, .slice t3.f.kq t3.f.kl t3.f.kc] 25 (0, 0))) : ArgK V (.slice (some ⟨g, 0, none⟩) [t1, t2, t3].length 3) [t1, t2, t3] := by
  refine .inr ⟨g, 0, 3, rfl, lt_of_heap N, Nat.le_refl _, by unfold maxLen; decide, fun i t hi => ?_⟩
  match i, hi with
  | 0, hi =>
    simp at hi
    subst hi
    exact ⟨cell_row N (i := 0) rfl, cell_row N (i := 1) rfl, cell_row N (i := 2) rfl, cell_row N (i := 3) rfl, cell_row N (i := 4) rfl, cell_row N (i := 5) rfl⟩
  | 1, hi =>
    simp at hi
    subst hi
    exact ⟨cell_row N (i := 6) rfl, cell_row N (i := 7) rfl, cell_row N (i := 8) rfl, cell_row N (i := 9) rfl, cell_row N (i := 10) rfl, cell_row N (i := 11) rfl⟩
  | 2, hi =>
    simp at hi
    subst hi
    exact ⟨cell_row N (i := 12) rfl, cell_row N (i := 13) rfl, cell_row N (i := 14) rfl, cell_row N (i := 15) rfl, cell_row N (i := 16) rfl, cell_row N (i := 17) rfl⟩
/-- A call that makes a tree. -/
def Mk8 (V : World) (X : Er) (e : Ending) (w' : World) : Prop := ∃ t', e = .returned (.agg #[.int .i64 t'.f.k, .int .i64 t'.f.n, .int .i64 t'.f.mn, .int .i64 t'.f.mx, .slice t'.f.rq t'.f.rs.length t'.f.rc, .slice t'.f.kq t'.f.kl t'.f.kc]) ∧ TA w' t' ∧ er t' = X ∧ Foot (fun k => V.heap.size ≤ k) t' ∧ Below V.heap.size V w'
section
variable {V : World} {g : Nat} {t1 t2 t3 : Tr}
theorem cat_two (N : V.heap[g]? = some (.cells #[.int .i64 t1.f.k, .int .i64 t1.f.n, .int .i64 t1.f.mn, .int .i64 t1.f.mx, .slice t1.f.rq t1.f.rs.length t1.f.rc, .slice t1.f.kq t1.f.kl t1.f.kc, .int .i64 t2.f.k, .int .i64 t2.f.n, .int .i64 t2.f.mn, .int .i64 t2.f.mx, .slice t2.f.rq t2.f.rs.length t2.f.rc, .slice t2.f.kq t2.f.kl t2.f.kc] 25 (0, 0))) (h1 : TA V t1) (h2 : TA V t2) (hs : (er t1).sz + (er t2).sz < 1000000) :
    Calls Try.prog 13 #[.slice (some ⟨g, 0, none⟩) 2 2] V (Mk8 V (catX (er t1) (er t2))) := by
  rw [er_sz, er_sz] at hs
  refine (cat_c (arg_two N) (fun u hu => by simp at hu; rcases hu with rfl | rfl <;> assumption) (by rw [szs_cons, szs_cons, szs_nil]; omega)).mono fun e w' ⟨t', a1, a2, a3, a4, a5⟩ => ⟨t', a1, a2, ?_, a3, a5⟩
  rw [a4]
  unfold catX
  rw [← catT_er, ← catT_er]
  simp
theorem alt_two (N : V.heap[g]? = some (.cells #[.int .i64 t1.f.k, .int .i64 t1.f.n, .int .i64 t1.f.mn, .int .i64 t1.f.mx, .slice t1.f.rq t1.f.rs.length t1.f.rc, .slice t1.f.kq t1.f.kl t1.f.kc, .int .i64 t2.f.k, .int .i64 t2.f.n, .int .i64 t2.f.mn, .int .i64 t2.f.mx, .slice t2.f.rq t2.f.rs.length t2.f.rc, .slice t2.f.kq t2.f.kl t2.f.kc] 25 (0, 0))) (h1 : TA V t1) (h2 : TA V t2) (hs : (er t1).sz + (er t2).sz < 1000000) :
    Calls Try.prog 16 #[.slice (some ⟨g, 0, none⟩) 2 2] V (Mk8 V (altX (er t1) (er t2))) := by
  rw [er_sz, er_sz] at hs
  refine (alt_c (arg_two N) (fun u hu => by simp at hu; rcases hu with rfl | rfl <;> assumption) (by rw [szs_cons, szs_cons, szs_nil]; omega)).mono fun e w' ⟨t', a1, a2, a3, a4, a5⟩ => ⟨t', a1, a2, ?_, a3, a5⟩
  rw [a4]
  unfold altX
  rw [← altT_er, ← altT_er]
  simp
theorem cat_three (N : V.heap[g]? = some (.cells #[.int .i64 t1.f.k, .int .i64 t1.f.n, .int .i64 t1.f.mn, .int .i64 t1.f.mx, .slice t1.f.rq t1.f.rs.length t1.f.rc, .slice t1.f.kq t1.f.kl t1.f.kc, .int .i64 t2.f.k, .int .i64 t2.f.n, .int .i64 t2.f.mn, .int .i64 t2.f.mx, .slice t2.f.rq t2.f.rs.length t2.f.rc, .slice t2.f.kq t2.f.kl t2.f.kc, .int .i64 t3.f.k, .int .i64 t3.f.n, .int .i64 t3.f.mn, .int .i64 t3.f.mx, .slice t3.f.rq t3.f.rs.length t3.f.rc, .slice t3.f.kq t3.f.kl t3.f.kc] 25 (0, 0))) (h1 : TA V t1) (h2 : TA V t2) (h3 : TA V t3) (hs : (er t1).sz + (er t2).sz + (er t3).sz < 1000000) :
    Calls Try.prog 13 #[.slice (some ⟨g, 0, none⟩) 3 3] V (Mk8 V (cat3X (er t1) (er t2) (er t3))) := by
  rw [er_sz, er_sz, er_sz] at hs
  refine (cat_c (arg_three N) (fun u hu => by simp at hu; rcases hu with rfl | rfl | rfl <;> assumption) (by rw [szs_cons, szs_cons, szs_cons, szs_nil]; omega)).mono fun e w' ⟨t', a1, a2, a3, a4, a5⟩ => ⟨t', a1, a2, ?_, a3, a5⟩
  rw [a4]
  unfold cat3X
  rw [← catT_er, ← catT_er, ← catT_er]
  simp
theorem alt_three (N : V.heap[g]? = some (.cells #[.int .i64 t1.f.k, .int .i64 t1.f.n, .int .i64 t1.f.mn, .int .i64 t1.f.mx, .slice t1.f.rq t1.f.rs.length t1.f.rc, .slice t1.f.kq t1.f.kl t1.f.kc, .int .i64 t2.f.k, .int .i64 t2.f.n, .int .i64 t2.f.mn, .int .i64 t2.f.mx, .slice t2.f.rq t2.f.rs.length t2.f.rc, .slice t2.f.kq t2.f.kl t2.f.kc, .int .i64 t3.f.k, .int .i64 t3.f.n, .int .i64 t3.f.mn, .int .i64 t3.f.mx, .slice t3.f.rq t3.f.rs.length t3.f.rc, .slice t3.f.kq t3.f.kl t3.f.kc] 25 (0, 0))) (h1 : TA V t1) (h2 : TA V t2) (h3 : TA V t3) (hs : (er t1).sz + (er t2).sz + (er t3).sz < 1000000) :
    Calls Try.prog 16 #[.slice (some ⟨g, 0, none⟩) 3 3] V (Mk8 V (alt3X (er t1) (er t2) (er t3))) := by
  rw [er_sz, er_sz, er_sz] at hs
  refine (alt_c (arg_three N) (fun u hu => by simp at hu; rcases hu with rfl | rfl | rfl <;> assumption) (by rw [szs_cons, szs_cons, szs_cons, szs_nil]; omega)).mono fun e w' ⟨t', a1, a2, a3, a4, a5⟩ => ⟨t', a1, a2, ?_, a3, a5⟩
  rw [a4]
  unfold alt3X
  rw [← altT_er, ← altT_er, ← altT_er]
  simp
end
end Go.Proofs.Ytlodjinejeajcab
namespace Go.Proofs
open Go.Shelf
def Try.lays206_ren : Go.Shelf.Ren := ⟨fun | 206 => 76 | n => n, fun | 9 => 9 | 4 => 4 | 3 => 3 | n => n, fun | n => n⟩
theorem Try.lays206 : Go.Proofs.Lays.n206 Try.prog Try.lays206_ren := {
  mixed := by kernel_rfl
  f206 := Try.func76.trans (congrArg some (by kernel_rfl))
  t3 := Try.underlying3
  a3 := Try.isAgg3
  z3 := Try.sizeOf3
  v3 := Try.zeroValue3
  t4 := Try.underlying4
  a4 := Try.isAgg4
  z4 := Try.sizeOf4
  v4 := Try.zeroValue4
  t9 := Try.underlying9
  a9 := Try.isAgg9
  z9 := Try.sizeOf9
  v9 := Try.zeroValue9 }
open Go.RowKit Go.Lib in
theorem Try.stringslite_HasPrefix (s p : ByteArray) (w : World) :
    Calls Try.prog 76 #[.string s, .string p] w fun e w' => e = .returned (.bool (Lib.hasPrefix s.data.toList p.data.toList)) ∧ w' = w := Any.stringslite_HasPrefix Try.lays206 s p w
def Try.lays99_ren : Go.Shelf.Ren := ⟨fun | 99 => 69 | 206 => 76 | n => n, fun | 9 => 9 | 4 => 4 | 3 => 3 | n => n, fun | n => n⟩
theorem Try.lays99 : Go.Proofs.Lays.n99 Try.prog Try.lays99_ren := {
  mixed := by kernel_rfl
  f99 := Try.func69.trans (congrArg some (by kernel_rfl))
  f206 := Try.func76.trans (congrArg some (by kernel_rfl))
  t3 := Try.underlying3
  a3 := Try.isAgg3
  z3 := Try.sizeOf3
  v3 := Try.zeroValue3
  t4 := Try.underlying4
  a4 := Try.isAgg4
  z4 := Try.sizeOf4
  v4 := Try.zeroValue4
  t9 := Try.underlying9
  a9 := Try.isAgg9
  z9 := Try.sizeOf9
  v9 := Try.zeroValue9 }
open Go.RowKit Go.Lib in
theorem Try.strings_HasPrefix (s p : ByteArray) (w : World) :
    Calls Try.prog 69 #[.string s, .string p] w fun e w' => e = .returned (.bool (Lib.hasPrefix s.data.toList p.data.toList)) ∧ w' = w := Any.strings_HasPrefix Try.lays99 s p w
end Go.Proofs
namespace Go.Proofs.Ytlodjinejeajcab
open Go

/-- How many bytes the unit at a place has, and its character (-1: none). -/
def wd (s : ByteArray) (p : Nat) : Nat := (Utf8.decode s p).2
def bad (s : ByteArray) (p : Nat) : Bool := decide (Utf8.decode s p = (65533, 1))
def ch (s : ByteArray) (p : Nat) : Int := if bad s p then -1 else (Utf8.decode s p).1

/-- A place's byte. -/
def bt (s : ByteArray) (i : Nat) : Nat := (s.data.toList.getD i 0).toNat
theorem bt_lt (s : ByteArray) (i : Nat) : bt s i < 256 := UInt8.toNat_lt _
theorem size_list (s : ByteArray) : s.data.toList.length = s.size := (Lib.size_eq s).symm
theorem dec_eq (s : ByteArray) (p : Nat) : Utf8.decode s p = Lib.decodeN (s.size - p) (bt s p) (bt s (p + 1)) (bt s (p + 2)) (bt s (p + 3)) := by
  rw [Lib.decode_N, size_list]; rfl
theorem bt_out (s : ByteArray) (i : Nat) (h : s.size ≤ i) : bt s i = 0 := by
  have : s.data.toList[i]? = none := List.getElem?_eq_none (by rw [size_list]; exact h)
  simp [bt, List.getD_eq_getElem?_getD, this]
theorem wd_pos (s : ByteArray) (p : Nat) : 1 ≤ wd s p := Lib.width_pos s p
theorem dec_le (s : ByteArray) (p : Nat) : (Utf8.decode s p).1 ≤ 1114111 := Lib.rune_le s p

/-- What the decoding tells, by its bytes. -/
theorem decN_cases (n b0 b1 b2 b3 : Nat) : Lib.decodeN n b0 b1 b2 b3 = (65533, 1) ∨ (b0 < 128 ∧ Lib.decodeN n b0 b1 b2 b3 = (b0, 1)) ∨
    (1 < n ∧ b0 / 32 = 6 ∧ b1 / 64 = 2 ∧ 128 ≤ b0 % 32 * 64 + b1 % 64 ∧ Lib.decodeN n b0 b1 b2 b3 = (b0 % 32 * 64 + b1 % 64, 2)) ∨
    (2 < n ∧ b0 / 16 = 14 ∧ b1 / 64 = 2 ∧ b2 / 64 = 2 ∧ 2048 ≤ b0 % 16 * 4096 + b1 % 64 * 64 + b2 % 64 ∧ (b0 % 16 * 4096 + b1 % 64 * 64 + b2 % 64 < 55296 ∨ 57344 ≤ b0 % 16 * 4096 + b1 % 64 * 64 + b2 % 64) ∧ Lib.decodeN n b0 b1 b2 b3 = (b0 % 16 * 4096 + b1 % 64 * 64 + b2 % 64, 3)) ∨
    (3 < n ∧ b0 / 8 = 30 ∧ b1 / 64 = 2 ∧ b2 / 64 = 2 ∧ b3 / 64 = 2 ∧ 65536 ≤ b0 % 8 * 262144 + b1 % 64 * 4096 + b2 % 64 * 64 + b3 % 64 ∧ b0 % 8 * 262144 + b1 % 64 * 4096 + b2 % 64 * 64 + b3 % 64 ≤ 1114111 ∧ Lib.decodeN n b0 b1 b2 b3 = (b0 % 8 * 262144 + b1 % 64 * 4096 + b2 % 64 * 64 + b3 % 64, 4)) := by
  unfold Lib.decodeN
  by_cases h0 : b0 < 128
  · rw [if_pos h0]; exact .inr (.inl ⟨h0, rfl⟩)
  rw [if_neg h0]
  split
  · rename_i h
    split
    · rename_i g
      exact .inr (.inr (.inl ⟨h.2.1, h.1, h.2.2, g, rfl⟩))
    · exact .inl rfl
  split
  · rename_i h
    split
    · rename_i g
      exact .inr (.inr (.inr (.inl ⟨h.2.2.1, h.1, h.2.1.2, h.2.2.2, g.1, by omega, rfl⟩)))
    · exact .inl rfl
  split
  · rename_i h
    split
    · rename_i g
      exact .inr (.inr (.inr (.inr ⟨h.2.2.2.1, h.1, h.2.1.2, h.2.2.1.2, h.2.2.2.2, g.1, by omega, rfl⟩)))
    · exact .inl rfl
  exact .inl rfl

theorem wd_le (s : ByteArray) (p : Nat) (h : p < s.size) : wd s p ≤ 4 ∧ p + wd s p ≤ s.size := by
  unfold wd
  rw [dec_eq]
  rcases decN_cases (s.size - p) (bt s p) (bt s (p + 1)) (bt s (p + 2)) (bt s (p + 3)) with e | ⟨_, e⟩ | ⟨_, _, _, _, e⟩ | ⟨_, _, _, _, _, _, e⟩ | ⟨_, _, _, _, _, _, _, e⟩
  all_goals (rw [e]; simp only; omega)
theorem ch_bad {s : ByteArray} {p : Nat} (h : bad s p = true) : ch s p = -1 ∧ wd s p = 1 ∧ (Utf8.decode s p).1 = 65533 := by
  have e : Utf8.decode s p = (65533, 1) := by simpa [bad] using h
  simp [ch, h, wd, e]
theorem ch_good {s : ByteArray} {p : Nat} (h : bad s p = false) : ch s p = (Utf8.decode s p).1 := by simp [ch, h]
theorem ch_neg {s : ByteArray} {p : Nat} : ch s p < 0 ↔ bad s p = true := by
  unfold ch
  split
  · rename_i h; simp [h]
  · rename_i h
    have := Int.natCast_nonneg (Utf8.decode s p).1
    simp [h]

/-- The bytes of U+FFFD tell it from a byte that is no character. -/
theorem prefix3 (l : List UInt8) (a b c : UInt8) : Lib.hasPrefix l [a, b, c] = (decide (2 < l.length) && l.getD 0 0 == a && l.getD 1 0 == b && l.getD 2 0 == c) := by
  unfold Lib.hasPrefix
  match l with
  | [] => simp [List.isPrefixOf]
  | [x] => simp [List.isPrefixOf]
  | [x, y] => simp [List.isPrefixOf]
  | x :: y :: z :: t =>
    rw [Bool.eq_iff_iff]
    simp [List.isPrefixOf]
    grind
theorem ext_list (s : ByteArray) (p : Nat) : (s.extract p s.size).data.toList = s.data.toList.drop p := by
  rw [ByteArray.data_extract, Array.toList_extract, List.extract_eq_take_drop, List.take_of_length_le (by rw [List.length_drop, size_list]; omega)]
theorem bad_iff (s : ByteArray) (p : Nat) (h : p < s.size) (hr : (Utf8.decode s p).1 = 65533) : Lib.hasPrefix (s.data.toList.drop p) [239, 191, 189] = !bad s p := by
  rw [prefix3]
  have g0 : (s.data.toList.drop p).getD 0 0 = s.data.toList.getD p 0 := by simp [List.getD_eq_getElem?_getD]
  have g1 : (s.data.toList.drop p).getD 1 0 = s.data.toList.getD (p + 1) 0 := by simp [List.getD_eq_getElem?_getD]
  have g2 : (s.data.toList.drop p).getD 2 0 = s.data.toList.getD (p + 2) 0 := by simp [List.getD_eq_getElem?_getD]
  rw [g0, g1, g2]
  have toN : ∀ (i : Nat) (k : UInt8), (s.data.toList.getD i 0 == k) = decide (bt s i = k.toNat) := fun i k => by
    unfold bt
    rw [Bool.eq_iff_iff]
    simp [UInt8.toNat_inj]
  rw [toN, toN, toN]
  have hl : (s.data.toList.drop p).length = s.size - p := by rw [List.length_drop, size_list]
  rw [hl]
  have e := dec_eq s p
  rw [e] at hr
  unfold bad
  rw [e]
  have q0 := bt_lt s p
  have q1 := bt_lt s (p + 1)
  have q2 := bt_lt s (p + 2)
  have q3 := bt_lt s (p + 3)
  rw [Bool.eq_iff_iff]
  simp only [Bool.and_eq_true, decide_eq_true_eq, Bool.not_eq_true', decide_eq_false_iff_not]
  show (((2 < s.size - p ∧ bt s p = 239) ∧ bt s (p + 1) = 191) ∧ bt s (p + 2) = 189) ↔ _
  rcases decN_cases (s.size - p) (bt s p) (bt s (p + 1)) (bt s (p + 2)) (bt s (p + 3)) with k | ⟨_, k⟩ | ⟨_, _, _, _, k⟩ | ⟨_, _, _, _, _, _, k⟩ | ⟨_, _, _, _, _, _, _, k⟩
  · rw [k]
    simp only [not_true, iff_false]
    rintro ⟨⟨⟨h1, h2⟩, h3⟩, h4⟩
    rw [h2, h3, h4] at k
    unfold Lib.decodeN at k
    simp at k
    omega
  · rw [k] at hr ⊢
    simp only at hr
    omega
  · rw [k] at hr ⊢
    simp only at hr
    omega
  · rw [k] at hr ⊢
    simp only at hr
    simp
    omega
  · rw [k] at hr ⊢
    simp only at hr
    omega

/-- The units from a place on. -/
def uFrom (s : ByteArray) : Nat → Nat → List (Nat × Int)
  | 0, _ => []
  | f + 1, p => if p < s.size then (p, ch s p) :: uFrom s f (p + wd s p) else []
def us (s : ByteArray) : List (Nat × Int) := uFrom s s.size 0
theorem uFrom_end (s : ByteArray) (f p : Nat) (h : ¬ p < s.size) : uFrom s f p = [] := by cases f <;> simp [uFrom, h]
theorem uFrom_more (s : ByteArray) (f p : Nat) (h : p < s.size) : uFrom s (f + 1) p = (p, ch s p) :: uFrom s f (p + wd s p) := by simp [uFrom, h]
theorem uFrom_length (s : ByteArray) : ∀ f p, (uFrom s f p).length ≤ s.size - p
  | 0, _ => by simp [uFrom]
  | f + 1, p => by
    unfold uFrom
    split
    · have := uFrom_length s f (p + wd s p)
      have := wd_pos s p
      simp; omega
    · simp
theorem us_length (s : ByteArray) : (us s).length ≤ s.size := by have := uFrom_length s s.size 0; unfold us; omega
end Go.Proofs.Ytlodjinejeajcab
namespace Go.Proofs.Ytlodjinejeajcab
open Go Go.RowKit

abbrev Tabs (w : World) : Prop := Lib.Utf8Tabs 0 1 w
theorem cell_block {w : World} {b o : Nat} {v : Value} (h : w.cell? ⟨b, o, none⟩ = some v) : b < w.heap.size := by
  rcases Nat.lt_or_ge b w.heap.size with g | g
  · exact g
  · have : w.heap[b]? = none := Array.getElem?_eq_none g
    simp [World.cell?, this] at h
theorem Tabs.blocks {w : World} (h : Tabs w) : 0 < w.heap.size ∧ 1 < w.heap.size := ⟨cell_block (h.1 0 (by omega)), cell_block (h.2 0 (by omega)).1⟩
theorem Tabs.to {w w' : World} (h : Tabs w) (h1 : w'.heap[0]? = w.heap[0]?) (h2 : w'.heap[1]? = w.heap[1]?) : Tabs w' := by
  refine ⟨fun c hc => ?_, fun i hi => ?_⟩
  · have := h.1 c hc
    simpa [World.cell?, h1] using this
  · have := h.2 i hi
    simpa [World.cell?, h2] using this
/-- What the program's own variables hold. -/
def Glb (w : World) : Prop := Tabs w ∧ ∃ m, w.cell? ⟨2, 0, none⟩ = some (.int .i64 m)
theorem Glb.size {w : World} (h : Glb w) : 2 < w.heap.size := cell_block h.2.choose_spec
theorem Glb.to {w w' : World} (h : Glb w) (h0 : w'.heap[0]? = w.heap[0]?) (h1 : w'.heap[1]? = w.heap[1]?) (h2 : w'.heap[2]? = w.heap[2]?) : Glb w' := by
  obtain ⟨h3, m, h4⟩ := h
  refine ⟨h3.to h0 h1, m, ?_⟩
  simpa [World.cell?, h2] using h4
theorem Glb.below {n : Nat} {w w' : World} (h : Glb w) (hb : Below n w w') (hn : 2 < n) : Glb w' := h.to (hb.block 0 (by omega)) (hb.block 1 (by omega)) (hb.block 2 hn)
theorem Glb.kept {w w' : World} (h : Glb w) (hb : Below w.heap.size w w') : Glb w' := h.below hb h.size
theorem Glb.fr {S : Nat → Prop} {w w' : World} (h : Glb w) (hb : Fr S w w') (hn : ∀ k, S k → 2 < k) : Glb w' := by
  have := h.size
  exact h.to (hb.block 0 (by omega) fun q => by have := hn 0 q; omega) (hb.block 1 (by omega) fun q => by have := hn 1 q; omega) (hb.block 2 (by omega) fun q => by have := hn 2 q; omega)

set_option maxHeartbeats 4000000 in
set_option maxRecDepth 1000000 in
theorem broken_c (s : ByteArray) (p : Nat) (w : World) (hp : p < s.size) :
    Calls Try.prog 60 #[.string s, .int .i64 (p : Int), .int .i32 ((Utf8.decode s p).1 : Int)] w fun e w' => e = .returned (.bool (bad s p)) ∧ w' = w := by
  obtain ⟨r, hr⟩ : ∃ r, (Utf8.decode s p).1 = r := ⟨_, rfl⟩
  rw [hr]
  have h0 : (0 : Int) ≤ (p : Int) := by omega
  have h1 : (p : Int) ≤ (s.size : Int) := by omega
  have h2 : ¬ s.size < p := by omega
  by_cases h : r = 65533
  · subst h
    have hb := bad_iff s p hp hr
    rw [← ext_list] at hb
    clear hr
    go_enter Try.func60, Try.ntmps60
    go_wp2_with (go_at_call 69; refine (Try.strings_HasPrefix _ _ _).mono ?_; rintro e w' ⟨rfl, rfl⟩)
    all_goals (go_ret; refine ⟨?_, rfl⟩)
    all_goals simp_all
  · have hb : bad s p = false := by simp [bad]; intro q; rw [q] at hr; exact h hr.symm
    have hz : ((r : Int) == 65533) = false := by simp; omega
    clear hr
    go_enter Try.func60, Try.ntmps60
    go_wp2
    go_ret
    exact ⟨by rw [hb]; rfl, rfl⟩
end Go.Proofs.Ytlodjinejeajcab
namespace Go.Proofs.Ytlodjinejeajcab
open Go Go.RowKit

/-- The first unit that is no character. -/
def validOf (n : Nat) : List (Nat × Int) → Nat
  | [] => n
  | (p, c) :: t => if c < 0 then p else validOf n t

theorem iter_below {w wr : World} {k n : Nat} {s : ByteArray} (h : Below n w wr) (hk : n ≤ k) (p : Nat) : Below n w (wr.iterAt k s p) := Lib.below_iterAt h hk s p

/-- How many units begin ahead of a place. -/
def colOf (at' : Int) : List (Nat × Int) → Nat
  | [] => 0
  | (p, _) :: t => if at' ≤ (p : Int) then 0 else colOf at' t + 1
theorem colOf_le (x : Int) (l : List (Nat × Int)) : colOf x l ≤ l.length := by
  induction l with
  | nil => simp [colOf]
  | cons a t ih =>
    obtain ⟨p, c⟩ := a
    rw [colOf]
    split <;> simp <;> omega
end Go.Proofs.Ytlodjinejeajcab
namespace Go.Proofs.Ytlodjinejeajcab
open Go Go.RowKit

theorem news1 (W : World) (a : Value) (t : TypeId) : ∀ (j : Nat) (u : Value), [a][j]? = some u → (W.alloc (.cells #[a] t)).cell? ((⟨W.heap.size, 0, none⟩ : Addr).add j) = some u := by
  intro j u h
  match j, h with
  | 0, h => simp at h; subst h; simp [Addr.add]

/-- A text that is gone through beside a list of one's own (cells of the type e). -/
structure RI5 (s : ByteArray) (w : World) (k pos : Nat) (e : TypeId) (v : Value) (n : Nat) (L : List Value) (wr : World) : Prop where
  lo : w.heap.size ≤ k
  it : wr.heap[k]? = some (.stringIter s pos)
  own : wr.ownsRow w.heap.size e 1 v n L
  bel : Below w.heap.size w wr
theorem RI5.len {s : ByteArray} {w wr : World} {k pos n : Nat} {e : TypeId} {v : Value} {L : List Value} (h : RI5 s w k pos e v n L wr) : w.heap.size ≤ wr.heap.size := h.bel.size
theorem own_iterAt {wr : World} {base k p p' n : Nat} {e : TypeId} {s : ByteArray} {v : Value} {L : List Value} (h : wr.ownsRow base e 1 v n L) (hk : wr.heap[k]? = some (.stringIter s p)) : (wr.iterAt k s p').ownsRow base e 1 v n L := by
  obtain ⟨h1, h2 | ⟨g, cap, cur, q1, q2, q3, q4⟩⟩ := h
  · exact ⟨h1, .inl h2⟩
  · refine ⟨h1, .inr ⟨g, cap, cur, q1, q2, ?_, q4⟩⟩
    rw [Lib.iterAt_other _ _ _ _ _ (fun q => by rw [q, hk] at q3; cases q3)]
    exact q3
theorem RI5.next {s : ByteArray} {w wr : World} {k pos n : Nat} {e : TypeId} {v : Value} {L : List Value} (h : RI5 s w k pos e v n L wr) (p : Nat) : RI5 s w k p e v n L (wr.iterAt k s p) :=
  ⟨h.lo, Lib.iterAt_heap wr k s pos p h.it, own_iterAt h.own h.it, iter_below h.bel h.lo p⟩
theorem RI5.app {s : ByteArray} {w wr w6 : World} {k pos n m : Nat} {e : TypeId} {v v' : Value} {L M : List Value} {o : Obj} (h : RI5 s w k pos e v n L wr) (hown : w6.ownsRow w.heap.size e 1 v' m M) (hg : (wr.alloc o).grownBy w6 v.ownBlock) : RI5 s w k pos e v' m M w6 := by
  have hk := lt_of_heap h.it
  refine ⟨h.lo, ?_, hown, ?_⟩
  · rw [hg.block k (by simp; omega) ?_, Below.heap_alloc _ _ _ hk]
    · exact h.it
    · intro q
      obtain ⟨_, _, cur, hc⟩ := ownsRow_at h.own q.symm
      rw [h.it] at hc; cases hc
  · exact chainF h.bel (((Fr.refl (fun z => v.ownBlock = some z) wr).alloc _).grown hg (fun z hz => hz)) (Nat.le_refl _) (fun z hz => (ownsRow_at h.own hz).1)
theorem RI5.app0 {s : ByteArray} {w wr w6 : World} {k pos n m : Nat} {e : TypeId} {v v' : Value} {L M : List Value} (h : RI5 s w k pos e v n L wr) (hown : w6.ownsRow w.heap.size e 1 v' m M) (hg : wr.grownBy w6 v.ownBlock) : RI5 s w k pos e v' m M w6 := by
  have hk := lt_of_heap h.it
  refine ⟨h.lo, ?_, hown, ?_⟩
  · rw [hg.block k hk ?_]
    · exact h.it
    · intro q
      obtain ⟨_, _, cur, hc⟩ := ownsRow_at h.own q.symm
      rw [h.it] at hc; cases hc
  · exact chainF h.bel ((Fr.refl (fun z => v.ownBlock = some z) wr).grown hg (fun z hz => hz)) (Nat.le_refl _) (fun z hz => (ownsRow_at h.own hz).1)

/-- The places, and the characters, of units. -/
def plc (l : List (Nat × Int)) : List Int := l.map fun u => (u.1 : Int)
def chs (l : List (Nat × Int)) : List Int := l.map fun u => u.2
theorem plc_len (l : List (Nat × Int)) : (plc l).length = l.length := by simp [plc]
theorem chs_len (l : List (Nat × Int)) : (chs l).length = l.length := by simp [chs]

/-- Are all units characters? -/
def good (l : List (Nat × Int)) : Bool := l.all fun u => decide (0 ≤ u.2)
def dErr (l : List (Nat × Int)) : Int := if good l then 0 else 20
def dList (l : List (Nat × Int)) : List Int := if good l then chs l else []
set_option maxHeartbeats 4000000 in
set_option maxRecDepth 1000000 in
theorem decode_c (s : ByteArray) (w : World) (hs : s.size ≤ 1099511627776) :
    Calls Try.prog 44 #[.string s] w fun e w' => ∃ v, e = .returned (.tuple #[v, .int .i64 (dErr (us s))]) ∧ w'.ownsRow w.heap.size 3 1 v (dList (us s)).length (ints (dList (us s))) ∧ Below w.heap.size w w' := by
  obtain ⟨t0, hi, hz0, hz1, hz2⟩ := info_parts size_int
  go_enter Try.func44, Try.ntmps44
  go_wp2
  go_loopw [4] (fun t wr => ∃ (pos f : Nat) (acc : List (Nat × Int)), RI5 s w w.heap.size pos 3 t acc.length (ints (chs acc)) wr ∧ acc ++ uFrom s f pos = us s ∧ good acc = true ∧ s.size ≤ pos + f ∧ acc.length ≤ pos) (fun _ wr => s.size - wr.iterPos w.heap.size)
  case atStart => exact ⟨0, s.size, [], ⟨Nat.le_refl _, World.iter_heap w s 0, World.ownsRow_nil _ _ _ _, (Below.refl _ w).alloc (Nat.le_refl _) _⟩, rfl, rfl, by omega, by simp⟩
  case round =>
    obtain ⟨pos, f, acc, hR, hacc, hgd, hfu, hap⟩ := hrel
    obtain ⟨q, c, rfl⟩ := ownsRow_shape hR.own
    have R : Hid _ := hR
    have A : Hid (acc ++ uFrom s f pos = us s) := hacc
    have G : Hid (good acc = true) := hgd
    have hit := hR.it
    have hsz := hR.len
    clear hR hacc hgd
    by_cases hp : pos < s.size
    · obtain ⟨W2, hW2⟩ : ∃ W2, wr.iterAt w.heap.size s (pos + wd s pos) = W2 := ⟨_, rfl⟩
      have hnx : ∀ ty, (Instr.next (.pointer (some ⟨w.heap.size, 0, none⟩)) true ty).run Try.prog wr = .ok (.tuple #[.bool true, .int .i64 (pos : Int), .int .i32 ((Utf8.decode s pos).1 : Int)]) W2 := fun ty => by rw [← hW2]; exact Lib.run_next_any_at wr w.heap.size s pos ty hit hp
      have R2 : Hid (RI5 s w w.heap.size (pos + wd s pos) 3 (.slice q acc.length c) acc.length (ints (chs acc)) W2) := by rw [← hW2]; exact R.out.next (pos + wd s pos)
      clear hW2
      obtain ⟨f, rfl⟩ : ∃ g, f = g + 1 := ⟨f - 1, by omega⟩
      have A2 := A.out
      rw [uFrom_more s f pos hp] at A2
      have A3 : Hid (acc ++ ((pos, ch s pos) :: uFrom s f (pos + wd s pos)) = us s) := A2
      have hw := wd_pos s pos
      have hwd := (wd_le s pos hp).2
      have I : Hid (wr.heap[w.heap.size]? = some (.stringIter s pos)) := hit
      have hc := broken_c s pos
      have hdl := dec_le s pos
      clear A2 hit
      have hsz2 := R2.out.len
      rcases hb : bad s pos with _ | _
      · have e1 : Hid (ch s pos = (Utf8.decode s pos).1) := ch_good hb
        obtain ⟨r, hr⟩ : ∃ r, (Utf8.decode s pos).1 = r := ⟨_, rfl⟩
        rw [hr] at hnx hc hdl
        have e2' : ch s pos = (r : Int) := by rw [e1.out, hr]
        have e2 : Hid (ch s pos = (r : Int)) := e2'
        clear e2'
        clear hr
        have hwr : IntKind.wrap .i64 (r : Int) = (r : Int) := wrap_small _ (by omega) (by omega)
        go_wp2_with first
          | (go_at_call 60; (with_reducible refine (hc _ hp).mono ?_); rw [hb]; rintro e w5 ⟨rfl, h5⟩; subst w5)
          | (at_builtin; refine wpList_append_own_at _ rfl _ _ 56 rfl w.heap.size 3 t0 (.int .i64 0) 1 8 und_ints hi hz0 hz1 hz2 rfl (by decide) (.slice q acc.length c) acc.length (ints (chs acc)) rfl (World.ownsRow.alloc R2.out.own (.cells #[.int .i64 (r : Int)] 3)) ⟨W2.heap.size, 0, none⟩ 1 1 [.int .i64 (r : Int)] rfl rfl (news1 _ _ _) (by simp [Value.oneCell']) (by unfold maxLen; omega) (by omega) (by simp; omega) ?_; intro v' w6 hown' hgrow _ hblk; obtain ⟨g6, cap6, rfl⟩ := ownsRow_some hown' (Nat.succ_pos _); have R6 : Hid (RI5 s w w.heap.size (pos + wd s pos) 3 (.slice (some ⟨g6, 0, none⟩) (acc.length + 1) cap6) (acc.length + 1) (ints (chs acc) ++ [.int .i64 (r : Int)]) w6) := R2.out.app hown' hgrow; clear hown' hgrow hblk)
        go_roundw
        case rel =>
          refine ⟨pos + wd s pos, f, acc ++ [(pos, ch s pos)], ?_, by rw [← A3.out]; simp, ?_, by omega, by simp; omega⟩
          · have := R6.out
            rw [List.length_append, List.length_singleton, chs, List.map_append, ints_append]
            simp only [List.map_cons, List.map_nil, e2.out]
            exact this
          · have := G.out
            simp only [good, List.all_append, Bool.and_eq_true] at this ⊢
            refine ⟨this, ?_⟩
            simp [e2.out]
        case measure =>
          simp only [World.iterPos, R6.out.it, I.out]
          omega
      · have e1 : Hid _ := ch_bad hb
        go_wp2_with (go_at_call 60; (with_reducible refine (hc _ hp).mono ?_); rw [hb]; rintro e w5 ⟨rfl, h5⟩; subst w5)
        go_ret2
        have hn : good (us s) = false := by
          rw [← A3.out]
          simp [good, e1.out.1]
        have d1 : dErr (us s) = 20 := by rw [dErr, hn]; rfl
        have d2 : dList (us s) = [] := by rw [dList, hn]; rfl
        rw [d1, d2]
        exact ⟨_, rfl, World.ownsRow_nil _ _ _ _, R2.out.bel⟩
    · have hnx : ∀ ty, (Instr.next (.pointer (some ⟨w.heap.size, 0, none⟩)) true ty).run Try.prog wr = _ := fun ty => Lib.run_next_end_at wr w.heap.size s pos ty hit hp
      have A2 := A.out
      rw [uFrom_end s f pos hp, List.append_nil] at A2
      have A3 : Hid (acc = us s) := A2
      clear hit A2
      go_wp2
      go_ret2
      have hG : good (us s) = true := by rw [← A3.out]; exact G.out
      have d1 : dErr (us s) = 0 := by rw [dErr, hG]; rfl
      have d2 : dList (us s) = chs acc := by rw [dList, hG, ← A3.out]; rfl
      rw [d1, d2, chs_len]
      exact ⟨_, rfl, R.out.own, R.out.bel⟩
end Go.Proofs.Ytlodjinejeajcab
namespace Go.Proofs.Ytlodjinejeajcab
open Go Go.RowKit

/-- The numbers of a character. -/
def oneP (f : Bool) (c : Int) (x : Int) : Prop := if f = true then foldP [(c, c)] x else x = c
/-- What the node of a character is. -/
def EC (f : Bool) (c : Int) (E : Er) : Prop := ∃ C, E = .mk 2 0 0 0 C [] ∧ IsC C (oneP f c)
theorem EC.one {f : Bool} {c : Int} {E E' : Er} (h : EC f c E) (k : EC f c E') : E = E' := by
  obtain ⟨C, rfl, h1⟩ := h
  obtain ⟨D, rfl, k1⟩ := k
  rw [h1.one k1 (fun _ => Iff.rfl)]
def setT (C : List (Int × Int)) (q : Option Addr) (k : Nat) : Tr := .mk ⟨2, 0, 0, 0, C, q, k, none, 0, 0⟩ []
theorem setT_ta {W : World} {base : Nat} {C : List (Int × Int)} {q : Option Addr} {k : Nat} (h : RR base W (.slice q C.length k) C) (hf : Fit C) (hl : C.length ≤ 1000) : TA W (setT C q k) ∧ Foot (fun i => base ≤ i) (setT C q k) := by
  refine ⟨(every_eq _).2 ⟨⟨h.arg, .inl ⟨none, 0, rfl, rfl, fun _ => rfl⟩, hf, ?_⟩, (everyL_iff _).2 fun u hu => by cases hu⟩, (every_eq _).2 ⟨⟨fun a e hz => ?_, fun a e => (by cases e)⟩, (everyL_iff _).2 fun u hu => by cases hu⟩⟩
  · show C.length + 3 ≤ _; omega
  · have e' : q = some a := e
    exact (ownsRow_at h (g := a.block) (by rw [e']; rfl)).1
theorem lit_rr8 (W : World) (L : List (Int × Int)) (hl : L.length ≤ 1000) : RR W.heap.size (W.alloc (.cells (cellsR L).toArray 55)) (.slice (some ⟨W.heap.size, 0, none⟩) L.length L.length) L := by
  have := World.ownsRow_lit (base := W.heap.size) (e := 55) (size := 2) W (cellsR L).toArray L.length (Nat.le_refl _) (by unfold maxLen; omega) (by simp [cellsR_length])
  exact this
theorem one_is (c : Int) (hc : 0 ≤ c ∧ c ≤ 1114111) : IsC [(c, c)] (fun x => x = c) := by
  refine ⟨⟨fun r hr => ?_, List.pairwise_singleton _ _⟩, fit_one (by omega), fun x => ?_⟩
  · simp at hr; subst hr; exact Int.le_refl _
  · constructor
    · rintro ⟨r, hr, h1, h2⟩; simp at hr; subst hr; simp at h1 h2; omega
    · rintro rfl; exact ⟨_, List.mem_cons_self, Int.le_refl _, Int.le_refl _⟩
theorem ret_char {R : Ending → World → Prop} {a : Act} {W : World} {b : Nat} {f : Fl} (h : Six W b 0 f) (ha : a.tmps[4]?.getD undef = .pointer (some ⟨b, 0, none⟩)) (hd : a.defers = []) (hR : R (.returned (.agg #[.int .i64 f.k, .int .i64 f.n, .int .i64 f.mn, .int .i64 f.mx, .slice f.rq f.rs.length f.rc, .slice f.kq f.kl f.kc])) W) : bodyPost Try.prog Try.f29 R .ret a W := by
  obtain ⟨z0, z1, z2, z3, z4, z5⟩ := h
  simp only [Nat.zero_add] at z1 z2 z3 z4 z5
  refine bodyPost_ret (v := .agg #[.int .i64 f.k, .int .i64 f.n, .int .i64 f.mn, .int .i64 f.mx, .slice f.rq f.rs.length f.rc, .slice f.kq f.kl f.kc]) ?_ hd hR
  simp [results, Try.results29, go_sem, ha, z0, z1, z2, z3, z4, z5]
/-- A call that makes the node of a character. -/
def MkC (w : World) (f : Bool) (c : Int) (e : Ending) (w' : World) : Prop := ∃ t', e = .returned (.agg #[.int .i64 t'.f.k, .int .i64 t'.f.n, .int .i64 t'.f.mn, .int .i64 t'.f.mx, .slice t'.f.rq t'.f.rs.length t'.f.rc, .slice t'.f.kq t'.f.kl t'.f.kc]) ∧ TA w' t' ∧ EC f c (er t') ∧ Foot (fun k => w.heap.size ≤ k) t' ∧ Below w.heap.size w w'
set_option maxRecDepth 100000 in
set_option maxHeartbeats 4000000 in
theorem character_c {w : World} (c : Int) (hc : 0 ≤ c ∧ c ≤ 1114111) (ch f : Bool) : Calls Try.prog 29 #[.int .i64 c, .agg #[.bool ch, .bool f]] w (MkC w f c) := by
  have HC := hide hc
  go_enter Try.func29, Try.ntmps29
  go_upto_region 2 with fail
  have B1 : Below w.heap.size w (((w.alloc (.cells #[.bool ch, .bool f] 34)).alloc (.cells #[.int .i64 0, .int .i64 0, .int .i64 0, .int .i64 0, .slice none 0 0, .slice none 0 0] 25)).alloc (.cells #[.int .i64 c, .int .i64 c] 55)) := (((Below.refl _ _).alloc (Nat.le_refl _) _).alloc (by simp) _).alloc (by simp; omega) _
  have M1 : (((w.alloc (.cells #[.bool ch, .bool f] 34)).alloc (.cells #[.int .i64 0, .int .i64 0, .int .i64 0, .int .i64 0, .slice none 0 0, .slice none 0 0] 25)).alloc (.cells #[.int .i64 c, .int .i64 c] 55)).heap[w.heap.size]? = some (.cells #[.bool ch, .bool f] 34 (0, 0)) := (Below.heap_alloc _ _ _ (by simp; omega)).trans ((Below.heap_alloc _ _ _ (by simp)).trans (alloc_new w _))
  have Z1 : (((w.alloc (.cells #[.bool ch, .bool f] 34)).alloc (.cells #[.int .i64 0, .int .i64 0, .int .i64 0, .int .i64 0, .slice none 0 0, .slice none 0 0] 25)).alloc (.cells #[.int .i64 c, .int .i64 c] 55)).heap[w.heap.size + 1]? = some (.cells #[.int .i64 0, .int .i64 0, .int .i64 0, .int .i64 0, .slice none 0 0, .slice none 0 0] 25 (0, 0)) := (Below.heap_alloc _ _ _ (by simp)).trans (by
    have := alloc_new (w.alloc (.cells #[.bool ch, .bool f] 34)) (.cells #[.int .i64 0, .int .i64 0, .int .i64 0, .int .i64 0, .slice none 0 0, .slice none 0 0] 25)
    rwa [World.size_alloc] at this)
  have R1 : RR (w.heap.size + 1 + 1) (((w.alloc (.cells #[.bool ch, .bool f] 34)).alloc (.cells #[.int .i64 0, .int .i64 0, .int .i64 0, .int .i64 0, .slice none 0 0, .slice none 0 0] 25)).alloc (.cells #[.int .i64 c, .int .i64 c] 55)) (.slice (some ⟨w.heap.size + 1 + 1, 0, none⟩) [(c, c)].length 1) [(c, c)] := (by
    have := lit_rr8 ((w.alloc (.cells #[.bool ch, .bool f] 34)).alloc (.cells #[.int .i64 0, .int .i64 0, .int .i64 0, .int .i64 0, .slice none 0 0, .slice none 0 0] 25)) [(c, c)] (by simp)
    rwa [World.size_alloc, World.size_alloc] at this)
  generalize (((w.alloc (.cells #[.bool ch, .bool f] 34)).alloc (.cells #[.int .i64 0, .int .i64 0, .int .i64 0, .int .i64 0, .slice none 0 0, .slice none 0 0] 25)).alloc (.cells #[.int .i64 c, .int .i64 c] 55)) = W1 at B1 M1 Z1 R1 ⊢
  obtain ⟨bz, hbz⟩ : ∃ bz, w.heap.size + 1 = bz := ⟨_, rfl⟩
  rw [hbz] at Z1 R1 ⊢
  have m1 := cell_row M1 (i := 1) rfl
  have HB := hide B1
  have HZ := hide Z1
  have HR := hide R1
  have hwz : w.heap.size ≤ bz := by omega
  clear B1 M1 Z1 R1 hc hbz
  cases f with
  | false =>
    have L9 := hide (laid_res (setT_ta HR.out (one_is c HC.out).fit (by simp)).1 ((setT_ta HR.out (one_is c HC.out).fit (by simp)).2.mono (fun k hk => hk)) HZ.out)
    have X9 := hide L9.out.1
    have r0 := cell_row HZ.out (i := 0) rfl
    have r1 := cell_row HZ.out (i := 1) rfl
    have r2 := cell_row HZ.out (i := 2) rfl
    have r3 := cell_row HZ.out (i := 3) rfl
    have r4 := cell_row HZ.out (i := 4) rfl
    have r5 := cell_row HZ.out (i := 5) rfl
    have fz := fun z => frz_row HZ.out z
    unfold put6 at X9
    go_wp2
    refine ret_char (f := (setT [(c, c)] (some ⟨bz + 1, 0, none⟩) 1).f) X9.out rfl rfl ?_
    exact ⟨setT [(c, c)] (some ⟨bz + 1, 0, none⟩) 1, rfl, L9.out.2.1, ⟨_, by rw [er_eq]; rfl, (one_is c HC.out).to (fun x => by simp [oneP])⟩, (setT_ta HR.out (one_is c HC.out).fit (by simp)).2.mono (fun k hk => by omega), chainF HB.out L9.out.2.2 (Nat.le_refl _) (fun k e => by omega)⟩
  | true =>
    have FC := hide (fold_c HR.out.arg (one_is c HC.out).fit (by simp))
    go_upto_region 4 with (go_at_call 45; refine (FC.out).mono ?_; rintro e w5 ⟨v5, C, rfl, h51, h52, h53, h54⟩; obtain ⟨q5, k5, rfl⟩ := h51.shape; have X5 := hide h51; have I5 := hide h52; have B5 := hide h54; have hl5 : C.length ≤ 1000 := (by simp at h53; omega); clear h51 h52 h53 h54)
    have Z5 : w5.heap[bz]? = some (.cells #[.int .i64 0, .int .i64 0, .int .i64 0, .int .i64 0, .slice none 0 0, .slice none 0 0] 25 (0, 0)) := (B5.out.block _ (lt_of_heap HZ.out)).trans HZ.out
    have hz1 := lt_of_heap HZ.out
    have L9 := hide (laid_res (setT_ta X5.out I5.out.fit hl5).1 ((setT_ta X5.out I5.out.fit hl5).2.mono (fun k hk => by omega)) Z5)
    have X9 := hide L9.out.1
    have r0 := cell_row Z5 (i := 0) rfl
    have r1 := cell_row Z5 (i := 1) rfl
    have r2 := cell_row Z5 (i := 2) rfl
    have r3 := cell_row Z5 (i := 3) rfl
    have r4 := cell_row Z5 (i := 4) rfl
    have r5 := cell_row Z5 (i := 5) rfl
    have fz := fun z => frz_row Z5 z
    unfold put6 at X9
    clear Z5
    go_wp2
    refine ret_char (f := (setT C q5 k5).f) X9.out rfl rfl ?_
    exact ⟨setT C q5 k5, rfl, L9.out.2.1, ⟨C, by rw [er_eq]; rfl, I5.out.to (fun x => by simp [oneP])⟩, (setT_ta X5.out I5.out.fit hl5).2.mono (fun k hk => by have := HB.out.size; omega), chainF (chain HB.out B5.out (Nat.le_refl _)) L9.out.2.2 (Nat.le_refl _) (fun k e => by omega)⟩
end Go.Proofs.Ytlodjinejeajcab
namespace Go.Proofs.Ytlodjinejeajcab
open Go Go.RowKit

theorem ints_set8 (V : List Int) (i : Nat) (x : Int) : ints (V.set i x) = (ints V).set i (.int .i64 x) := by simp [ints, List.map_set]
theorem ownsRow_set8 {w : World} {base : Nat} {g c n : Nat} {A : List Int} (h : w.ownsRow base 3 1 (.slice (some ⟨g, 0, none⟩) n c) n (ints A)) (j : Nat) (x : Int) : (w.setCell ⟨g, j, none⟩ (.int .i64 x)).ownsRow base 3 1 (.slice (some ⟨g, 0, none⟩) n c) n (ints (A.set j x)) := by
  rcases h with ⟨h1, ⟨q, _⟩ | ⟨g', cap, cur, q1, q2, q3, q4, q5, q6, q7⟩⟩
  · cases q
  · cases q1
    refine ⟨by rw [ints_set8, List.length_set]; exact h1, .inr ⟨g, c, cur.setIfInBounds j (.int .i64 x), rfl, q2, heap_set_in q3 j _, q4, q5, by simpa using q6, ?_⟩⟩
    rw [ints_set8, ← q7, Array.toList_setIfInBounds, List.take_set]
theorem made_ints (n : Nat) : (madeCells (Value.int .i64 0).cells (n * 1)).toList = ints (List.replicate n 0) := by
  refine List.ext_getElem (by simp [madeCells, ints]) fun i h1 h2 => ?_
  simp [madeCells, ints, Value.cells, Nat.mod_one]
/-- The bytes of a text. -/
def byL (s : ByteArray) : List Int := s.data.toList.map fun b => (b.toNat : Int)
theorem byL_len (s : ByteArray) : (byL s).length = s.size := by simp [byL]
def litE (ch : Bool) (s : ByteArray) : Int := if ch then dErr (us s) else 0
def litL (ch : Bool) (s : ByteArray) : List Int := if ch then dList (us s) else byL s

set_option maxRecDepth 1000000 in
set_option maxHeartbeats 4000000 in
theorem characters_c (s : ByteArray) (w : World) (ch f : Bool) (hs : s.size ≤ 1000000) :
    Calls Try.prog 28 #[.string s, .agg #[.bool ch, .bool f]] w fun e w' => ∃ v, e = .returned (.tuple #[v, .int .i64 (litE ch s)]) ∧ w'.ownsRow w.heap.size 3 1 v (litL ch s).length (ints (litL ch s)) ∧ Below w.heap.size w w' := by
  have M1 := alloc_new w (.cells #[.bool ch, .bool f] 34)
  have B1 : Hid (Below w.heap.size w (w.alloc (.cells #[.bool ch, .bool f] 34))) := (Below.refl _ _).alloc (Nat.le_refl _) _
  have m0 := cell_row M1 (i := 0) rfl
  clear M1
  cases ch with
  | true =>
    have DC := hide (fun W => decode_c s W (by omega))
    go_enter Try.func28, Try.ntmps28
    go_wp2_with (go_at_call 44; (with_reducible refine (DC.out _).mono ?_); rintro e w5 ⟨v5, rfl, h51, h52⟩; obtain ⟨q5, k5, rfl⟩ := ownsRow_shape h51; have O5 := hide h51; have B5 := hide h52; clear h51 h52)
    refine bodyPost_ret (v := .tuple #[.slice q5 (dList (us s)).length k5, .int .i64 (dErr (us s))]) (by simp [results, Try.results28, go_sem]) rfl ?_
    exact ⟨_, rfl, ownsRow_mono O5.out B1.out.size, chain B1.out B5.out (Nat.le_refl _)⟩
  | false =>
    obtain ⟨t0, hi, hz0, hz1, hz2⟩ := info_parts size_int
    have hmx : s.size ≤ maxLen := by unfold maxLen; omega
    have hs0 : (s.size : Int) ≤ 1000000 := by omega
    go_enter Try.func28, Try.ntmps28
    go_wp2_with (at_make; refine wpList_make_full _ rfl _ _ 56 rfl w.heap.size 3 t0 (.int .i64 0) 1 und_ints hi hz0 hz1 .i64 .i64 (s.size : Int) (s.size : Int) s.size rfl rfl rfl rfl (by rw [hz2]; omega) hmx B1.out.size ?_; intro w5 hown5 hg5; rw [made_ints] at hown5; have O5 := hide hown5; have B5 : Hid (Below w.heap.size w w5) := bel_grown (B := w.heap.size) B1.out (Nat.le_refl _) (Nat.le_refl _) hg5 (fun r hr => by cases hr); clear hown5 hg5)
    obtain ⟨g, hg⟩ : ∃ g, w.heap.size + 1 = g := ⟨_, rfl⟩
    rw [World.size_alloc] at O5
    rw [hg] at O5 ⊢
    have hwg : w.heap.size ≤ g := by omega
    clear m0 hg
    go_loopw [19] (fun i wr => ∃ j : Nat, j ≤ s.size ∧ i = .int .i64 (j : Int) ∧ wr.ownsRow w.heap.size 3 1 (.slice (some ⟨g, 0, none⟩) s.size s.size) s.size (ints ((byL s).take j ++ List.replicate (s.size - j) 0)) ∧ Below w.heap.size w wr) (fun i _ => s.size - (intOf i).toNat)
    case atStart => exact ⟨0, Nat.zero_le _, rfl, by simpa using O5.out, B5.out⟩
    case round =>
      clear O5 B5
      obtain ⟨j, hj, rfl, hj1, hj2⟩ := hrel
      have HR := hide hj1
      have HB := hide hj2
      clear hj1 hj2
      by_cases hjl : j < s.size
      · have e0 : (j : Int) < (s.size : Int) := by omega
        obtain ⟨-, -, cur, hcur⟩ := ownsRow_at HR.out (g := g) rfl
        have fz := frz_row hcur j
        have hcell : ∃ u, wr.cell? ⟨g, j, none⟩ = some u := ⟨_, ownsRow_cell HR.out (j := j) (List.getElem?_eq_getElem (by rw [HR.out.1]; omega))⟩
        obtain ⟨u, hu⟩ := hcell
        clear hcur
        have hb : (byL s)[j]? = some (s[j].toNat : Int) := by
          simp only [byL, List.getElem?_map]
          rw [List.getElem?_eq_getElem (by simpa using hjl)]
          rfl
        have hwr : wrap64 (s[j].toNat : Int) = (s[j].toNat : Int) := by
          have := s[j].toNat_lt
          unfold wrap64; omega
        have HS := hide (show (wr.setCell ⟨g, j, none⟩ (.int .i64 (wrap64 (s[j].toNat : Int)))).ownsRow w.heap.size 3 1 (.slice (some ⟨g, 0, none⟩) s.size s.size) s.size (ints ((byL s).take (j + 1) ++ List.replicate (s.size - (j + 1)) 0)) by
          rw [hwr]
          have h1 := ownsRow_set8 HR.out j (s[j].toNat : Int)
          have hl : ((byL s).take j).length = j := by rw [List.length_take, byL_len]; omega
          rw [List.set_append_right _ _ (by omega), hl, Nat.sub_self, show s.size - j = (s.size - (j + 1)) + 1 by omega, List.replicate_succ, List.set_cons_zero] at h1
          rw [List.take_add_one, hb, List.append_assoc]
          exact h1)
        have HB2 := hide (chainF HB.out ((Fr.refl (fun z => z = g) wr).setCell (p := ⟨g, j, none⟩) rfl (.int .i64 (wrap64 (s[j].toNat : Int)))) (Nat.le_refl _) (fun k e => by omega))
        clear hwr hb
        go_wp2
        go_roundw
        case rel => exact ⟨j + 1, by omega, by go_num, HS.out, HB2.out⟩
        case measure => simp only [intOf]; omega
      · have e0 : ¬ (j : Int) < (s.size : Int) := by omega
        have HS := hide (show wr.ownsRow w.heap.size 3 1 (.slice (some ⟨g, 0, none⟩) s.size s.size) (byL s).length (ints (byL s)) by
          have h1 := HR.out
          rw [List.take_of_length_le (by rw [byL_len]; omega), show s.size - j = 0 by omega, List.replicate_zero, List.append_nil] at h1
          rw [byL_len]
          exact h1)
        clear HR
        go_wp2
        refine bodyPost_ret (v := .tuple #[.slice (some ⟨g, 0, none⟩) s.size s.size, .int .i64 0]) (by simp [results, Try.results28, go_sem]) rfl ?_
        exact ⟨_, rfl, HS.out, HB.out⟩
end Go.Proofs.Ytlodjinejeajcab
