/-
  What is told of a text: escapes; what is told as it is.
-/
import Derived.Test.YtihmnibopeljaaaDoorEnc
import Derived.Laws.BitsAllLaws
namespace Go.Proofs.YtihmnibopeljaaaDoor
open Go Go.RowKit

theorem size_u8 : (Tryd.prog.info? 5).map (fun i => (i.zero, i.size, i.bytes)) = some (some (.int .u8 0), 1, 1) := by kernel_rfl
theorem und_u8s : Tryd.prog.underlying 60 = some (.slice 5) := by kernel_rfl

/-- The digits. -/
def digs : ByteArray := ⟨#[48, 49, 50, 51, 52, 53, 54, 55, 56, 57, 97, 98, 99, 100, 101, 102]⟩
def hexd (n : Nat) : UInt8 := digs.get! n
def escB (b : UInt8) : List UInt8 := [92, 120, hexd (b.toNat / 16), hexd (b.toNat % 16)]
def escs (l : List UInt8) : List UInt8 := l.flatMap escB
theorem escs_app (a b : List UInt8) : escs (a ++ b) = escs a ++ escs b := by simp [escs]
theorem escs_len (l : List UInt8) : (escs l).length = 4 * l.length := by
  induction l with
  | nil => rfl
  | cons a t ih => simp only [escs, List.flatMap_cons, List.length_append, List.length_cons] at ih ⊢; rw [ih]; simp [escB]; omega
theorem digs_at {n : Nat} (h : n < 16) : digs[n]'h = hexd n := by
  unfold hexd
  rw [ByteArray.get!, getElem!_pos digs.data n h]; rfl

/-- A row of bytes, of one's own. -/
abbrev OB (base : Nat) (w : World) (v : Value) (l : List UInt8) : Prop := w.ownsRow base 5 1 v l.length (Lib.byteCells l)
theorem bytesRow_get (u : ByteArray) (cap k : Nat) (h : k < u.size) : (bytesRow u cap)[k]? = some (.int .u8 ((u.data.toList[k]'(by rw [size_list]; exact h)).toNat : Int)) := by
  have := bytesRow_at u cap k (by rw [← ByteArray.size]; exact h)
  simpa using this
theorem news4 (W : World) (a b c d : Value) (t : TypeId) : ∀ (j : Nat) (u : Value), [a, b, c, d][j]? = some u → (W.alloc (.cells #[a, b, c, d] t)).cell? ((⟨W.heap.size, 0, none⟩ : Addr).add j) = some u := by
  intro j u h
  match j, h with
  | 0, h => simp at h; subst h; simp [Addr.add]
  | 1, h => simp at h; subst h; simp [Addr.add]
  | 2, h => simp at h; subst h; simp [Addr.add]
  | 3, h => simp at h; subst h; simp [Addr.add]

/-- What a list of one's own may change. -/
def ow (v : Value) (z : Nat) : Prop := v.ownBlock = some z
theorem fr_move {w wr w6 : World} {v t : Value} (F : Fr (ow v) w wr) (M : moved v t w.heap.size) (K : Fr (ow t) wr w6) : Fr (ow v) w w6 :=
  ⟨K.os.trans F.os, K.tape.trans F.tape, K.output.trans F.output, Nat.le_trans F.size K.size, fun i hi hs => (K.block i (Nat.lt_of_lt_of_le hi F.size) (fun q => hs (moved_in M hi q))).trans (F.block i hi hs)⟩
theorem moved_new {v v' : Value} {n m : Nat} (h : v'.ownBlock = v.ownBlock ∨ v'.ownBlock = some m) (hm : n ≤ m) : moved v v' n := by
  rcases h with h | h
  · exact .inl h
  · exact .inr (.inr ⟨m, hm, h⟩)

set_option maxHeartbeats 4000000 in
set_option maxRecDepth 1000000 in
theorem addEscapes_c {base : Nat} {w : World} {v : Value} {a : List UInt8} (u : ByteArray) (h : OB base w v a) (hu : u.size ≤ 4) (ha : a.length ≤ 70368744177664) (hbase : base ≤ w.heap.size) :
    Calls Tryd.prog 38 #[v, .string u] w fun e w' => ∃ v', e = .returned v' ∧ OB base w' v' (a ++ escs u.data.toList) ∧ Fr (ow v) w w' ∧ moved v v' w.heap.size := by
  obtain ⟨t0, hi, hz0, hz1, hz2⟩ := info_parts size_u8
  have H : Hid (OB base w v a) := h
  have hcv := run_bytes_of_string (P := Tryd.prog) w 9 60 5 u Tryd.underlying9 Tryd.underlying60 Tryd.underlying5
  obtain ⟨cap, hcap⟩ : ∃ cap, grownCap w u.size 0 5 = cap := ⟨_, rfl⟩
  rw [hcap] at hcv
  obtain ⟨o8, ho8⟩ : ∃ o, Obj.cells (bytesRow u cap) 5 ((bytesRow u cap).size, (bytesRow u cap).size + 1) = o := ⟨_, rfl⟩
  rw [ho8] at hcv
  have HO : Hid (Obj.cells (bytesRow u cap) 5 ((bytesRow u cap).size, (bytesRow u cap).size + 1) = o8) := ho8
  clear hcap ho8 h
  obtain ⟨q, c, rfl⟩ := ownsRow_shape H.out
  go_enter Tryd.func38, Tryd.ntmps38
  go_wp2
  go_loopw [0, 10] (fun t i wr => ∃ k : Nat, k ≤ u.size ∧ i = .int .i64 (k : Int) ∧ OB base wr t (a ++ escs (u.data.toList.take k)) ∧ Fr (ow (Value.slice q a.length c)) w wr ∧ moved (.slice q a.length c) t w.heap.size ∧ t.ownBlock ≠ some w.heap.size ∧ wr.heap[w.heap.size]? = some o8) (fun _ i _ => u.size - (intOf i).toNat)
  case atStart =>
    refine ⟨0, Nat.zero_le _, rfl, by have := World.ownsRow.drew (World.ownsRow.alloc H.out o8); simpa [escs] using this, ((Fr.refl _ w).alloc _).drew, moved.refl _ _, fun e => ?_, alloc_new w o8⟩
    have := (ownsRow_at H.out e).2.1
    omega
  case round =>
    obtain ⟨k, hk, rfl, hO, hF, hM, hN, hG⟩ := hrel
    obtain ⟨qr, cr, rfl⟩ := ownsRow_shape hO
    have O : Hid _ := hO
    have F : Hid _ := hF
    have M : Hid _ := hM
    have N : Hid _ := hN
    have G : Hid _ := hG
    have hlen : (a ++ escs (u.data.toList.take k)).length = a.length + 4 * k := by
      rw [List.length_append, escs_len, List.length_take, size_list]; omega
    have hsz := hF.size
    have hgs := lt_of_heap hG
    clear hO hF hM hN hG
    rw [hlen] at O N M ⊢
    by_cases hlt : k < u.size
    · obtain ⟨b, hb⟩ : ∃ b, u.data.toList[k]'(by rw [size_list]; exact hlt) = b := ⟨_, rfl⟩
      have hcell : wr.cell? ⟨w.heap.size, k, none⟩ = some (.int .u8 (b.toNat : Int)) := by
        have := bytesRow_get u cap k hlt
        rw [hb] at this
        have e := G.out
        rw [← HO.out] at e
        simp [World.cell?, e, this]
      have htk : Hid (u.data.toList.take (k + 1) = u.data.toList.take k ++ [b]) := by
        show u.data.toList.take (k + 1) = u.data.toList.take k ++ [b]
        rw [← hb]
        exact take_next _ k (by rw [size_list]; exact hlt)
      clear hb
      have i0 : (0 : Int) ≤ (k : Int) := by omega
      have i1 : (k : Int) < (u.size : Int) := by omega
      have hwr : IntKind.wrap .i64 ((k : Int) + 1) = (k : Int) + 1 := wrap_small _ (by omega) (by omega)
      have hbl : b.toNat < 256 := b.toNat_lt
      obtain ⟨x, hx⟩ : ∃ x, b.toNat / 16 = x := ⟨_, rfl⟩
      obtain ⟨y, hy⟩ : ∃ y, b.toNat % 16 = y := ⟨_, rfl⟩
      have hxl : x < 16 := by omega
      have hyl : y < 16 := by omega
      have e16 : (b.toNat : Int) / 16 = (x : Int) := by omega
      have eand : bits .and .u8 (b.toNat : Int) 15 = (y : Int) := by
        have := u8_and_nat b.toNat 15 hbl (by omega)
        rw [Nat.and_two_pow_sub_one_eq_mod b.toNat 4] at this
        simpa [hy] using this
      have edx : (⟨#[48, 49, 50, 51, 52, 53, 54, 55, 56, 57, 97, 98, 99, 100, 101, 102]⟩ : ByteArray)[x]'(hxl) = hexd x := digs_at hxl
      have edy : (⟨#[48, 49, 50, 51, 52, 53, 54, 55, 56, 57, 97, 98, 99, 100, 101, 102]⟩ : ByteArray)[y]'(hyl) = hexd y := digs_at hyl
      have HE : Hid (escB b = [92, 120, hexd x, hexd y]) := by
        show escB b = [92, 120, hexd x, hexd y]
        rw [escB, hx, hy]
      clear hx hy
      obtain ⟨dx, hdx⟩ : ∃ d, hexd x = d := ⟨_, rfl⟩
      obtain ⟨dy, hdy⟩ : ∃ d, hexd y = d := ⟨_, rfl⟩
      rw [hdx] at edx HE
      rw [hdy] at edy HE
      clear hdx hdy
      have x0 : (0 : Int) ≤ (x : Int) := by omega
      have x1 : (x : Int) < 16 := by omega
      have y0 : (0 : Int) ≤ (y : Int) := by omega
      have y1 : (y : Int) < 16 := by omega
      go_wp2
      go_region_law (refine step_append_at rfl _ _ 60 rfl base 5 t0 (.int .u8 0) 1 1 und_u8s hi hz0 hz1 hz2 rfl (by decide) (.slice qr (a.length + 4 * k) cr) (a.length + 4 * k) _ (by simp [Act.eval]) (World.ownsRow.drew (World.ownsRow.alloc O.out _)) ⟨wr.heap.size, 0, none⟩ 4 4 [.int .u8 92, .int .u8 120, .int .u8 (dx.toNat : Int), .int .u8 (dy.toNat : Int)] (by simp [Act.eval]) rfl (news4 _ _ _ _ _ _) (by simp [Value.oneCell']) (by unfold maxLen; omega) (by omega) (by simp; omega) ?_; intro v' w6 hown' hgrow hblk; have F6 : Hid (Fr (ow (.slice qr (a.length + 4 * k) cr)) wr w6) := (((Fr.refl _ wr).alloc _).drew).grown hgrow (fun z hz => hz); have M6 : Hid (moved (.slice qr (a.length + 4 * k) cr) v' wr.heap.size) := moved_new hblk (by simp); have O6 : Hid _ := hown'; have N6 : Hid (v'.ownBlock ≠ some w.heap.size) := (by show v'.ownBlock ≠ some w.heap.size; rcases hblk with z | z; rw [z]; exact N.out; rw [z]; intro z2; simp at z2; omega); clear hown' hgrow hblk)
      all_goals go_wp2
      all_goals
        refine ⟨⟨k + 1, by omega, by go_num, ?_, fr_move F.out M.out F6.out, moved.trans M.out M6.out hsz, N6.out, (F6.out.block _ hgs N.out).trans G.out⟩, by simp [intOf]; omega⟩
        have := O6.out
        have e : (a ++ escs (u.data.toList.take (k + 1))).length = a.length + 4 * k + 4 := by rw [htk.out, escs_app, ← List.append_assoc, List.length_append, hlen]; rfl
        show World.ownsRow _ _ _ _ _ (a ++ escs (u.data.toList.take (k + 1))).length _
        rw [e, htk.out, escs_app, ← List.append_assoc, Lib.byteCells_append (a ++ _)]
        have e2 : escs [b] = [92, 120, dx, dy] := by rw [← HE.out]; simp [escs]
        rw [e2]
        exact this
    · obtain rfl : k = u.size := by omega
      have i1 : ¬ ((u.size : Nat) : Int) < (u.size : Int) := by omega
      have O1 := O.out
      rw [List.take_of_length_le (by rw [size_list]; exact Nat.le_refl _)] at O1
      have O2 : Hid _ := O1
      clear O1
      go_wp2
      go_ret
      refine ⟨_, rfl, ?_, F.out, M.out⟩
      have e : (a ++ escs u.data.toList).length = a.length + 4 * u.size := by rw [List.length_append, escs_len, size_list]
      show World.ownsRow _ _ _ _ _ (a ++ escs u.data.toList).length _
      rw [e]
      exact O2.out
end Go.Proofs.YtihmnibopeljaaaDoor
