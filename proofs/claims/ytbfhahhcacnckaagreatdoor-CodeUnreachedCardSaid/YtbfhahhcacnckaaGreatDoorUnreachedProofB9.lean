/-
  Parts of the proof.
-/
import Derived.Test.YtbfhahhcacnckaaGreatDoorUnreachedProofB4
import Derived.Test.YtbfhahhcacnckaaGreatDoorUnreachedProofB8
set_option linter.unusedSimpArgs false
namespace Go.Proofs.YtbfhahhcacnckaaGreatDoor
open Go Go.RowKit
def orS (s : z1_S) (b : Nat) : Nat → z1_S
  | 0 => s
  | k + 1 => orS (z1_sor s (z1_sonly b)) (b + 1) k
def mdI (n : Int) (r : Rw) : Ins :=
  if pk r.op 11 = 0 then ⟨1, 0, 0, 0, 0, 0, orS 0#256 (pk r.lo 256).toNat (pk r.hi (256 - pk r.lo 256) + 1).toNat⟩
  else if pk r.op 11 = 1 then ⟨2, pk r.x n, pk r.y n, 0, 0, 0, 0#256⟩
  else if pk r.op 11 = 2 then ⟨3, pk r.x n, 0, 0, 0, 0, 0#256⟩
  else if pk r.op 11 = 9 then ⟨10, pk r.x n, pk r.y n, pk r.n 2, pk r.mn 256, if r.mx < 0 then -1 else pk r.mn 256 + pk r.mx (256 - pk r.mn 256), 0#256⟩
  else if 5 ≤ pk r.op 11 ∧ pk r.op 11 ≤ 8 then ⟨1 + pk r.op 11, 0, 0, pk r.n 2, 0, 0, 0#256⟩
  else ⟨1 + pk r.op 11, 0, 0, 0, 0, 0, 0#256⟩
def mdL (L : List Rw) : List Ins := (L.take 200).map (mdI ((min L.length 200 : Nat) + 1 : Int)) ++ [⟨11, 0, 0, 0, 0, 0, 0#256⟩]
theorem mdL_len (L : List Rw) : (mdL L).length = min L.length 200 + 1 := by simp [mdL, Nat.min_comm]
theorem pk_blw {c : Int} {n : Nat} (hn : 0 < n) : blw (pk c n) n = true := by
  have := pk_range (c := c) hn
  simp [blw]; omega
theorem pk_rbd (a b : Int) : rbd (pk a 256) (if b < 0 then -1 else pk a 256 + pk b (256 - pk a 256)) = true := by
  have h := pk_range (c := a) (n := 256) (by decide)
  have e : pk a ((256 : Nat) : Int) = pk a 256 := rfl
  rw [e] at h
  obtain ⟨m, hm⟩ : ∃ m : Nat, (m : Int) = 256 - pk a 256 := ⟨(256 - pk a 256).toNat, by omega⟩
  have h2 := pk_range (c := b) (n := m) (by omega)
  rw [hm] at h2
  unfold rbd blw
  split
  · simp; omega
  · simp; omega
theorem hs_0_1 : hsT 0 1 = false := by decide
theorem hs_0_2 : hsT 0 2 = false := by decide
theorem hs_0_4 : hsT 0 4 = false := by decide
theorem hs_0_8 : hsT 0 8 = false := by decide
theorem hs_0_16 : hsT 0 16 = false := by decide
theorem hs_0_24 : hsT 0 24 = false := by decide
theorem hs_0_32 : hsT 0 32 = false := by decide
theorem hs_0_64 : hsT 0 64 = false := by decide
theorem hs_2_1 : hsT 2 1 = false := by decide
theorem hs_2_2 : hsT 2 2 = true := by decide
theorem hs_2_4 : hsT 2 4 = false := by decide
theorem hs_2_8 : hsT 2 8 = false := by decide
theorem hs_2_16 : hsT 2 16 = false := by decide
theorem hs_2_24 : hsT 2 24 = false := by decide
theorem hs_2_32 : hsT 2 32 = false := by decide
theorem hs_2_64 : hsT 2 64 = false := by decide
theorem hs_6_1 : hsT 6 1 = false := by decide
theorem hs_6_2 : hsT 6 2 = true := by decide
theorem hs_6_4 : hsT 6 4 = true := by decide
theorem hs_6_8 : hsT 6 8 = false := by decide
theorem hs_6_16 : hsT 6 16 = false := by decide
theorem hs_6_24 : hsT 6 24 = false := by decide
theorem hs_6_32 : hsT 6 32 = false := by decide
theorem hs_6_64 : hsT 6 64 = false := by decide
theorem hs_54_1 : hsT 54 1 = false := by decide
theorem hs_54_2 : hsT 54 2 = true := by decide
theorem hs_54_4 : hsT 54 4 = true := by decide
theorem hs_54_8 : hsT 54 8 = false := by decide
theorem hs_54_16 : hsT 54 16 = true := by decide
theorem hs_54_24 : hsT 54 24 = true := by decide
theorem hs_54_32 : hsT 54 32 = true := by decide
theorem hs_54_64 : hsT 54 64 = false := by decide
theorem hs_64_1 : hsT 64 1 = false := by decide
theorem hs_64_2 : hsT 64 2 = false := by decide
theorem hs_64_4 : hsT 64 4 = false := by decide
theorem hs_64_8 : hsT 64 8 = false := by decide
theorem hs_64_16 : hsT 64 16 = false := by decide
theorem hs_64_24 : hsT 64 24 = false := by decide
theorem hs_64_32 : hsT 64 32 = false := by decide
theorem hs_64_64 : hsT 64 64 = true := by decide
theorem hs_65_1 : hsT 65 1 = true := by decide
theorem hs_65_2 : hsT 65 2 = false := by decide
theorem hs_65_4 : hsT 65 4 = false := by decide
theorem hs_65_8 : hsT 65 8 = false := by decide
theorem hs_65_16 : hsT 65 16 = false := by decide
theorem hs_65_24 : hsT 65 24 = false := by decide
theorem hs_65_32 : hsT 65 32 = false := by decide
theorem hs_65_64 : hsT 65 64 = true := by decide
theorem hs_72_1 : hsT 72 1 = false := by decide
theorem hs_72_2 : hsT 72 2 = false := by decide
theorem hs_72_4 : hsT 72 4 = false := by decide
theorem hs_72_8 : hsT 72 8 = true := by decide
theorem hs_72_16 : hsT 72 16 = false := by decide
theorem hs_72_24 : hsT 72 24 = true := by decide
theorem hs_72_32 : hsT 72 32 = false := by decide
theorem hs_72_64 : hsT 72 64 = true := by decide
theorem hs_80_1 : hsT 80 1 = false := by decide
theorem hs_80_2 : hsT 80 2 = false := by decide
theorem hs_80_4 : hsT 80 4 = false := by decide
theorem hs_80_8 : hsT 80 8 = false := by decide
theorem hs_80_16 : hsT 80 16 = true := by decide
theorem hs_80_24 : hsT 80 24 = true := by decide
theorem hs_80_32 : hsT 80 32 = false := by decide
theorem hs_80_64 : hsT 80 64 = true := by decide
theorem fine_1 {p : Pg} {k n : Nat} {r : Rw} (hl : p.L.length = n) (hg : p.g = 2) (hc : p.k = 2) (hk : k + 1 < n) (h : pk r.op 11 = 0) : fineI p k (mdI n r) = true := by
  have b1 := pk_blw (c := r.x) (n := n) (by omega)
  have b2 := pk_blw (c := r.y) (n := n) (by omega)
  have b3 := pk_blw (c := r.n) (n := 2) (by decide)
  have b4 := pk_rbd r.mn r.mx
  have b5 : decide ((k : Int) + 1 < (n : Int)) = true := by simp; omega
  have e3 : pk r.n ((2 : Nat) : Int) = pk r.n 2 := rfl
  rw [e3, show ((2 : Nat) : Int) = 2 from rfl] at b3
  have e : shT 1 = 65 := by decide
  have f : (shW 1 == []) = false := by decide
  unfold mdI
  simp [h, fineI, usI, e, f, hl, hg, hc, b1, b2, b3, b4, b5, hs_65_1, hs_65_2, hs_65_4, hs_65_8, hs_65_16, hs_65_24, hs_65_32, hs_65_64]
  try omega
theorem fine_2 {p : Pg} {k n : Nat} {r : Rw} (hl : p.L.length = n) (hg : p.g = 2) (hc : p.k = 2) (hk : k + 1 < n) (h : pk r.op 11 = 1) : fineI p k (mdI n r) = true := by
  have b1 := pk_blw (c := r.x) (n := n) (by omega)
  have b2 := pk_blw (c := r.y) (n := n) (by omega)
  have b3 := pk_blw (c := r.n) (n := 2) (by decide)
  have b4 := pk_rbd r.mn r.mx
  have b5 : decide ((k : Int) + 1 < (n : Int)) = true := by simp; omega
  have e3 : pk r.n ((2 : Nat) : Int) = pk r.n 2 := rfl
  rw [e3, show ((2 : Nat) : Int) = 2 from rfl] at b3
  have e : shT 2 = 6 := by decide
  have f : (shW 2 == []) = false := by decide
  unfold mdI
  simp [h, fineI, usI, e, f, hl, hg, hc, b1, b2, b3, b4, b5, hs_6_1, hs_6_2, hs_6_4, hs_6_8, hs_6_16, hs_6_24, hs_6_32, hs_6_64]
  try omega
theorem fine_3 {p : Pg} {k n : Nat} {r : Rw} (hl : p.L.length = n) (hg : p.g = 2) (hc : p.k = 2) (hk : k + 1 < n) (h : pk r.op 11 = 2) : fineI p k (mdI n r) = true := by
  have b1 := pk_blw (c := r.x) (n := n) (by omega)
  have b2 := pk_blw (c := r.y) (n := n) (by omega)
  have b3 := pk_blw (c := r.n) (n := 2) (by decide)
  have b4 := pk_rbd r.mn r.mx
  have b5 : decide ((k : Int) + 1 < (n : Int)) = true := by simp; omega
  have e3 : pk r.n ((2 : Nat) : Int) = pk r.n 2 := rfl
  rw [e3, show ((2 : Nat) : Int) = 2 from rfl] at b3
  have e : shT 3 = 2 := by decide
  have f : (shW 3 == []) = false := by decide
  unfold mdI
  simp [h, fineI, usI, e, f, hl, hg, hc, b1, b2, b3, b4, b5, hs_2_1, hs_2_2, hs_2_4, hs_2_8, hs_2_16, hs_2_24, hs_2_32, hs_2_64]
  try omega
theorem fine_4 {p : Pg} {k n : Nat} {r : Rw} (hl : p.L.length = n) (hg : p.g = 2) (hc : p.k = 2) (hk : k + 1 < n) (h : pk r.op 11 = 3) : fineI p k (mdI n r) = true := by
  have b1 := pk_blw (c := r.x) (n := n) (by omega)
  have b2 := pk_blw (c := r.y) (n := n) (by omega)
  have b3 := pk_blw (c := r.n) (n := 2) (by decide)
  have b4 := pk_rbd r.mn r.mx
  have b5 : decide ((k : Int) + 1 < (n : Int)) = true := by simp; omega
  have e3 : pk r.n ((2 : Nat) : Int) = pk r.n 2 := rfl
  rw [e3, show ((2 : Nat) : Int) = 2 from rfl] at b3
  have e : shT 4 = 64 := by decide
  have f : (shW 4 == []) = false := by decide
  unfold mdI
  simp [h, fineI, usI, e, f, hl, hg, hc, b1, b2, b3, b4, b5, hs_64_1, hs_64_2, hs_64_4, hs_64_8, hs_64_16, hs_64_24, hs_64_32, hs_64_64]
  try omega
theorem fine_5 {p : Pg} {k n : Nat} {r : Rw} (hl : p.L.length = n) (hg : p.g = 2) (hc : p.k = 2) (hk : k + 1 < n) (h : pk r.op 11 = 4) : fineI p k (mdI n r) = true := by
  have b1 := pk_blw (c := r.x) (n := n) (by omega)
  have b2 := pk_blw (c := r.y) (n := n) (by omega)
  have b3 := pk_blw (c := r.n) (n := 2) (by decide)
  have b4 := pk_rbd r.mn r.mx
  have b5 : decide ((k : Int) + 1 < (n : Int)) = true := by simp; omega
  have e3 : pk r.n ((2 : Nat) : Int) = pk r.n 2 := rfl
  rw [e3, show ((2 : Nat) : Int) = 2 from rfl] at b3
  have e : shT 5 = 64 := by decide
  have f : (shW 5 == []) = false := by decide
  unfold mdI
  simp [h, fineI, usI, e, f, hl, hg, hc, b1, b2, b3, b4, b5, hs_64_1, hs_64_2, hs_64_4, hs_64_8, hs_64_16, hs_64_24, hs_64_32, hs_64_64]
  try omega
theorem fine_6 {p : Pg} {k n : Nat} {r : Rw} (hl : p.L.length = n) (hg : p.g = 2) (hc : p.k = 2) (hk : k + 1 < n) (h : pk r.op 11 = 5) : fineI p k (mdI n r) = true := by
  have b1 := pk_blw (c := r.x) (n := n) (by omega)
  have b2 := pk_blw (c := r.y) (n := n) (by omega)
  have b3 := pk_blw (c := r.n) (n := 2) (by decide)
  have b4 := pk_rbd r.mn r.mx
  have b5 : decide ((k : Int) + 1 < (n : Int)) = true := by simp; omega
  have e3 : pk r.n ((2 : Nat) : Int) = pk r.n 2 := rfl
  rw [e3, show ((2 : Nat) : Int) = 2 from rfl] at b3
  have e : shT 6 = 72 := by decide
  have f : (shW 6 == []) = false := by decide
  unfold mdI
  simp [h, fineI, usI, e, f, hl, hg, hc, b1, b2, b3, b4, b5, hs_72_1, hs_72_2, hs_72_4, hs_72_8, hs_72_16, hs_72_24, hs_72_32, hs_72_64]
  try omega
theorem fine_7 {p : Pg} {k n : Nat} {r : Rw} (hl : p.L.length = n) (hg : p.g = 2) (hc : p.k = 2) (hk : k + 1 < n) (h : pk r.op 11 = 6) : fineI p k (mdI n r) = true := by
  have b1 := pk_blw (c := r.x) (n := n) (by omega)
  have b2 := pk_blw (c := r.y) (n := n) (by omega)
  have b3 := pk_blw (c := r.n) (n := 2) (by decide)
  have b4 := pk_rbd r.mn r.mx
  have b5 : decide ((k : Int) + 1 < (n : Int)) = true := by simp; omega
  have e3 : pk r.n ((2 : Nat) : Int) = pk r.n 2 := rfl
  rw [e3, show ((2 : Nat) : Int) = 2 from rfl] at b3
  have e : shT 7 = 72 := by decide
  have f : (shW 7 == []) = false := by decide
  unfold mdI
  simp [h, fineI, usI, e, f, hl, hg, hc, b1, b2, b3, b4, b5, hs_72_1, hs_72_2, hs_72_4, hs_72_8, hs_72_16, hs_72_24, hs_72_32, hs_72_64]
  try omega
theorem fine_8 {p : Pg} {k n : Nat} {r : Rw} (hl : p.L.length = n) (hg : p.g = 2) (hc : p.k = 2) (hk : k + 1 < n) (h : pk r.op 11 = 7) : fineI p k (mdI n r) = true := by
  have b1 := pk_blw (c := r.x) (n := n) (by omega)
  have b2 := pk_blw (c := r.y) (n := n) (by omega)
  have b3 := pk_blw (c := r.n) (n := 2) (by decide)
  have b4 := pk_rbd r.mn r.mx
  have b5 : decide ((k : Int) + 1 < (n : Int)) = true := by simp; omega
  have e3 : pk r.n ((2 : Nat) : Int) = pk r.n 2 := rfl
  rw [e3, show ((2 : Nat) : Int) = 2 from rfl] at b3
  have e : shT 8 = 72 := by decide
  have f : (shW 8 == []) = false := by decide
  unfold mdI
  simp [h, fineI, usI, e, f, hl, hg, hc, b1, b2, b3, b4, b5, hs_72_1, hs_72_2, hs_72_4, hs_72_8, hs_72_16, hs_72_24, hs_72_32, hs_72_64]
  try omega
theorem fine_9 {p : Pg} {k n : Nat} {r : Rw} (hl : p.L.length = n) (hg : p.g = 2) (hc : p.k = 2) (hk : k + 1 < n) (h : pk r.op 11 = 8) : fineI p k (mdI n r) = true := by
  have b1 := pk_blw (c := r.x) (n := n) (by omega)
  have b2 := pk_blw (c := r.y) (n := n) (by omega)
  have b3 := pk_blw (c := r.n) (n := 2) (by decide)
  have b4 := pk_rbd r.mn r.mx
  have b5 : decide ((k : Int) + 1 < (n : Int)) = true := by simp; omega
  have e3 : pk r.n ((2 : Nat) : Int) = pk r.n 2 := rfl
  rw [e3, show ((2 : Nat) : Int) = 2 from rfl] at b3
  have e : shT 9 = 80 := by decide
  have f : (shW 9 == []) = false := by decide
  unfold mdI
  simp [h, fineI, usI, e, f, hl, hg, hc, b1, b2, b3, b4, b5, hs_80_1, hs_80_2, hs_80_4, hs_80_8, hs_80_16, hs_80_24, hs_80_32, hs_80_64]
  try omega
theorem fine_10 {p : Pg} {k n : Nat} {r : Rw} (hl : p.L.length = n) (hg : p.g = 2) (hc : p.k = 2) (hk : k + 1 < n) (h : pk r.op 11 = 9) : fineI p k (mdI n r) = true := by
  have b1 := pk_blw (c := r.x) (n := n) (by omega)
  have b2 := pk_blw (c := r.y) (n := n) (by omega)
  have b3 := pk_blw (c := r.n) (n := 2) (by decide)
  have b4 := pk_rbd r.mn r.mx
  have b5 : decide ((k : Int) + 1 < (n : Int)) = true := by simp; omega
  have e3 : pk r.n ((2 : Nat) : Int) = pk r.n 2 := rfl
  rw [e3, show ((2 : Nat) : Int) = 2 from rfl] at b3
  have e : shT 10 = 54 := by decide
  have f : (shW 10 == []) = false := by decide
  unfold mdI
  simp [h, fineI, usI, e, f, hl, hg, hc, b1, b2, b3, b4, b5, hs_54_1, hs_54_2, hs_54_4, hs_54_8, hs_54_16, hs_54_24, hs_54_32, hs_54_64]
  try omega
theorem fine_11 {p : Pg} {k n : Nat} {r : Rw} (hl : p.L.length = n) (hg : p.g = 2) (hc : p.k = 2) (hk : k + 1 < n) (h : pk r.op 11 = 10) : fineI p k (mdI n r) = true := by
  have b1 := pk_blw (c := r.x) (n := n) (by omega)
  have b2 := pk_blw (c := r.y) (n := n) (by omega)
  have b3 := pk_blw (c := r.n) (n := 2) (by decide)
  have b4 := pk_rbd r.mn r.mx
  have b5 : decide ((k : Int) + 1 < (n : Int)) = true := by simp; omega
  have e3 : pk r.n ((2 : Nat) : Int) = pk r.n 2 := rfl
  rw [e3, show ((2 : Nat) : Int) = 2 from rfl] at b3
  have e : shT 11 = 0 := by decide
  have f : (shW 11 == []) = false := by decide
  unfold mdI
  simp [h, fineI, usI, e, f, hl, hg, hc, b1, b2, b3, b4, b5, hs_0_1, hs_0_2, hs_0_4, hs_0_8, hs_0_16, hs_0_24, hs_0_32, hs_0_64]
  try omega
theorem md_fine {p : Pg} {k n : Nat} {r : Rw} (hl : p.L.length = n) (hg : p.g = 2) (hc : p.k = 2) (hk : k + 1 < n) : fineI p k (mdI n r) = true := by
  have h := pk_range (c := r.op) (n := 11) (by decide)
  have e : pk r.op ((11 : Nat) : Int) = pk r.op 11 := rfl
  rw [e] at h
  have h2 : pk r.op 11 = 0 ∨ pk r.op 11 = 1 ∨ pk r.op 11 = 2 ∨ pk r.op 11 = 3 ∨ pk r.op 11 = 4 ∨ pk r.op 11 = 5 ∨ pk r.op 11 = 6 ∨ pk r.op 11 = 7 ∨ pk r.op 11 = 8 ∨ pk r.op 11 = 9 ∨ pk r.op 11 = 10 := by omega
  rcases h2 with h | h | h | h | h | h | h | h | h | h | h
  · exact fine_1 hl hg hc hk h
  · exact fine_2 hl hg hc hk h
  · exact fine_3 hl hg hc hk h
  · exact fine_4 hl hg hc hk h
  · exact fine_5 hl hg hc hk h
  · exact fine_6 hl hg hc hk h
  · exact fine_7 hl hg hc hk h
  · exact fine_8 hl hg hc hk h
  · exact fine_9 hl hg hc hk h
  · exact fine_10 hl hg hc hk h
  · exact fine_11 hl hg hc hk h
theorem match_fine (p : Pg) (k : Nat) : fineI p k ⟨11, 0, 0, 0, 0, 0, 0#256⟩ = true := by
  have e : shT 11 = 0 := by decide
  have f : (shW 11 == []) = false := by decide
  simp [fineI, usI, e, f, hs_0_1, hs_0_2, hs_0_4, hs_0_8, hs_0_16, hs_0_24, hs_0_32, hs_0_64]
theorem fb_all {p : Pg} : ∀ {k : Nat} {L : List Ins}, (∀ (j : Nat) (i : Ins), L[j]? = some i → fineI p (k + j) i = true) → fbI p k L = none
  | _, [], _ => rfl
  | k, i :: r, h => by
    have h0 := h 0 i rfl
    rw [Nat.add_zero] at h0
    unfold fbI
    rw [if_pos h0]
    exact fb_all fun j x hj => by
      have := h (j + 1) x (by simpa using hj)
      rwa [show k + (j + 1) = k + 1 + j by omega] at this
theorem rt_made (L : List Rw) (q : Option Addr) (c : Nat) (f : Bool) : rtE ⟨q, mdL L, c, 2, 2, f⟩ = (0, 0) := by
  have hl := mdL_len L
  have hf : fbI ⟨q, mdL L, c, 2, 2, f⟩ 0 (mdL L) = none := fb_all fun j i hj => by
    rw [Nat.zero_add]
    have hjl := (List.getElem?_eq_some_iff.1 hj).1
    by_cases hm : j < min L.length 200
    · unfold mdL at hj
      rw [List.getElem?_append_left (by simp; omega), List.getElem?_map] at hj
      obtain ⟨r, -, rfl⟩ := Option.map_eq_some_iff.1 hj
      exact md_fine (p := ⟨q, mdL L, c, 2, 2, f⟩) (n := min L.length 200 + 1) hl rfl rfl (by omega)
    · unfold mdL at hj
      rw [List.getElem?_append_right (by simp; omega)] at hj
      have e : j - ((L.take 200).map (mdI ((min L.length 200 : Nat) + 1 : Int))).length = 0 := by simp; omega
      rw [e] at hj
      obtain rfl : _ = i := Option.some.inj hj
      exact match_fine _ _
  unfold rtE
  rw [if_neg (show ¬ 40000 < (mdL L).length by omega), if_neg (show ¬ (!blw 2 31 || !blw 2 41) = true by decide), if_neg (show ¬ (mdL L).length = 0 by omega)]
  show (match fbI ⟨q, mdL L, c, 2, 2, f⟩ 0 (mdL L) with | some k => ((60 : Int), (k : Int)) | none => (0, 0)) = _
  rw [hf]
end Go.Proofs.YtbfhahhcacnckaaGreatDoor
