/-
  Parts of the proof.
-/
import Derived.Test.YtbfhahhcacnckaaGreatDoorUnreachedProofB30
import Derived.Test.YtbfhahhcacnckaaGreatDoorUnreachedProofB9
set_option linter.unusedSimpArgs false
namespace Go.Proofs.YtbfhahhcacnckaaGreatDoor
open Go Go.RowKit
def idl (i : Ins) (which : Int) : Ins :=
  if i.op = 1 then (if which.tmod 2 = 0 then ⟨1, 0, i.y, 1, i.mn, i.mx, i.s⟩ else ⟨1, 1, i.y, i.n, i.mn, i.mx, i.s⟩) else if i.op = 2 then ⟨2, i.x, i.y, i.n, 1, i.mx, i.s⟩ else if i.op = 3 then ⟨3, i.x, 1, i.n, i.mn, i.mx, i.s⟩ else if i.op = 4 then (if which.tmod 2 = 0 then ⟨4, i.x, i.y, i.n, i.mn, 0, 1#256⟩ else ⟨4, i.x, i.y, i.n, i.mn, (-1), i.s⟩) else if i.op = 5 then (if which.tmod 2 = 0 then ⟨5, i.x, i.y, i.n, i.mn, 0, 1#256⟩ else ⟨5, i.x, i.y, i.n, i.mn, (-1), i.s⟩) else if i.op = 6 then (if which.tmod 2 = 0 then ⟨6, 0, i.y, i.n, i.mn, i.mx, 57896044618658097711785492504343953926634992332820282019728792003956564819968#256⟩ else ⟨6, 1, i.y, i.n, i.mn, i.mx, i.s⟩) else if i.op = 7 then (if which.tmod 2 = 0 then ⟨7, 0, i.y, i.n, i.mn, i.mx, 57896044618658097711785492504343953926634992332820282019728792003956564819968#256⟩ else ⟨7, 1, i.y, i.n, i.mn, i.mx, i.s⟩) else if i.op = 8 then (if which.tmod 2 = 0 then ⟨8, 0, i.y, i.n, i.mn, i.mx, 57896044618658097711785492504343953926634992332820282019728792003956564819968#256⟩ else ⟨8, 1, i.y, i.n, i.mn, i.mx, i.s⟩) else if i.op = 9 then (if which.tmod 2 = 0 then ⟨9, 0, i.y, i.n, i.mn, i.mx, 57896044618658097711785492504343953926634992332820282019728792003956564819968#256⟩ else ⟨9, 1, i.y, i.n, i.mn, i.mx, i.s⟩) else if i.op = 10 then ⟨10, i.x, i.y, i.n, i.mn, i.mx, 18446744073709551616#256⟩ else if i.op = 11 then (if which.tmod 2 = 0 then ⟨11, i.x, i.y, i.n, i.mn, 0, 1#256⟩ else ⟨11, i.x, i.y, i.n, i.mn, (-1), i.s⟩) else i
theorem idl_1o (i : Ins) (which : Int) (ho : i.op = 1) (hz : ¬ which.tmod 2 = 0) : idl i which = ⟨1, 1, i.y, i.n, i.mn, i.mx, i.s⟩ := by simp [idl, ho, hz]
theorem idb_1o (p : Pg) (k : Nat) (i : Ins) (which : Int) (ho : i.op = 1) (hz : ¬ which.tmod 2 = 0) : fineI p k (idl i which) = false := by
  have hn : ¬ (idl i which = usI (shT (idl i which).op) (idl i which)) := fun h => by
    have g := congrArg Ins.x h
    rw [idl_1o i which ho hz] at g
    have e : shT 1 = 65 := by decide
    have e2 : hsT 65 2 = false := by decide
    simp [usI, e, e2] at g
    try revert g
    try decide
  unfold fineI
  rw [decide_eq_false hn, Bool.and_false, Bool.false_and, Bool.false_and, Bool.false_and, Bool.false_and, Bool.false_and, Bool.false_and]
theorem idl_1e (i : Ins) (which : Int) (ho : i.op = 1) (hz : which.tmod 2 = 0) : idl i which = ⟨1, 0, i.y, 1, i.mn, i.mx, i.s⟩ := by simp [idl, ho, hz]
theorem idb_1e (p : Pg) (k : Nat) (i : Ins) (which : Int) (ho : i.op = 1) (hz : which.tmod 2 = 0) : fineI p k (idl i which) = false := by
  have hn : ¬ (idl i which = usI (shT (idl i which).op) (idl i which)) := fun h => by
    have g := congrArg Ins.n h
    rw [idl_1e i which ho hz] at g
    have e : shT 1 = 65 := by decide
    have e2 : hsT 65 24 = false := by decide
    simp [usI, e, e2] at g
    try revert g
    try decide
  unfold fineI
  rw [decide_eq_false hn, Bool.and_false, Bool.false_and, Bool.false_and, Bool.false_and, Bool.false_and, Bool.false_and, Bool.false_and]
theorem idl_2 (i : Ins) (which : Int) (ho : i.op = 2) : idl i which = ⟨2, i.x, i.y, i.n, 1, i.mx, i.s⟩ := by simp [idl, ho]
theorem idb_2 (p : Pg) (k : Nat) (i : Ins) (which : Int) (ho : i.op = 2) : fineI p k (idl i which) = false := by
  have hn : ¬ (idl i which = usI (shT (idl i which).op) (idl i which)) := fun h => by
    have g := congrArg Ins.mn h
    rw [idl_2 i which ho] at g
    have e : shT 2 = 6 := by decide
    have e2 : hsT 6 32 = false := by decide
    simp [usI, e, e2] at g
    try revert g
    try decide
  unfold fineI
  rw [decide_eq_false hn, Bool.and_false, Bool.false_and, Bool.false_and, Bool.false_and, Bool.false_and, Bool.false_and, Bool.false_and]
theorem idl_3 (i : Ins) (which : Int) (ho : i.op = 3) : idl i which = ⟨3, i.x, 1, i.n, i.mn, i.mx, i.s⟩ := by simp [idl, ho]
theorem idb_3 (p : Pg) (k : Nat) (i : Ins) (which : Int) (ho : i.op = 3) : fineI p k (idl i which) = false := by
  have hn : ¬ (idl i which = usI (shT (idl i which).op) (idl i which)) := fun h => by
    have g := congrArg Ins.y h
    rw [idl_3 i which ho] at g
    have e : shT 3 = 2 := by decide
    have e2 : hsT 2 4 = false := by decide
    simp [usI, e, e2] at g
    try revert g
    try decide
  unfold fineI
  rw [decide_eq_false hn, Bool.and_false, Bool.false_and, Bool.false_and, Bool.false_and, Bool.false_and, Bool.false_and, Bool.false_and]
theorem idl_4o (i : Ins) (which : Int) (ho : i.op = 4) (hz : ¬ which.tmod 2 = 0) : idl i which = ⟨4, i.x, i.y, i.n, i.mn, (-1), i.s⟩ := by simp [idl, ho, hz]
theorem idb_4o (p : Pg) (k : Nat) (i : Ins) (which : Int) (ho : i.op = 4) (hz : ¬ which.tmod 2 = 0) : fineI p k (idl i which) = false := by
  have hn : ¬ (idl i which = usI (shT (idl i which).op) (idl i which)) := fun h => by
    have g := congrArg Ins.mx h
    rw [idl_4o i which ho hz] at g
    have e : shT 4 = 64 := by decide
    have e2 : hsT 64 32 = false := by decide
    simp [usI, e, e2] at g
    try revert g
    try decide
  unfold fineI
  rw [decide_eq_false hn, Bool.and_false, Bool.false_and, Bool.false_and, Bool.false_and, Bool.false_and, Bool.false_and, Bool.false_and]
theorem idl_4e (i : Ins) (which : Int) (ho : i.op = 4) (hz : which.tmod 2 = 0) : idl i which = ⟨4, i.x, i.y, i.n, i.mn, 0, 1#256⟩ := by simp [idl, ho, hz]
theorem idb_4e (p : Pg) (k : Nat) (i : Ins) (which : Int) (ho : i.op = 4) (hz : which.tmod 2 = 0) : fineI p k (idl i which) = false := by
  have hn : ¬ (idl i which = usI (shT (idl i which).op) (idl i which)) := fun h => by
    have g := congrArg Ins.s h
    rw [idl_4e i which ho hz] at g
    have e : shT 4 = 64 := by decide
    have e2 : hsT 64 1 = false := by decide
    simp [usI, e, e2] at g
    try revert g
    try decide
  unfold fineI
  rw [decide_eq_false hn, Bool.and_false, Bool.false_and, Bool.false_and, Bool.false_and, Bool.false_and, Bool.false_and, Bool.false_and]
theorem idl_5o (i : Ins) (which : Int) (ho : i.op = 5) (hz : ¬ which.tmod 2 = 0) : idl i which = ⟨5, i.x, i.y, i.n, i.mn, (-1), i.s⟩ := by simp [idl, ho, hz]
theorem idb_5o (p : Pg) (k : Nat) (i : Ins) (which : Int) (ho : i.op = 5) (hz : ¬ which.tmod 2 = 0) : fineI p k (idl i which) = false := by
  have hn : ¬ (idl i which = usI (shT (idl i which).op) (idl i which)) := fun h => by
    have g := congrArg Ins.mx h
    rw [idl_5o i which ho hz] at g
    have e : shT 5 = 64 := by decide
    have e2 : hsT 64 32 = false := by decide
    simp [usI, e, e2] at g
    try revert g
    try decide
  unfold fineI
  rw [decide_eq_false hn, Bool.and_false, Bool.false_and, Bool.false_and, Bool.false_and, Bool.false_and, Bool.false_and, Bool.false_and]
theorem idl_5e (i : Ins) (which : Int) (ho : i.op = 5) (hz : which.tmod 2 = 0) : idl i which = ⟨5, i.x, i.y, i.n, i.mn, 0, 1#256⟩ := by simp [idl, ho, hz]
theorem idb_5e (p : Pg) (k : Nat) (i : Ins) (which : Int) (ho : i.op = 5) (hz : which.tmod 2 = 0) : fineI p k (idl i which) = false := by
  have hn : ¬ (idl i which = usI (shT (idl i which).op) (idl i which)) := fun h => by
    have g := congrArg Ins.s h
    rw [idl_5e i which ho hz] at g
    have e : shT 5 = 64 := by decide
    have e2 : hsT 64 1 = false := by decide
    simp [usI, e, e2] at g
    try revert g
    try decide
  unfold fineI
  rw [decide_eq_false hn, Bool.and_false, Bool.false_and, Bool.false_and, Bool.false_and, Bool.false_and, Bool.false_and, Bool.false_and]
theorem idl_6o (i : Ins) (which : Int) (ho : i.op = 6) (hz : ¬ which.tmod 2 = 0) : idl i which = ⟨6, 1, i.y, i.n, i.mn, i.mx, i.s⟩ := by simp [idl, ho, hz]
theorem idb_6o (p : Pg) (k : Nat) (i : Ins) (which : Int) (ho : i.op = 6) (hz : ¬ which.tmod 2 = 0) : fineI p k (idl i which) = false := by
  have hn : ¬ (idl i which = usI (shT (idl i which).op) (idl i which)) := fun h => by
    have g := congrArg Ins.x h
    rw [idl_6o i which ho hz] at g
    have e : shT 6 = 72 := by decide
    have e2 : hsT 72 2 = false := by decide
    simp [usI, e, e2] at g
    try revert g
    try decide
  unfold fineI
  rw [decide_eq_false hn, Bool.and_false, Bool.false_and, Bool.false_and, Bool.false_and, Bool.false_and, Bool.false_and, Bool.false_and]
theorem idl_6e (i : Ins) (which : Int) (ho : i.op = 6) (hz : which.tmod 2 = 0) : idl i which = ⟨6, 0, i.y, i.n, i.mn, i.mx, 57896044618658097711785492504343953926634992332820282019728792003956564819968#256⟩ := by simp [idl, ho, hz]
theorem idb_6e (p : Pg) (k : Nat) (i : Ins) (which : Int) (ho : i.op = 6) (hz : which.tmod 2 = 0) : fineI p k (idl i which) = false := by
  have hn : ¬ (idl i which = usI (shT (idl i which).op) (idl i which)) := fun h => by
    have g := congrArg Ins.s h
    rw [idl_6e i which ho hz] at g
    have e : shT 6 = 72 := by decide
    have e2 : hsT 72 1 = false := by decide
    simp [usI, e, e2] at g
    try revert g
    try decide
  unfold fineI
  rw [decide_eq_false hn, Bool.and_false, Bool.false_and, Bool.false_and, Bool.false_and, Bool.false_and, Bool.false_and, Bool.false_and]
theorem idl_7o (i : Ins) (which : Int) (ho : i.op = 7) (hz : ¬ which.tmod 2 = 0) : idl i which = ⟨7, 1, i.y, i.n, i.mn, i.mx, i.s⟩ := by simp [idl, ho, hz]
theorem idb_7o (p : Pg) (k : Nat) (i : Ins) (which : Int) (ho : i.op = 7) (hz : ¬ which.tmod 2 = 0) : fineI p k (idl i which) = false := by
  have hn : ¬ (idl i which = usI (shT (idl i which).op) (idl i which)) := fun h => by
    have g := congrArg Ins.x h
    rw [idl_7o i which ho hz] at g
    have e : shT 7 = 72 := by decide
    have e2 : hsT 72 2 = false := by decide
    simp [usI, e, e2] at g
    try revert g
    try decide
  unfold fineI
  rw [decide_eq_false hn, Bool.and_false, Bool.false_and, Bool.false_and, Bool.false_and, Bool.false_and, Bool.false_and, Bool.false_and]
theorem idl_7e (i : Ins) (which : Int) (ho : i.op = 7) (hz : which.tmod 2 = 0) : idl i which = ⟨7, 0, i.y, i.n, i.mn, i.mx, 57896044618658097711785492504343953926634992332820282019728792003956564819968#256⟩ := by simp [idl, ho, hz]
theorem idb_7e (p : Pg) (k : Nat) (i : Ins) (which : Int) (ho : i.op = 7) (hz : which.tmod 2 = 0) : fineI p k (idl i which) = false := by
  have hn : ¬ (idl i which = usI (shT (idl i which).op) (idl i which)) := fun h => by
    have g := congrArg Ins.s h
    rw [idl_7e i which ho hz] at g
    have e : shT 7 = 72 := by decide
    have e2 : hsT 72 1 = false := by decide
    simp [usI, e, e2] at g
    try revert g
    try decide
  unfold fineI
  rw [decide_eq_false hn, Bool.and_false, Bool.false_and, Bool.false_and, Bool.false_and, Bool.false_and, Bool.false_and, Bool.false_and]
theorem idl_8o (i : Ins) (which : Int) (ho : i.op = 8) (hz : ¬ which.tmod 2 = 0) : idl i which = ⟨8, 1, i.y, i.n, i.mn, i.mx, i.s⟩ := by simp [idl, ho, hz]
theorem idb_8o (p : Pg) (k : Nat) (i : Ins) (which : Int) (ho : i.op = 8) (hz : ¬ which.tmod 2 = 0) : fineI p k (idl i which) = false := by
  have hn : ¬ (idl i which = usI (shT (idl i which).op) (idl i which)) := fun h => by
    have g := congrArg Ins.x h
    rw [idl_8o i which ho hz] at g
    have e : shT 8 = 72 := by decide
    have e2 : hsT 72 2 = false := by decide
    simp [usI, e, e2] at g
    try revert g
    try decide
  unfold fineI
  rw [decide_eq_false hn, Bool.and_false, Bool.false_and, Bool.false_and, Bool.false_and, Bool.false_and, Bool.false_and, Bool.false_and]
theorem idl_8e (i : Ins) (which : Int) (ho : i.op = 8) (hz : which.tmod 2 = 0) : idl i which = ⟨8, 0, i.y, i.n, i.mn, i.mx, 57896044618658097711785492504343953926634992332820282019728792003956564819968#256⟩ := by simp [idl, ho, hz]
theorem idb_8e (p : Pg) (k : Nat) (i : Ins) (which : Int) (ho : i.op = 8) (hz : which.tmod 2 = 0) : fineI p k (idl i which) = false := by
  have hn : ¬ (idl i which = usI (shT (idl i which).op) (idl i which)) := fun h => by
    have g := congrArg Ins.s h
    rw [idl_8e i which ho hz] at g
    have e : shT 8 = 72 := by decide
    have e2 : hsT 72 1 = false := by decide
    simp [usI, e, e2] at g
    try revert g
    try decide
  unfold fineI
  rw [decide_eq_false hn, Bool.and_false, Bool.false_and, Bool.false_and, Bool.false_and, Bool.false_and, Bool.false_and, Bool.false_and]
theorem idl_9o (i : Ins) (which : Int) (ho : i.op = 9) (hz : ¬ which.tmod 2 = 0) : idl i which = ⟨9, 1, i.y, i.n, i.mn, i.mx, i.s⟩ := by simp [idl, ho, hz]
theorem idb_9o (p : Pg) (k : Nat) (i : Ins) (which : Int) (ho : i.op = 9) (hz : ¬ which.tmod 2 = 0) : fineI p k (idl i which) = false := by
  have hn : ¬ (idl i which = usI (shT (idl i which).op) (idl i which)) := fun h => by
    have g := congrArg Ins.x h
    rw [idl_9o i which ho hz] at g
    have e : shT 9 = 80 := by decide
    have e2 : hsT 80 2 = false := by decide
    simp [usI, e, e2] at g
    try revert g
    try decide
  unfold fineI
  rw [decide_eq_false hn, Bool.and_false, Bool.false_and, Bool.false_and, Bool.false_and, Bool.false_and, Bool.false_and, Bool.false_and]
theorem idl_9e (i : Ins) (which : Int) (ho : i.op = 9) (hz : which.tmod 2 = 0) : idl i which = ⟨9, 0, i.y, i.n, i.mn, i.mx, 57896044618658097711785492504343953926634992332820282019728792003956564819968#256⟩ := by simp [idl, ho, hz]
theorem idb_9e (p : Pg) (k : Nat) (i : Ins) (which : Int) (ho : i.op = 9) (hz : which.tmod 2 = 0) : fineI p k (idl i which) = false := by
  have hn : ¬ (idl i which = usI (shT (idl i which).op) (idl i which)) := fun h => by
    have g := congrArg Ins.s h
    rw [idl_9e i which ho hz] at g
    have e : shT 9 = 80 := by decide
    have e2 : hsT 80 1 = false := by decide
    simp [usI, e, e2] at g
    try revert g
    try decide
  unfold fineI
  rw [decide_eq_false hn, Bool.and_false, Bool.false_and, Bool.false_and, Bool.false_and, Bool.false_and, Bool.false_and, Bool.false_and]
theorem idl_10 (i : Ins) (which : Int) (ho : i.op = 10) : idl i which = ⟨10, i.x, i.y, i.n, i.mn, i.mx, 18446744073709551616#256⟩ := by simp [idl, ho]
theorem idb_10 (p : Pg) (k : Nat) (i : Ins) (which : Int) (ho : i.op = 10) : fineI p k (idl i which) = false := by
  have hn : ¬ (idl i which = usI (shT (idl i which).op) (idl i which)) := fun h => by
    have g := congrArg Ins.s h
    rw [idl_10 i which ho] at g
    have e : shT 10 = 54 := by decide
    have e2 : hsT 54 1 = false := by decide
    simp [usI, e, e2] at g
    try revert g
    try decide
  unfold fineI
  rw [decide_eq_false hn, Bool.and_false, Bool.false_and, Bool.false_and, Bool.false_and, Bool.false_and, Bool.false_and, Bool.false_and]
theorem idl_11o (i : Ins) (which : Int) (ho : i.op = 11) (hz : ¬ which.tmod 2 = 0) : idl i which = ⟨11, i.x, i.y, i.n, i.mn, (-1), i.s⟩ := by simp [idl, ho, hz]
theorem idb_11o (p : Pg) (k : Nat) (i : Ins) (which : Int) (ho : i.op = 11) (hz : ¬ which.tmod 2 = 0) : fineI p k (idl i which) = false := by
  have hn : ¬ (idl i which = usI (shT (idl i which).op) (idl i which)) := fun h => by
    have g := congrArg Ins.mx h
    rw [idl_11o i which ho hz] at g
    have e : shT 11 = 0 := by decide
    have e2 : hsT 0 32 = false := by decide
    simp [usI, e, e2] at g
    try revert g
    try decide
  unfold fineI
  rw [decide_eq_false hn, Bool.and_false, Bool.false_and, Bool.false_and, Bool.false_and, Bool.false_and, Bool.false_and, Bool.false_and]
theorem idl_11e (i : Ins) (which : Int) (ho : i.op = 11) (hz : which.tmod 2 = 0) : idl i which = ⟨11, i.x, i.y, i.n, i.mn, 0, 1#256⟩ := by simp [idl, ho, hz]
theorem idb_11e (p : Pg) (k : Nat) (i : Ins) (which : Int) (ho : i.op = 11) (hz : which.tmod 2 = 0) : fineI p k (idl i which) = false := by
  have hn : ¬ (idl i which = usI (shT (idl i which).op) (idl i which)) := fun h => by
    have g := congrArg Ins.s h
    rw [idl_11e i which ho hz] at g
    have e : shT 11 = 0 := by decide
    have e2 : hsT 0 1 = false := by decide
    simp [usI, e, e2] at g
    try revert g
    try decide
  unfold fineI
  rw [decide_eq_false hn, Bool.and_false, Bool.false_and, Bool.false_and, Bool.false_and, Bool.false_and, Bool.false_and, Bool.false_and]
theorem idl_all (i : Ins) (which : Int) (h1 : 1 ≤ i.op) (h2 : i.op ≤ 11) (w : World) : Calls Tryz.prog 13 #[.agg #[.int .i64 i.op, .int .i64 i.x, .int .i64 i.y, .int .i64 i.n, .int .i64 i.mn, .int .i64 i.mx, .int .u64 (z1_wd i.s 0), .int .u64 (z1_wd i.s 1), .int .u64 (z1_wd i.s 2), .int .u64 (z1_wd i.s 3)], .int .i64 which] w (IdP (idl i which) w) := by
  have h : i.op = 1 ∨ i.op = 2 ∨ i.op = 3 ∨ i.op = 4 ∨ i.op = 5 ∨ i.op = 6 ∨ i.op = 7 ∨ i.op = 8 ∨ i.op = 9 ∨ i.op = 10 ∨ i.op = 11 := by omega
  obtain ⟨op, x, y, n, mn, mx, s⟩ := i
  rcases h with h | h | h | h | h | h | h | h | h | h | h
  · have ho : op = 1 := h
    subst ho
    by_cases hz : which.tmod 2 = 0
    · rw [idl_1e _ which rfl hz]
      exact idle_1e x y n mn mx s which w hz
    · rw [idl_1o _ which rfl hz]
      exact idle_1o x y n mn mx s which w hz
  · have ho : op = 2 := h
    subst ho
    rw [idl_2 _ which rfl]
    exact idle_2 x y n mn mx s which w
  · have ho : op = 3 := h
    subst ho
    rw [idl_3 _ which rfl]
    exact idle_3 x y n mn mx s which w
  · have ho : op = 4 := h
    subst ho
    by_cases hz : which.tmod 2 = 0
    · rw [idl_4e _ which rfl hz]
      exact idle_4e x y n mn mx s which w hz
    · rw [idl_4o _ which rfl hz]
      exact idle_4o x y n mn mx s which w hz
  · have ho : op = 5 := h
    subst ho
    by_cases hz : which.tmod 2 = 0
    · rw [idl_5e _ which rfl hz]
      exact idle_5e x y n mn mx s which w hz
    · rw [idl_5o _ which rfl hz]
      exact idle_5o x y n mn mx s which w hz
  · have ho : op = 6 := h
    subst ho
    by_cases hz : which.tmod 2 = 0
    · rw [idl_6e _ which rfl hz]
      exact idle_6e x y n mn mx s which w hz
    · rw [idl_6o _ which rfl hz]
      exact idle_6o x y n mn mx s which w hz
  · have ho : op = 7 := h
    subst ho
    by_cases hz : which.tmod 2 = 0
    · rw [idl_7e _ which rfl hz]
      exact idle_7e x y n mn mx s which w hz
    · rw [idl_7o _ which rfl hz]
      exact idle_7o x y n mn mx s which w hz
  · have ho : op = 8 := h
    subst ho
    by_cases hz : which.tmod 2 = 0
    · rw [idl_8e _ which rfl hz]
      exact idle_8e x y n mn mx s which w hz
    · rw [idl_8o _ which rfl hz]
      exact idle_8o x y n mn mx s which w hz
  · have ho : op = 9 := h
    subst ho
    by_cases hz : which.tmod 2 = 0
    · rw [idl_9e _ which rfl hz]
      exact idle_9e x y n mn mx s which w hz
    · rw [idl_9o _ which rfl hz]
      exact idle_9o x y n mn mx s which w hz
  · have ho : op = 10 := h
    subst ho
    rw [idl_10 _ which rfl]
    exact idle_10 x y n mn mx s which w
  · have ho : op = 11 := h
    subst ho
    by_cases hz : which.tmod 2 = 0
    · rw [idl_11e _ which rfl hz]
      exact idle_11e x y n mn mx s which w hz
    · rw [idl_11o _ which rfl hz]
      exact idle_11o x y n mn mx s which w hz
theorem idl_bad (p : Pg) (k : Nat) (i : Ins) (which : Int) (h1 : 1 ≤ i.op) (h2 : i.op ≤ 11) : fineI p k (idl i which) = false := by
  have h : i.op = 1 ∨ i.op = 2 ∨ i.op = 3 ∨ i.op = 4 ∨ i.op = 5 ∨ i.op = 6 ∨ i.op = 7 ∨ i.op = 8 ∨ i.op = 9 ∨ i.op = 10 ∨ i.op = 11 := by omega
  rcases h with h | h | h | h | h | h | h | h | h | h | h
  · exact if hz : which.tmod 2 = 0 then idb_1e p k i which h hz else idb_1o p k i which h hz
  · exact idb_2 p k i which h
  · exact idb_3 p k i which h
  · exact if hz : which.tmod 2 = 0 then idb_4e p k i which h hz else idb_4o p k i which h hz
  · exact if hz : which.tmod 2 = 0 then idb_5e p k i which h hz else idb_5o p k i which h hz
  · exact if hz : which.tmod 2 = 0 then idb_6e p k i which h hz else idb_6o p k i which h hz
  · exact if hz : which.tmod 2 = 0 then idb_7e p k i which h hz else idb_7o p k i which h hz
  · exact if hz : which.tmod 2 = 0 then idb_8e p k i which h hz else idb_8o p k i which h hz
  · exact if hz : which.tmod 2 = 0 then idb_9e p k i which h hz else idb_9o p k i which h hz
  · exact idb_10 p k i which h
  · exact if hz : which.tmod 2 = 0 then idb_11e p k i which h hz else idb_11o p k i which h hz
theorem mdI_op (n : Int) (r : Rw) : 1 ≤ (mdI n r).op ∧ (mdI n r).op ≤ 11 := by
  have h := pk_range (c := r.op) (n := 11) (by decide)
  have e : pk r.op ((11 : Nat) : Int) = pk r.op 11 := rfl
  rw [e] at h
  unfold mdI
  split
  · simp
  · split
    · simp
    · split
      · simp
      · split
        · simp
        · split <;> simp <;> omega
theorem mdL_op {L : List Rw} {j : Nat} {i : Ins} (hj : (mdL L)[j]? = some i) : 1 ≤ i.op ∧ i.op ≤ 11 := by
  have hm := List.mem_of_getElem? hj
  unfold mdL at hm
  rcases List.mem_append.1 hm with h | h
  · obtain ⟨r, -, rfl⟩ := List.mem_map.1 h
    exact mdI_op _ r
  · obtain rfl := List.mem_singleton.1 h
    decide
theorem mdL_fine {p : Pg} {L : List Rw} (hl : p.L.length = (mdL L).length) (hg : p.g = 2) (hk : p.k = 2) {j : Nat} {i : Ins} (hj : (mdL L)[j]? = some i) : fineI p j i = true := by
  have h0 := mdL_len L
  have hjl := (List.getElem?_eq_some_iff.1 hj).1
  by_cases hm : j < min L.length 200
  · unfold mdL at hj
    rw [List.getElem?_append_left (by simp; omega), List.getElem?_map] at hj
    obtain ⟨r, -, rfl⟩ := Option.map_eq_some_iff.1 hj
    exact md_fine (p := p) (n := min L.length 200 + 1) (hl.trans h0) hg hk (by omega)
  · unfold mdL at hj
    rw [List.getElem?_append_right (by simp; omega)] at hj
    have e : j - ((L.take 200).map (mdI ((min L.length 200 : Nat) + 1 : Int))).length = 0 := by simp; omega
    rw [e] at hj
    obtain rfl : _ = i := Option.some.inj hj
    exact match_fine _ _
theorem fb_first {p : Pg} : ∀ {k m : Nat} {L : List Ins} {x : Ins}, (∀ (j : Nat) (i : Ins), j < m → L[j]? = some i → fineI p (k + j) i = true) → L[m]? = some x → fineI p (k + m) x = false → fbI p k L = some (k + m)
  | _, _, [], _, _, h, _ => by simp at h
  | k, 0, i :: r, x, _, hx, hf => by
    obtain rfl : i = x := by simpa using hx
    unfold fbI
    rw [Nat.add_zero] at hf ⊢
    rw [hf]
    rfl
  | k, m + 1, i :: r, x, h, hx, hf => by
    have h0 := h 0 i (by omega) rfl
    rw [Nat.add_zero] at h0
    unfold fbI
    rw [if_pos h0, show k + (m + 1) = k + 1 + m by omega]
    exact fb_first (fun j y hj hy => by
      have := h (j + 1) y (by omega) (by simpa using hy)
      rwa [show k + (j + 1) = k + 1 + j by omega] at this) (by simpa using hx) (by rwa [show k + (m + 1) = k + 1 + m by omega] at hf)
theorem rt_idle {L : List Rw} {m : Nat} {i : Ins} (hi : (mdL L)[m]? = some i) (which : Int) (q : Option Addr) (c : Nat) (f : Bool) : rtE ⟨q, (mdL L).set m (idl i which), c, 2, 2, f⟩ = (60, (m : Int)) := by
  have hl := mdL_len L
  have hm := (List.getElem?_eq_some_iff.1 hi).1
  have ho := mdL_op hi
  have hs : ((mdL L).set m (idl i which)).length = (mdL L).length := List.length_set
  have hf : fbI ⟨q, (mdL L).set m (idl i which), c, 2, 2, f⟩ 0 ((mdL L).set m (idl i which)) = some (0 + m) := fb_first (x := idl i which) (fun j y hj hy => by
    rw [List.getElem?_set_ne (by omega)] at hy
    rw [Nat.zero_add]
    exact mdL_fine (p := ⟨q, (mdL L).set m (idl i which), c, 2, 2, f⟩) hs rfl rfl hy) (by simp [hm]) (idl_bad _ _ i which ho.1 ho.2)
  unfold rtE
  rw [if_neg (show ¬ 40000 < ((mdL L).set m (idl i which)).length by omega), if_neg (show ¬ (!blw 2 31 || !blw 2 41) = true by decide), if_neg (show ¬ ((mdL L).set m (idl i which)).length = 0 by omega)]
  show (match fbI ⟨q, (mdL L).set m (idl i which), c, 2, 2, f⟩ 0 ((mdL L).set m (idl i which)) with | some k => ((60 : Int), (k : Int)) | none => (0, 0)) = _
  rw [hf, Nat.zero_add]
end Go.Proofs.YtbfhahhcacnckaaGreatDoor
