/-
  The document's Lex: how its reader stands between tokens. The document's brackets. The document's tokens, whatever they are. The document's Lex.
-/
import Derived.Test.YtloeajhmmjdlgaaGreatDoorReadsProofB11
import Derived.Test.YtloeajhmmjdlgaaGreatDoorReadsProofB10
namespace Go.Proofs.YtloeajhmmjdlgaaGreatDoor
open Go Go.RowKit
attribute [local go_sem] ext_cell

/-- What the document's Lex answers. -/
def RLexIs (w : World) (r : Rs (List Tp)) (e : Ending) (w' : World) : Prop := Below w.heap.size w w' ∧ match r with
  | .error (c, a) => e = .returned (.tuple #[.slice none 0 0, .int .i64 (c : Int), .int .i64 (a : Int)])
  | .ok T => ∃ v D, e = .returned (.tuple #[v, .int .i64 0, .int .i64 0]) ∧ TL w.heap.size w' v D ∧ D.map Prod.fst = T
def psM (w : World) (b : Nat) : Nat := match w.cell? ⟨b, 3, none⟩ with
  | some (.int _ x) => x.toNat
  | _ => 0
theorem SX.ps {w : World} {b : Nat} {s : ByteArray} {m : Md} {p : Nat} {tv : Value} {e a : Nat} (h : SX w b s m p tv e a) : psM w b = p := by
  unfold psM
  rw [h.c3]
  exact Int.toNat_natCast p
def lxM (s : ByteArray) (b : Nat) (wr : World) : Nat := if erM wr b = 0 then s.size + 1 - psM wr b else 0
/-- How the document's reader stands between tokens. -/
structure LxI (base : Nat) (b : Nat) (s : ByteArray) (m : Md) (RES : Rs (List Tp)) (p : Nat) (v : Value) (D : List Dt) (T : List Tp) (wr : World) : Prop where
  sx : SX wr b s m p v 0 0
  tl : TL base wr v D
  map : D.map Prod.fst = T
  nil : D = [] → v = .slice none 0 0
  st : Stands s T p
  le : p ≤ s.size
  zero : lastK T = 0 ↔ p = 0
  is : ∃ f, s.size < f + p ∧ lx m s f p T = RES
def LxR (w : World) (b : Nat) (s : ByteArray) (m : Md) (RES : Rs (List Tp)) (wr : World) : Prop := Below w.heap.size w wr ∧
  ((∃ p v D T, LxI w.heap.size b s m RES p v D T wr) ∨ (∃ p v c a, SX wr b s m p v c a ∧ c ≠ 0 ∧ RES = .error (c, a)))
theorem lastK_snoc (T : List Tp) (x : Tp) : lastK (T ++ [x]) = x.1.kind := by
  unfold lastK
  rw [List.getLast?_append]
  rfl
theorem LxI.next {base b : Nat} {s : ByteArray} {m : Md} {RES : Rs (List Tp)} {p : Nat} {v : Value} {D : List Dt} {T : List Tp} {wr : World} (h : LxI base b s m RES p v D T wr) (hp : p < s.size) {t : Tk} {q : Nat} (ht : tok m s p (lastK T) = .ok (t, q)) {w' : World} {v' rv : Value} {C : List (Int × Int)}
    (h1 : SX w' b s m q v' 0 0) (h2 : TL base w' v' (D ++ [((t, p, q), rv, C)])) : LxI base b s m RES q v' (D ++ [((t, p, q), rv, C)]) (T ++ [(t, p, q)]) w' ∧ p < q := by
  have hr := tok_rng m s p (lastK T) hp
  have ho := tok_ok m s p (lastK T)
  rw [ht] at hr ho
  have r1 : p < q := hr.1
  have r2 : q ≤ s.size := hr.2
  have o1 : 1 ≤ t.kind := ho.1
  obtain ⟨f, f1, f2⟩ := h.is
  obtain ⟨f, rfl⟩ : ∃ g, f = g + 1 := ⟨f - 1, by omega⟩
  refine ⟨⟨h1, h2, by rw [List.map_append, h.map]; rfl, fun e => by simp at e, h.st.add r1 r2 ho, r2, ?_, f, by omega, ?_⟩, r1⟩
  · rw [lastK_snoc]
    constructor
    · intro e
      have : t.kind = 0 := e
      omega
    · intro e
      omega
  · rw [← f2]
    conv => rhs; unfold lx
    rw [if_pos hp, ht]
theorem LxI.err {base b : Nat} {s : ByteArray} {m : Md} {RES : Rs (List Tp)} {p : Nat} {v : Value} {D : List Dt} {T : List Tp} {wr : World} (h : LxI base b s m RES p v D T wr) (hp : p < s.size) {c a : Nat} (ht : tok m s p (lastK T) = .error (c, a)) : c ≠ 0 ∧ RES = .error (c, a) := by
  have hr := tok_rng m s p (lastK T) hp
  rw [ht] at hr
  obtain ⟨f, f1, f2⟩ := h.is
  obtain ⟨f, rfl⟩ : ∃ g, f = g + 1 := ⟨f - 1, by omega⟩
  refine ⟨by have := hr.1; omega, ?_⟩
  rw [← f2]
  unfold lx
  rw [if_pos hp, ht]
theorem LxI.ends {base b : Nat} {s : ByteArray} {m : Md} {RES : Rs (List Tp)} {p : Nat} {v : Value} {D : List Dt} {T : List Tp} {wr : World} (h : LxI base b s m RES p v D T wr) (hp : ¬ p < s.size) : RES = .ok T := by
  obtain ⟨f, f1, f2⟩ := h.is
  obtain ⟨f, rfl⟩ : ∃ g, f = g + 1 := ⟨f - 1, by have := h.le; omega⟩
  rw [← f2]
  unfold lx
  rw [if_neg hp]
theorem LxI.room {base b : Nat} {s : ByteArray} {m : Md} {RES : Rs (List Tp)} {p : Nat} {v : Value} {D : List Dt} {T : List Tp} {wr : World} (h : LxI base b s m RES p v D T wr) (hp : p < s.size) (hs : s.size ≤ 2000) (hb : base ≤ b) : Room base wr b s m p v D ∧ LK wr b v (lastK T) :=
  ⟨⟨h.sx, h.tl, hb, by have h1 := h.st.few; have h2 := congrArg List.length h.map; rw [List.length_map] at h2; omega, hs, hp⟩, h.tl.lastS h.sx h.map h.st (by omega) h.nil⟩
set_option maxRecDepth 100000 in
set_option maxHeartbeats 4000000 in
theorem rlex_long {w : World} (s : ByteArray) (m : Md) (hs : 2000 < s.size) :
    Calls Tryz.prog 5 #[.string s, .agg #[.bool m.c, .bool m.f]] w (RLexIs w (.error (30, 0))) := by
  have d0 : (2000 : Int) < (s.size : Int) := by omega
  go_enter Tryz.func5, Tryz.ntmps5
  go_wp2
  go_ret3
  exact ⟨(Below.refl _ _).alloc (Nat.le_refl _) _, rfl⟩
end Go.Proofs.YtloeajhmmjdlgaaGreatDoor
namespace Go.Proofs.YtloeajhmmjdlgaaGreatDoor
open Go Go.RowKit
attribute [local go_sem] ext_cell

set_option maxRecDepth 100000 in
set_option maxHeartbeats 16000000 in
theorem rbracket_c {base : Nat} {w : World} {b : Nat} {s : ByteArray} {m : Md} {p : Nat} {v : Value} {D : List Dt} (h : Room base w b s m p v D) :
    Calls Tryz.prog 21 #[.pointer (some ⟨b, 0, none⟩)] w (Puts base w b s m p D (brk m s p)) := by
  have hs := h.len
  have hp := h.at_
  have c3 := h.sx.c3
  have lb := h.sx.lt
  obtain ⟨t0, ti, hz0, hz1, hz2⟩ := info_parts size_range
  obtain ⟨P1, hP1⟩ : ∃ P1, P1 = p + 1 := ⟨_, rfl⟩
  have hw1 : IntKind.wrap .i64 ((p : Int) + 1) = (P1 : Int) := by rw [wrap_small _ (by omega) (by omega)]; omega
  obtain ⟨T, hT⟩ : ∃ T, T = sees s (p + 1) [94] := ⟨_, rfl⟩
  obtain ⟨A0, hA0⟩ : ∃ A0, A0 = if T then p + 2 else p + 1 := ⟨_, rfl⟩
  obtain ⟨RB, hRB⟩ : ∃ RB, RB = brk m s p := ⟨_, rfl⟩
  rw [← hRB]
  have HRB : Hid (brk m s p = RB) := hide hRB.symm
  have HT : Hid (∀ W, SX W b s m p v 0 0 → _) := hide (ris1 hs P1 (by omega) 94 (E := T) (by rw [hP1]; exact hT))
  have hBI : Hid (BI m s p T true A0 []) := hide (by rw [hA0, hT]; exact BI.start m s p hp)
  have HA : Hid ((T = true → IntKind.wrap .i64 ((P1 : Int) + 1) = (A0 : Int)) ∧ (T = false → P1 = A0)) := by
    refine ⟨fun q => ?_, fun q => ?_⟩
    · rw [q] at hA0
      rw [wrap_small _ (by omega) (by omega)]
      simp at hA0
      omega
    · rw [q] at hA0
      simp at hA0
      omega
  have H : Hid (Room base w b s m p v D) := h
  clear h hP1 hT hA0 hRB
  go_enter Tryz.func21, Tryz.ntmps21
  go_upto_if 24 with (go_at_call 18; (with_reducible refine (HT.out _ H.out.sx).mono ?_); rintro e w0 ⟨rfl, h5⟩; have X0 : Hid (St w b s m p v (.slice none 0 0) [] 0 0 w0) := ⟨H.out.sx.kept h5, Fr.of_below h5, RR.nil _ _⟩; clear h5)
  go_cut [3] (fun u wx => u = .int .i64 (A0 : Int) ∧ wx = w0)
  case first =>
    cases T with
    | true =>
      have q := HA.out.1 rfl
      go_wp2_with fail
      go_meet
      exact ⟨rfl, rfl⟩
    | false =>
      have q := HA.out.2 rfl
      go_wp2_with fail
      go_meet
      exact ⟨by rw [← q], rfl⟩
  case rest =>
    obtain ⟨rfl, hwc⟩ := hcut
    subst wc
    go_wp2
    go_loopw [3, 5, 6] (fun u l f wr => BR w b s m p v T RB u l f wr) (fun u _ _ wr => bkM s b u wr)
    case atStart => exact .inl ⟨true, A0, [], rfl, rfl, X0.out, hBI.out⟩
    case round =>
      rcases hrel with ⟨first, K, L, rfl, rfl, hst, hbi⟩ | ⟨c, a, x, L, fb, rfl, rfl, hst, hc, hre⟩
      · obtain ⟨qv, kv, rfl⟩ := hst.rr.shape
        have hK := hbi.le
        have hKo := hbi.lt
        have hL4 := hbi.len
        obtain ⟨E, hE⟩ : ∃ E, E = sees s K [93] := ⟨_, rfl⟩
        obtain ⟨M, hM⟩ : ∃ M, M = sees s K [45] := ⟨_, rfl⟩
        obtain ⟨Q, hQ⟩ : ∃ Q, Q = sees s K [45, 93] := ⟨_, rfl⟩
        have CE : Hid (∀ W, SX W b s m p v 0 0 → _) := hide (ris1 hs K (by omega) 93 hE)
        have CM : Hid (∀ W, SX W b s m p v 0 0 → _) := hide (ris1 hs K (by omega) 45 hM)
        have CQ : Hid (∀ W, SX W b s m p v 0 0 → _) := hide (ris2 hs K (by omega) 45 93 hQ)
        have HB : Hid (BI m s p T first K L ∧ E = sees s K [93] ∧ M = sees s K [45] ∧ Q = sees s K [45, 93]) := ⟨hbi, hE, hM, hQ⟩
        have G : Hid (St w b s m p v (.slice qv L.length kv) L 0 0 wr) := hst
        have GM : Hid (bkM s b (.int .i64 (K : Int)) wr = s.size + 2 - K) := hide (by unfold bkM; rw [hst.sx.er]; simp [intOf])
        have g5 : wr.cell? ⟨b, 5, none⟩ = some (.int .i64 0) := hst.sx.c5
        have gl := hst.sx.lt
        clear hst hbi hE hM hQ
        go_upto_region 10 with (go_at_call 18; (with_reducible refine (CE.out _ G.out.sx).mono ?_); rintro e w1 ⟨rfl, h5⟩; have X1 : Hid (St w b s m p v (.slice qv L.length kv) L 0 0 w1) := G.out.kept h5; clear h5)
        go_cut [39] (fun c wx => c = .bool (E && !first) ∧ wx = w1)
        case first =>
          cases E with
          | false => go_wp2_with fail; go_meet; exact ⟨rfl, rfl⟩
          | true => cases first <;> (go_wp2_with fail; go_meet; exact ⟨rfl, rfl⟩)
        case rest =>
          obtain ⟨rfl, hwc⟩ := hcut
          subst wc
          cases hx : (E && !first) with
          | true =>
            have hx1 : E = true ∧ first = false := by cases E <;> cases first <;> simp_all
            obtain ⟨rfl, rfl⟩ := hx1
            clear hx
            have k5 : w1.cell? ⟨b, 5, none⟩ = some (.int .i64 0) := X1.out.sx.c5
            have k1 := X1.out.sx.c1
            have kl := X1.out.sx.lt
            have HR : Hid (RB = .ok (setT m L T, K + 1)) := hide (HRB.out.symm.trans (HB.out.1.ends HB.out.2.1.symm))
            obtain ⟨NQ, hNQ⟩ : ∃ NQ, NQ = K + 1 - p := ⟨_, rfl⟩
            have hv1 : IntKind.wrap .i64 ((K : Int) + 1) = (K : Int) + 1 := wrap_small _ (by omega) (by omega)
            have hv2 : IntKind.wrap .i64 ((K : Int) + 1 - (p : Int)) = (NQ : Int) := by rw [wrap_small _ (by omega) (by omega)]; omega
            have hKs := sees_len HB.out.2.1.symm (by simp)
            simp only [List.length_cons, List.length_nil] at hKs
            have HNQ : Hid (K + 1 = p + NQ ∧ NQ ≤ 2000) := hide ⟨by omega, by omega⟩
            clear hNQ
            cases hmf : m.f with
            | true =>
              cases T with
              | true =>
                have k2 : w1.cell? ⟨b, 2, none⟩ = some (.bool true) := by have := X1.out.sx.c2; rw [hmf] at this; exact this
                have HM : Hid (m.f = true) := hmf
                clear hmf
                go_wp2_with first
                  | (go_at_call 38; (with_reducible refine (rnorm_c (m := m.c) X1.out.rr.arg HB.out.1.fit (by omega)).mono ?_); rintro e w4 ⟨v4, C4, rfl, h1, h2, h3, h4⟩; obtain ⟨q4, k4, rfl⟩ := h1.shape; have Y4 : Hid (St w b s m p v (.slice qv L.length kv) L 0 0 w4 ∧ RR w.heap.size w4 (.slice q4 C4.length k4) C4 ∧ IsC C4 (fun c => In L c ∧ isChar m.c c) ∧ C4.length ≤ 20000) := ⟨X1.out.kept h4, RR.mono h1 X1.out.fr.size, h2, by have := charsL_length m.c; have := Nat.mul_le_mul (show L.length ≤ 8000 by omega) this; omega⟩; have a2 : w4.cell? ⟨b, 2, none⟩ = some (.bool true) := (h4.cell (p := ⟨b, 2, none⟩) kl).trans k2; have a1 := Y4.out.1.sx.c1; have al := Y4.out.1.sx.lt; clear h1 h2 h3 h4)
                  | (go_at_call 39; (with_reducible refine (rfold_c Y4.out.2.1.arg Y4.out.2.2.1.fit (by have := Y4.out.2.2.2; omega)).mono ?_); rintro e w5 ⟨v5, C5, rfl, h1, h2, h3, h4⟩; obtain ⟨q5, k5, rfl⟩ := h1.shape; have Y5 : Hid (St w b s m p v (.slice qv L.length kv) L 0 0 w5 ∧ RR w.heap.size w5 (.slice q5 C5.length k5) C5 ∧ IsC C5 (setQ m L false) ∧ C5.length ≤ 60000) := ⟨Y4.out.1.kept h4, RR.mono h1 Y4.out.1.fr.size, set_fold Y4.out.2.2.1 HM.out h2, by have := Y4.out.2.2.2; omega⟩; have f1 := Y5.out.1.sx.c1; have fl := Y5.out.1.sx.lt; clear h1 h2 h3 h4)
                  | (go_at_call 40; (with_reducible refine (rnot_c (m := m.c) Y5.out.2.1.arg Y5.out.2.2.1.fit (by have := Y5.out.2.2.2; omega)).mono ?_); rintro e w6 ⟨v6, C6, rfl, h1, h2, h3, h4⟩; obtain ⟨q6, k6, rfl⟩ := h1.shape; have Y6 : Hid (St w b s m p v (.slice qv L.length kv) L 0 0 w6 ∧ RR w.heap.size w6 (.slice q6 C6.length k6) C6 ∧ IsC C6 (setQ m L true)) := ⟨Y5.out.1.kept h4, RR.mono h1 Y5.out.1.fr.size, set_not Y5.out.2.2.1 h2⟩; clear h1 h2 h3 h4)
                  | (go_at_call 22; refine ((St.room H.out Y6.out.1).1.put (t := setT m L true) (rv := .slice q6 C6.length k6) (C := C6) (RR.mono Y6.out.2.1 H.out.size) Y6.out.2.2 (H.out.new Y6.out.2.1) (n := NQ) HNQ.out.1 HNQ.out.2).mono ?_; rintro e w9 h9; have hz := h9.1; subst hz; have X9 : Hid (Puts base w b s m p D (.ok (setT m L true, K + 1)) (.returned (.tuple #[])) w9) := h9.from (St.room H.out Y6.out.1).2; clear h9)
                go_end0
                rw [HR.out]
                exact X9.out
              | false =>
                have k2 : w1.cell? ⟨b, 2, none⟩ = some (.bool true) := by have := X1.out.sx.c2; rw [hmf] at this; exact this
                have HM : Hid (m.f = true) := hmf
                clear hmf
                go_wp2_with first
                  | (go_at_call 38; (with_reducible refine (rnorm_c (m := m.c) X1.out.rr.arg HB.out.1.fit (by omega)).mono ?_); rintro e w4 ⟨v4, C4, rfl, h1, h2, h3, h4⟩; obtain ⟨q4, k4, rfl⟩ := h1.shape; have Y4 : Hid (St w b s m p v (.slice qv L.length kv) L 0 0 w4 ∧ RR w.heap.size w4 (.slice q4 C4.length k4) C4 ∧ IsC C4 (fun c => In L c ∧ isChar m.c c) ∧ C4.length ≤ 20000) := ⟨X1.out.kept h4, RR.mono h1 X1.out.fr.size, h2, by have := charsL_length m.c; have := Nat.mul_le_mul (show L.length ≤ 8000 by omega) this; omega⟩; have a2 : w4.cell? ⟨b, 2, none⟩ = some (.bool true) := (h4.cell (p := ⟨b, 2, none⟩) kl).trans k2; have a1 := Y4.out.1.sx.c1; have al := Y4.out.1.sx.lt; clear h1 h2 h3 h4)
                  | (go_at_call 39; (with_reducible refine (rfold_c Y4.out.2.1.arg Y4.out.2.2.1.fit (by have := Y4.out.2.2.2; omega)).mono ?_); rintro e w5 ⟨v5, C5, rfl, h1, h2, h3, h4⟩; obtain ⟨q5, k5, rfl⟩ := h1.shape; have Y5 : Hid (St w b s m p v (.slice qv L.length kv) L 0 0 w5 ∧ RR w.heap.size w5 (.slice q5 C5.length k5) C5 ∧ IsC C5 (setQ m L false) ∧ C5.length ≤ 60000) := ⟨Y4.out.1.kept h4, RR.mono h1 Y4.out.1.fr.size, set_fold Y4.out.2.2.1 HM.out h2, by have := Y4.out.2.2.2; omega⟩; have f1 := Y5.out.1.sx.c1; have fl := Y5.out.1.sx.lt; clear h1 h2 h3 h4)
                  | (go_at_call 22; refine ((St.room H.out Y5.out.1).1.put (t := setT m L false) (rv := .slice q5 C5.length k5) (C := C5) (RR.mono Y5.out.2.1 H.out.size) Y5.out.2.2.1 (H.out.new Y5.out.2.1) (n := NQ) HNQ.out.1 HNQ.out.2).mono ?_; rintro e w9 h9; have hz := h9.1; subst hz; have X9 : Hid (Puts base w b s m p D (.ok (setT m L false, K + 1)) (.returned (.tuple #[])) w9) := h9.from (St.room H.out Y5.out.1).2; clear h9)
                go_end0
                rw [HR.out]
                exact X9.out
            | false =>
              cases T with
              | true =>
                have k2 : w1.cell? ⟨b, 2, none⟩ = some (.bool false) := by have := X1.out.sx.c2; rw [hmf] at this; exact this
                have HM : Hid (m.f = false) := hmf
                clear hmf
                go_wp2_with first
                  | (go_at_call 38; (with_reducible refine (rnorm_c (m := m.c) X1.out.rr.arg HB.out.1.fit (by omega)).mono ?_); rintro e w4 ⟨v4, C4, rfl, h1, h2, h3, h4⟩; obtain ⟨q4, k4, rfl⟩ := h1.shape; have Y4 : Hid (St w b s m p v (.slice qv L.length kv) L 0 0 w4 ∧ RR w.heap.size w4 (.slice q4 C4.length k4) C4 ∧ IsC C4 (fun c => In L c ∧ isChar m.c c) ∧ C4.length ≤ 20000) := ⟨X1.out.kept h4, RR.mono h1 X1.out.fr.size, h2, by have := charsL_length m.c; have := Nat.mul_le_mul (show L.length ≤ 8000 by omega) this; omega⟩; have a2 : w4.cell? ⟨b, 2, none⟩ = some (.bool false) := (h4.cell (p := ⟨b, 2, none⟩) kl).trans k2; have a1 := Y4.out.1.sx.c1; have al := Y4.out.1.sx.lt; clear h1 h2 h3 h4)
                  | (go_at_call 40; (with_reducible refine (rnot_c (m := m.c) Y4.out.2.1.arg Y4.out.2.2.1.fit (by have := Y4.out.2.2.2; omega)).mono ?_); rintro e w6 ⟨v6, C6, rfl, h1, h2, h3, h4⟩; obtain ⟨q6, k6, rfl⟩ := h1.shape; have Y6 : Hid (St w b s m p v (.slice qv L.length kv) L 0 0 w6 ∧ RR w.heap.size w6 (.slice q6 C6.length k6) C6 ∧ IsC C6 (setQ m L true)) := ⟨Y4.out.1.kept h4, RR.mono h1 Y4.out.1.fr.size, set_not (set_norm Y4.out.2.2.1 HM.out) h2⟩; clear h1 h2 h3 h4)
                  | (go_at_call 22; refine ((St.room H.out Y6.out.1).1.put (t := setT m L true) (rv := .slice q6 C6.length k6) (C := C6) (RR.mono Y6.out.2.1 H.out.size) Y6.out.2.2 (H.out.new Y6.out.2.1) (n := NQ) HNQ.out.1 HNQ.out.2).mono ?_; rintro e w9 h9; have hz := h9.1; subst hz; have X9 : Hid (Puts base w b s m p D (.ok (setT m L true, K + 1)) (.returned (.tuple #[])) w9) := h9.from (St.room H.out Y6.out.1).2; clear h9)
                go_end0
                rw [HR.out]
                exact X9.out
              | false =>
                have k2 : w1.cell? ⟨b, 2, none⟩ = some (.bool false) := by have := X1.out.sx.c2; rw [hmf] at this; exact this
                have HM : Hid (m.f = false) := hmf
                clear hmf
                go_wp2_with first
                  | (go_at_call 38; (with_reducible refine (rnorm_c (m := m.c) X1.out.rr.arg HB.out.1.fit (by omega)).mono ?_); rintro e w4 ⟨v4, C4, rfl, h1, h2, h3, h4⟩; obtain ⟨q4, k4, rfl⟩ := h1.shape; have Y4 : Hid (St w b s m p v (.slice qv L.length kv) L 0 0 w4 ∧ RR w.heap.size w4 (.slice q4 C4.length k4) C4 ∧ IsC C4 (fun c => In L c ∧ isChar m.c c) ∧ C4.length ≤ 20000) := ⟨X1.out.kept h4, RR.mono h1 X1.out.fr.size, h2, by have := charsL_length m.c; have := Nat.mul_le_mul (show L.length ≤ 8000 by omega) this; omega⟩; have a2 : w4.cell? ⟨b, 2, none⟩ = some (.bool false) := (h4.cell (p := ⟨b, 2, none⟩) kl).trans k2; have a1 := Y4.out.1.sx.c1; have al := Y4.out.1.sx.lt; clear h1 h2 h3 h4)
                  | (go_at_call 22; refine ((St.room H.out Y4.out.1).1.put (t := setT m L false) (rv := .slice q4 C4.length k4) (C := C4) (RR.mono Y4.out.2.1 H.out.size) (set_norm Y4.out.2.2.1 HM.out) (H.out.new Y4.out.2.1) (n := NQ) HNQ.out.1 HNQ.out.2).mono ?_; rintro e w9 h9; have hz := h9.1; subst hz; have X9 : Hid (Puts base w b s m p D (.ok (setT m L false, K + 1)) (.returned (.tuple #[])) w9) := h9.from (St.room H.out Y4.out.1).2; clear h9)
                go_end0
                rw [HR.out]
                exact X9.out
          | false =>
            have HX : Hid (first = true ∨ sees s K [93] = false) := hide (by rw [← HB.out.2.1]; cases E <;> cases first <;> simp_all)
            clear hx
            go_upto_region 13 with first
              | (go_at_call 18; (with_reducible refine (CM.out _ X1.out.sx).mono ?_); rintro e w2 ⟨rfl, h5⟩; have X2 : Hid (St w b s m p v (.slice qv L.length kv) L 0 0 w2) := X1.out.kept h5; clear h5)
              | (go_at_call 18; (with_reducible refine (CQ.out _ X2.out.sx).mono ?_); rintro e w3 ⟨rfl, h5⟩; have X3 : Hid (St w b s m p v (.slice qv L.length kv) L 0 0 w3) := X2.out.kept h5; clear h5)
            go_cut [54] (fun c wx => c = .bool (M && !first && !Q) ∧ wx = w3)
            case first =>
              cases M with
              | false => go_wp2_with fail; go_meet; exact ⟨rfl, rfl⟩
              | true =>
                cases first with
                | true => go_wp2_with fail; go_meet; exact ⟨rfl, rfl⟩
                | false => cases Q <;> (go_wp2_with fail; go_meet; exact ⟨rfl, rfl⟩)
            case rest =>
              obtain ⟨rfl, hwc⟩ := hcut
              subst wc
              cases hx : (M && !first && !Q) with
              | true =>
                have hx1 : M = true ∧ first = false ∧ Q = false := by cases M <;> cases first <;> cases Q <;> simp_all
                obtain ⟨rfl, rfl, rfl⟩ := hx1
                clear hx
                have HN : Hid (nxt m s p K false = if K + 1 = s.size then .error (33, p) else .error (34, K)) := hide (itm_min HB.out.2.2.1.symm HB.out.2.2.2.symm)
                have k0 := X3.out.sx.c0
                have kl := X3.out.sx.lt
                have hv1 : IntKind.wrap .i64 ((K : Int) + 1) = (K : Int) + 1 := wrap_small _ (by omega) (by omega)
                have hKs : K < s.size := by
                  have := sees_len HB.out.2.2.1.symm (by simp)
                  simp only [List.length_cons, List.length_nil] at this
                  omega
                by_cases hz : K + 1 = s.size
                · have i1 : (s.size : Int) ≤ (K : Int) + 1 := by omega
                  have HR : Hid (RB = .error (33, p)) := hide (HRB.out.symm.trans (HB.out.1.err HX.out (by rw [HN.out, if_pos hz])))
                  have C33 : Calls Tryz.prog 19 #[.pointer (some ⟨b, 0, none⟩), .int .i64 33, .int .i64 (p : Int)] w3 (fun r w' => r = .returned (.tuple #[]) ∧ SX w' b s m p v 33 p ∧ Fr (At b) w3 w') := rno_new X3.out.sx 33 p
                  go_wp2_with first
                    | (go_at_call 19; (with_reducible refine C33.mono ?_); rintro e w4 ⟨rfl, h6, g6⟩; have X4 : Hid (St w b s m p v (.slice qv L.length kv) L 33 p w4) := X3.out.at g6 h6; have n5 : w4.cell? ⟨b, 5, none⟩ = some (.int .i64 33) := X4.out.sx.c5; have nl := X4.out.sx.lt; clear h6 g6)
                    | (go_at_call 19; (with_reducible refine (rno_old X4.out.sx (by decide) 34 (K : Int)).mono ?_); rintro e w5 ⟨rfl, h6⟩; subst w5)
                  go_end0
                  exact puts_err H.out X4.out HR.out
                · have i1 : ¬ (s.size : Int) ≤ (K : Int) + 1 := by omega
                  have HR : Hid (RB = .error (34, K)) := hide (HRB.out.symm.trans (HB.out.1.err HX.out (by rw [HN.out, if_neg hz])))
                  have C34 : Calls Tryz.prog 19 #[.pointer (some ⟨b, 0, none⟩), .int .i64 34, .int .i64 (K : Int)] w3 (fun r w' => r = .returned (.tuple #[]) ∧ SX w' b s m p v 34 K ∧ Fr (At b) w3 w') := rno_new X3.out.sx 34 K
                  go_wp2_with (go_at_call 19; (with_reducible refine C34.mono ?_); rintro e w4 ⟨rfl, h6, g6⟩; have X4 : Hid (St w b s m p v (.slice qv L.length kv) L 34 K w4) := X3.out.at g6 h6; have n5 : w4.cell? ⟨b, 5, none⟩ = some (.int .i64 34) := X4.out.sx.c5; have nl := X4.out.sx.lt; clear h6 g6)
                  go_end0
                  exact puts_err H.out X4.out HR.out
              | false =>
                have HN : Hid (nxt m s p K first = sgl m s p K) := hide (nxt_sgl (by rw [← HB.out.2.2.1, ← HB.out.2.2.2]; cases M <;> cases first <;> cases Q <;> simp_all))
                clear hx
                have CI : Hid (∀ W, SX W b s m p v 0 0 → _) := hide (fun W hW => ritem_c hW hs p K (by omega))
                cases hr : itmI m s p K with
                | error x =>
                  obtain ⟨c, a⟩ := x
                  rw [hr] at CI
                  have HR : Hid (RB = .error (c, a)) := hide (HRB.out.symm.trans (HB.out.1.err HX.out (HN.out.trans (sgl_err hK hr))))
                  have hc := itm_code (by omega) hK hr
                  have d1 : ((c : Int) != 0) = true := by simp; omega
                  clear hr
                  go_upto_region 18 with (go_at_call 37; (with_reducible refine (CI.out _ X3.out.sx).mono ?_); rintro e w4 h4; obtain ⟨ev, cv, q4, n4, k4, tv, rfl, gg⟩ := h4.val; have X4 : Hid (ItV w3 b s m p v (.error (c, a)) ev cv (.slice q4 n4 k4) tv w4) := gg; clear h4 gg)
                  have Z4 := X3.out.item X4.out
                  generalize w4.alloc (.cells #[.bool ev, .int .i64 cv, .slice q4 n4 k4, .int .i64 tv] 70) = W4 at Z4 ⊢
                  have Z5 : Hid (St w b s m p v (.slice qv L.length kv) L c a W4) := Z4.2.2
                  have n5 := Z5.out.sx.c5
                  have nl := Z5.out.sx.lt
                  clear Z4 X4
                  go_wp2
                  go_end0
                  exact puts_err H.out Z5.out HR.out
                | ok x =>
                  obtain ⟨e0, c0, L1, q⟩ := x
                  rw [hr] at CI
                  obtain ⟨o1, o2, o3, o4, o5, o6⟩ := itmI_ok (by omega) hK hr
                  have HI : Hid (itmI m s p K = .ok (e0, c0, L1, q) ∧ Fit L1 ∧ 0 ≤ c0 ∧ c0 ≤ 1114111) := ⟨hr, o3, o6⟩
                  clear hr o3 o6
                  go_upto_region 18 with (go_at_call 37; (with_reducible refine (CI.out _ X3.out.sx).mono ?_); rintro e w4 h4; obtain ⟨ev, cv, q4, n4, k4, tv, rfl, gg⟩ := h4.val; have X4 : Hid (ItV w3 b s m p v (.ok (e0, c0, L1, q)) ev cv (.slice q4 n4 k4) tv w4) := gg; clear h4 gg)
                  have Z4 := X3.out.item X4.out
                  generalize w4.alloc (.cells #[.bool ev, .int .i64 cv, .slice q4 n4 k4, .int .i64 tv] 70) = W4 at Z4 ⊢
                  obtain ⟨a1, -, rfl, rfl, rfl, a5, a6⟩ := Z4
                  obtain ⟨ad4, c4, e4⟩ := ownsRow_some a5 o4
                  cases e4
                  have Z5 : Hid (St w b s m p v (.slice qv L.length kv) L 0 0 W4 ∧ IA W4 w4.heap.size ev cv (.slice (some ⟨ad4, 0, none⟩) L1.length k4) (q : Int) ∧ RR w.heap.size W4 (.slice (some ⟨ad4, 0, none⟩) L1.length k4) L1) := ⟨a6, a1, a5⟩
                  have n5 : W4.cell? ⟨b, 5, none⟩ = some (.int .i64 0) := Z5.out.1.sx.c5
                  have nl := Z5.out.1.sx.lt
                  obtain ⟨m0, m1, m2, m3⟩ := Z5.out.2.1.all
                  have ml := Z5.out.2.1.lt
                  clear X4 a1 a5 a6
                  obtain ⟨M2, hM2⟩ : ∃ M2, M2 = sees s q [45] := ⟨_, rfl⟩
                  obtain ⟨Q2, hQ2⟩ : ∃ Q2, Q2 = sees s q [45, 93] := ⟨_, rfl⟩
                  have CM2 : Hid (∀ W, SX W b s m p v 0 0 → _) := hide (ris1 hs q (by omega) 45 hM2)
                  have CQ2 : Hid (∀ W, SX W b s m p v 0 0 → _) := hide (ris2 hs q (by omega) 45 93 hQ2)
                  have HM2 : Hid (M2 = sees s q [45] ∧ Q2 = sees s q [45, 93]) := ⟨hM2, hQ2⟩
                  clear hM2 hQ2
                  go_upto_region 21 with first
                    | (go_at_call 18; (with_reducible refine (CM2.out _ Z5.out.1.sx).mono ?_); rintro e w5 ⟨rfl, h5⟩; have X5 : Hid (St w b s m p v (.slice qv L.length kv) L 0 0 w5 ∧ IA w5 w4.heap.size ev cv (.slice (some ⟨ad4, 0, none⟩) L1.length k4) (q : Int) ∧ RR w.heap.size w5 (.slice (some ⟨ad4, 0, none⟩) L1.length k4) L1) := ⟨Z5.out.1.kept h5, Z5.out.2.1.kept h5, Z5.out.2.2.kept h5⟩; obtain ⟨j0, j1, j2, j3⟩ := X5.out.2.1.all; have jl := X5.out.2.1.lt; clear h5)
                    | (go_at_call 18; (with_reducible refine (CQ2.out _ X5.out.1.sx).mono ?_); rintro e w6 ⟨rfl, h5⟩; have X6 : Hid (St w b s m p v (.slice qv L.length kv) L 0 0 w6 ∧ IA w6 w4.heap.size ev cv (.slice (some ⟨ad4, 0, none⟩) L1.length k4) (q : Int) ∧ RR w.heap.size w6 (.slice (some ⟨ad4, 0, none⟩) L1.length k4) L1) := ⟨X5.out.1.kept h5, X5.out.2.1.kept h5, X5.out.2.2.kept h5⟩; obtain ⟨j0, j1, j2, j3⟩ := X6.out.2.1.all; have jl := X6.out.2.1.lt; clear h5)
                  go_cut [95] (fun c wx => c = .bool (!ev || !M2 || Q2) ∧ wx = w6)
                  case first =>
                    cases ev with
                    | false => go_wp2_with fail; go_meet; exact ⟨rfl, rfl⟩
                    | true =>
                      cases M2 with
                      | false => go_wp2_with fail; go_meet; exact ⟨rfl, rfl⟩
                      | true => cases Q2 <;> (go_wp2_with fail; go_meet; exact ⟨rfl, rfl⟩)
                  case rest =>
                    obtain ⟨rfl, hwc⟩ := hcut
                    subst wc
                    cases hx : (!ev || !M2 || Q2) with
                    | true =>
                      have HS : Hid (sgl m s p K = .ok (L1, q)) := hide (sgl_one hK HI.out.1 (by rw [← HM2.out.1, ← HM2.out.2]; cases ev <;> cases M2 <;> cases Q2 <;> simp_all))
                      clear hx
                      have NW : Hid (∀ j u, (cellsR L1)[j]? = some u → w6.cell? ((⟨ad4, 0, none⟩ : Addr).add j) = some u) := X6.out.2.2.arg.news
                      have hbs : w.heap.size ≤ w6.heap.size := X6.out.1.fr.size
                      go_wp2_with (at_builtin; refine wpList_append_own_at _ rfl _ _ 35 rfl w.heap.size 39 t0 (.agg #[.int .i64 0, .int .i64 0]) 2 16 und_ranges ti hz0 hz1 hz2 rfl (by decide) (.slice qv L.length kv) L.length (cellsR L) rfl X6.out.1.rr ⟨ad4, 0, none⟩ L1.length k4 (cellsR L1) rfl (cellsR_length L1) NW.out (cellsR_one L1) (by unfold maxLen; omega) (by omega) hbs ?_; intro v' w7 hown' hgrow _ hblk; obtain ⟨q7, k7, rfl⟩ := ownsRow_shape hown'; have A7 := X6.out.1.app (Below.refl _ _) hgrow (rr_apps hown'); have X7 : Hid (St w b s m p v (.slice q7 (L.length + L1.length) k7) (L ++ L1) 0 0 w7 ∧ IA w7 w4.heap.size ev cv (.slice (some ⟨ad4, 0, none⟩) L1.length k4) (q : Int)) := ⟨A7.1, A7.2 _ _ _ _ _ X6.out.2.1⟩; obtain ⟨i0, i1, i2, i3⟩ := X7.out.2.all; have il := X7.out.2.lt; clear hown' hgrow hblk A7)
                      go_roundw
                      case rel => exact .inl ⟨false, q, L ++ L1, rfl, rfl, X7.out.1, HB.out.1.next HX.out (HN.out.trans HS.out) HI.out.2.1 o5⟩
                      case measure =>
                        rw [GM.out]
                        unfold bkM
                        rw [X7.out.1.sx.er]
                        simp [intOf]
                        omega
                    | false =>
                      have HS : Hid (Spn m s p K q cv) := by
                        have h1 : ev = true ∧ M2 = true ∧ Q2 = false := by cases ev <;> cases M2 <;> cases Q2 <;> simp_all
                        obtain ⟨rfl, rfl, rfl⟩ := h1
                        exact ⟨⟨L1, HI.out.1⟩, HM2.out.1.symm, HM2.out.2.symm⟩
                      clear hx
                      have hq1 : q + 1 ≤ s.size := by
                        have := sees_len HS.out.min (by simp)
                        simp only [List.length_cons, List.length_nil] at this
                        omega
                      obtain ⟨q0, hq0⟩ : ∃ q0, q0 = q + 1 := ⟨_, rfl⟩
                      have hv3 : IntKind.wrap .i64 ((q : Int) + 1) = (q0 : Int) := by rw [wrap_small _ (by omega) (by omega)]; omega
                      obtain ⟨A2, hA2⟩ : ∃ A2, A2 = sees s q0 [91, 58] := ⟨_, rfl⟩
                      obtain ⟨B2, hB2⟩ : ∃ B2, B2 = sees s q0 [91, 61] := ⟨_, rfl⟩
                      have CA2 : Hid (∀ W, SX W b s m p v 0 0 → _) := hide (ris2 hs q0 (by omega) 91 58 hA2)
                      have CB2 : Hid (∀ W, SX W b s m p v 0 0 → _) := hide (ris2 hs q0 (by omega) 91 61 hB2)
                      have HAB : Hid (A2 = sees s q0 [91, 58] ∧ B2 = sees s q0 [91, 61] ∧ q0 = q + 1) := ⟨hA2, hB2, hq0⟩
                      have hq0s : q0 ≤ s.size := by omega
                      clear hA2 hB2 hq0
                      obtain ⟨i0, i1, i2, i3⟩ := X6.out.2.1.all
                      have il := X6.out.2.1.lt
                      go_upto_region 27 with first
                        | (go_at_call 18; (with_reducible refine (CA2.out _ X6.out.1.sx).mono ?_); rintro e w7 ⟨rfl, h5⟩; have X7 : Hid (St w b s m p v (.slice qv L.length kv) L 0 0 w7 ∧ IA w7 w4.heap.size ev cv (.slice (some ⟨ad4, 0, none⟩) L1.length k4) (q : Int) ∧ RR w.heap.size w7 (.slice (some ⟨ad4, 0, none⟩) L1.length k4) L1) := ⟨X6.out.1.kept h5, X6.out.2.1.kept h5, X6.out.2.2.kept h5⟩; obtain ⟨j0, j1, j2, j3⟩ := X7.out.2.1.all; have jl := X7.out.2.1.lt; clear h5)
                        | (go_at_call 18; (with_reducible refine (CB2.out _ X7.out.1.sx).mono ?_); rintro e w8 ⟨rfl, h5⟩; have X8 : Hid (St w b s m p v (.slice qv L.length kv) L 0 0 w8 ∧ IA w8 w4.heap.size ev cv (.slice (some ⟨ad4, 0, none⟩) L1.length k4) (q : Int) ∧ RR w.heap.size w8 (.slice (some ⟨ad4, 0, none⟩) L1.length k4) L1) := ⟨X7.out.1.kept h5, X7.out.2.1.kept h5, X7.out.2.2.kept h5⟩; obtain ⟨j0, j1, j2, j3⟩ := X8.out.2.1.all; have jl := X8.out.2.1.lt; clear h5)
                      go_cut [114] (fun c wx => c = .bool (A2 || B2) ∧ wx = w8)
                      case first =>
                        cases A2 with
                        | true => go_wp2_with fail; go_meet; exact ⟨rfl, rfl⟩
                        | false => cases B2 <;> (go_wp2_with fail; go_meet; exact ⟨rfl, rfl⟩)
                      case rest =>
                        obtain ⟨rfl, hwc⟩ := hcut
                        subst wc
                        cases hx : (A2 || B2) with
                        | true =>
                          have HR : Hid (RB = .error (34, K)) := hide (HRB.out.symm.trans (HB.out.1.err HX.out (HN.out.trans (HS.out.cls hK (by rw [← HAB.out.2.2, ← HAB.out.1, ← HAB.out.2.1]; cases A2 <;> cases B2 <;> simp_all)))))
                          clear hx
                          have C34 : Calls Tryz.prog 19 #[.pointer (some ⟨b, 0, none⟩), .int .i64 34, .int .i64 (K : Int)] w8 (fun r w' => r = .returned (.tuple #[]) ∧ SX w' b s m p v 34 K ∧ Fr (At b) w8 w') := rno_new X8.out.1.sx 34 K
                          go_wp2_with (go_at_call 19; (with_reducible refine C34.mono ?_); rintro e w9 ⟨rfl, h6, g6⟩; have X9 : Hid (St w b s m p v (.slice qv L.length kv) L 34 K w9) := X8.out.1.at g6 h6; have n9 : w9.cell? ⟨b, 5, none⟩ = some (.int .i64 34) := X9.out.sx.c5; have nl9 := X9.out.sx.lt; clear h6 g6)
                          go_end0
                          exact puts_err H.out X9.out HR.out
                        | false =>
                          have HC : Hid (sees s (q + 1) [91, 58] = false ∧ sees s (q + 1) [91, 61] = false) := hide (by rw [← HAB.out.2.2, ← HAB.out.1, ← HAB.out.2.1]; cases A2 <;> cases B2 <;> simp_all)
                          clear hx
                          have CJ : Hid (∀ W, SX W b s m p v 0 0 → _) := hide (fun W hW => ritem_c hW hs p q0 (by omega))
                          cases hr : itmI m s p q0 with
                          | error x =>
                            obtain ⟨c, a⟩ := x
                            rw [hr] at CJ
                            have hc := itm_code (by omega) (by omega) hr
                            have HR : Hid (RB = .error (c, a)) := hide (HRB.out.symm.trans (HB.out.1.err HX.out (HN.out.trans (HS.out.err hK hq1 HC.out.1 HC.out.2 (by rw [← HAB.out.2.2]; exact hr)))))
                            have d0 : ((c : Int) == 0) = false := by simp; omega
                            clear hr
                            go_upto_region 30 with (go_at_call 37; (with_reducible refine (CJ.out _ X8.out.1.sx).mono ?_); rintro e w9 h4; obtain ⟨ev9, cv9, q9, n9, k9, tv9, rfl, gg⟩ := h4.val; have XJ : Hid (ItV w8 b s m p v (.error (c, a)) ev9 cv9 (.slice q9 n9 k9) tv9 w9) := gg; clear h4 gg)
                            have Y9 := X8.out.1.item XJ.out
                            generalize w9.alloc (.cells #[.bool ev9, .int .i64 cv9, .slice q9 n9 k9, .int .i64 tv9] 70) = W9 at Y9 ⊢
                            have Z9 : Hid (St w b s m p v (.slice qv L.length kv) L c a W9 ∧ IA W9 w4.heap.size ev cv (.slice (some ⟨ad4, 0, none⟩) L1.length k4) (q : Int) ∧ IA W9 w9.heap.size ev9 cv9 (.slice q9 n9 k9) tv9) := ⟨Y9.2.2, Y9.2.1 _ _ _ _ _ X8.out.2.1, Y9.1⟩
                            clear Y9
                            obtain ⟨f0, f1, f2, f3⟩ := Z9.out.2.1.all
                            obtain ⟨u0, u1, u2, u3⟩ := Z9.out.2.2.all
                            have fl := Z9.out.2.1.lt
                            have ul := Z9.out.2.2.lt
                            have bl9 := Z9.out.1.sx.lt
                            have hbs9 : w.heap.size ≤ W9.heap.size := Z9.out.1.fr.size
                            have n9e := Z9.out.1.sx.c5
                            go_wp2_with (at_builtin; refine wpList_append_own_at _ rfl _ _ 35 rfl w.heap.size 39 t0 (.agg #[.int .i64 0, .int .i64 0]) 2 16 und_ranges ti hz0 hz1 hz2 rfl (by decide) (.slice qv L.length kv) L.length (cellsR L) rfl (World.ownsRow.alloc Z9.out.1.rr (.cells #[.int .i64 cv, .int .i64 cv9] 39)) ⟨W9.heap.size, 0, none⟩ 1 1 [.int .i64 cv, .int .i64 cv9] rfl rfl (news2 _ _ _ _) (by simp [Value.oneCell']) (by unfold maxLen; omega) (by omega) (by simp; omega) ?_; intro v' w11 hown' hgrow _ hblk; obtain ⟨q7, k7, rfl⟩ := ownsRow_shape hown'; have A7 := Z9.out.1.app ((Below.refl _ _).alloc (Nat.le_refl _) _) hgrow (rr_apps (L := [(cv, cv9)]) hown'); have X10 : Hid (St w b s m p v (.slice q7 (L.length + 1) k7) (L ++ [(cv, cv9)]) c a w11 ∧ IA w11 w9.heap.size ev9 cv9 (.slice q9 n9 k9) tv9) := ⟨A7.1, A7.2 _ _ _ _ _ Z9.out.2.2⟩; obtain ⟨x0, x1, x2, x3⟩ := X10.out.2.all; have xl := X10.out.2.lt; clear hown' hgrow hblk A7)
                            go_roundw
                            case rel => exact .inr ⟨c, a, tv9, L ++ [(cv, cv9)], false, rfl, rfl, X10.out.1, hc, HR.out⟩
                            case measure =>
                              rw [GM.out]
                              unfold bkM
                              rw [X10.out.1.sx.er, if_neg hc]
                              omega
                          | ok x =>
                            obtain ⟨e2, hi, L2, r2⟩ := x
                            rw [hr] at CJ
                            obtain ⟨p1, p2, p3, p4, p5, p6⟩ := itmI_ok (by omega) (by omega) hr
                            have HJ : Hid (0 ≤ hi ∧ hi ≤ 1114111) := p6
                            have HSP : Hid (sgl m s p K = if hi < cv then .error (34, K) else .ok ([(cv, hi)], r2)) := hide (HS.out.ok hK hq1 HC.out.1 HC.out.2 (by rw [← HAB.out.2.2]; exact hr))
                            clear hr p3 p4 p5 p6
                            have hqr : q < r2 := by have := HAB.out.2.2; omega
                            clear p1
                            go_upto_region 30 with (go_at_call 37; (with_reducible refine (CJ.out _ X8.out.1.sx).mono ?_); rintro e w9 h4; obtain ⟨ev9, cv9, q9, n9, k9, tv9, rfl, gg⟩ := h4.val; have XJ : Hid (ItV w8 b s m p v (.ok (e2, hi, L2, r2)) ev9 cv9 (.slice q9 n9 k9) tv9 w9) := gg; clear h4 gg)
                            have Y9 := X8.out.1.item XJ.out
                            generalize w9.alloc (.cells #[.bool ev9, .int .i64 cv9, .slice q9 n9 k9, .int .i64 tv9] 70) = W9 at Y9 ⊢
                            obtain ⟨a1, a2, rfl, rfl, rfl, -, a6⟩ := Y9
                            have Z9 : Hid (St w b s m p v (.slice qv L.length kv) L 0 0 W9 ∧ IA W9 w4.heap.size ev cv (.slice (some ⟨ad4, 0, none⟩) L1.length k4) (q : Int) ∧ IA W9 w9.heap.size ev9 cv9 (.slice q9 n9 k9) (r2 : Int)) := ⟨a6, a2 _ _ _ _ _ X8.out.2.1, a1⟩
                            clear a1 a2 a6
                            by_cases hlt : cv9 < cv
                            · have HR : Hid (RB = .error (34, K)) := hide (HRB.out.symm.trans (HB.out.1.err HX.out (HN.out.trans (by rw [HSP.out, if_pos hlt]))))
                              have n9' : W9.cell? ⟨b, 5, none⟩ = some (.int .i64 0) := Z9.out.1.sx.c5
                              obtain ⟨f0, f1, f2, f3⟩ := Z9.out.2.1.all
                              obtain ⟨u0, u1, u2, u3⟩ := Z9.out.2.2.all
                              have fl := Z9.out.2.1.lt
                              have ul := Z9.out.2.2.lt
                              have bl9 := Z9.out.1.sx.lt
                              have C34 : Calls Tryz.prog 19 #[.pointer (some ⟨b, 0, none⟩), .int .i64 34, .int .i64 (K : Int)] W9 (fun r w' => r = .returned (.tuple #[]) ∧ SX w' b s m p v 34 K ∧ Fr (At b) W9 w') := rno_new Z9.out.1.sx 34 K
                              go_wp2_with first
                                | (go_at_call 19; (with_reducible refine C34.mono ?_); rintro e w10 ⟨rfl, h6, g6⟩; have Y10 : Hid (St w b s m p v (.slice qv L.length kv) L 34 K w10 ∧ IA w10 w4.heap.size ev cv (.slice (some ⟨ad4, 0, none⟩) L1.length k4) (q : Int) ∧ IA w10 w9.heap.size ev9 cv9 (.slice q9 n9 k9) (r2 : Int)) := ⟨Z9.out.1.at g6 h6, Z9.out.2.1.sx Z9.out.1.sx g6, Z9.out.2.2.sx Z9.out.1.sx g6⟩; obtain ⟨f0, f1, f2, f3⟩ := Y10.out.2.1.all; obtain ⟨u0, u1, u2, u3⟩ := Y10.out.2.2.all; have fl := Y10.out.2.1.lt; have ul := Y10.out.2.2.lt; have hbs10 : w.heap.size ≤ w10.heap.size := Y10.out.1.fr.size; clear h6 g6)
                                | (at_builtin; refine wpList_append_own_at _ rfl _ _ 35 rfl w.heap.size 39 t0 (.agg #[.int .i64 0, .int .i64 0]) 2 16 und_ranges ti hz0 hz1 hz2 rfl (by decide) (.slice qv L.length kv) L.length (cellsR L) rfl (World.ownsRow.alloc Y10.out.1.rr (.cells #[.int .i64 cv, .int .i64 cv9] 39)) ⟨w10.heap.size, 0, none⟩ 1 1 [.int .i64 cv, .int .i64 cv9] rfl rfl (news2 _ _ _ _) (by simp [Value.oneCell']) (by unfold maxLen; omega) (by omega) (by simp; omega) ?_; intro v' w11 hown' hgrow _ hblk; obtain ⟨q7, k7, rfl⟩ := ownsRow_shape hown'; have A7 := Y10.out.1.app ((Below.refl _ _).alloc (Nat.le_refl _) _) hgrow (rr_apps (L := [(cv, cv9)]) hown'); have X10 : Hid (St w b s m p v (.slice q7 (L.length + 1) k7) (L ++ [(cv, cv9)]) 34 K w11 ∧ IA w11 w9.heap.size ev9 cv9 (.slice q9 n9 k9) (r2 : Int)) := ⟨A7.1, A7.2 _ _ _ _ _ Y10.out.2.2⟩; obtain ⟨x0, x1, x2, x3⟩ := X10.out.2.all; have xl := X10.out.2.lt; clear hown' hgrow hblk A7)
                              go_roundw
                              case rel => exact .inr ⟨34, K, (r2 : Int), L ++ [(cv, cv9)], false, rfl, rfl, X10.out.1, by decide, HR.out⟩
                              case measure =>
                                rw [GM.out]
                                unfold bkM
                                rw [X10.out.1.sx.er, if_neg (by decide)]
                                omega
                            · have HSO : Hid (sgl m s p K = .ok ([(cv, cv9)], r2)) := hide (by rw [HSP.out, if_neg hlt])
                              have n9' : W9.cell? ⟨b, 5, none⟩ = some (.int .i64 0) := Z9.out.1.sx.c5
                              have HFT : Hid (Fit [(cv, cv9)]) := hide (fit_two HI.out.2.2 HJ.out)
                              obtain ⟨f0, f1, f2, f3⟩ := Z9.out.2.1.all
                              obtain ⟨u0, u1, u2, u3⟩ := Z9.out.2.2.all
                              have fl := Z9.out.2.1.lt
                              have ul := Z9.out.2.2.lt
                              have bl9 := Z9.out.1.sx.lt
                              have hbs9 : w.heap.size ≤ W9.heap.size := Z9.out.1.fr.size
                              go_wp2_with (at_builtin; refine wpList_append_own_at _ rfl _ _ 35 rfl w.heap.size 39 t0 (.agg #[.int .i64 0, .int .i64 0]) 2 16 und_ranges ti hz0 hz1 hz2 rfl (by decide) (.slice qv L.length kv) L.length (cellsR L) rfl (World.ownsRow.alloc Z9.out.1.rr (.cells #[.int .i64 cv, .int .i64 cv9] 39)) ⟨W9.heap.size, 0, none⟩ 1 1 [.int .i64 cv, .int .i64 cv9] rfl rfl (news2 _ _ _ _) (by simp [Value.oneCell']) (by unfold maxLen; omega) (by omega) (by simp; omega) ?_; intro v' w11 hown' hgrow _ hblk; obtain ⟨q7, k7, rfl⟩ := ownsRow_shape hown'; have A7 := Z9.out.1.app ((Below.refl _ _).alloc (Nat.le_refl _) _) hgrow (rr_apps (L := [(cv, cv9)]) hown'); have X10 : Hid (St w b s m p v (.slice q7 (L.length + 1) k7) (L ++ [(cv, cv9)]) 0 0 w11 ∧ IA w11 w9.heap.size ev9 cv9 (.slice q9 n9 k9) (r2 : Int)) := ⟨A7.1, A7.2 _ _ _ _ _ Z9.out.2.2⟩; obtain ⟨x0, x1, x2, x3⟩ := X10.out.2.all; have xl := X10.out.2.lt; clear hown' hgrow hblk A7)
                              go_roundw
                              case rel => exact .inl ⟨false, r2, L ++ [(cv, cv9)], rfl, rfl, X10.out.1, HB.out.1.next HX.out (HN.out.trans HSO.out) HFT.out (by simp)⟩
                              case measure =>
                                rw [GM.out]
                                unfold bkM
                                rw [X10.out.1.sx.er]
                                simp [intOf]
                                omega
      · obtain ⟨qv, kv, rfl⟩ := hst.rr.shape
        have G : Hid (St w b s m p v (.slice qv L.length kv) L c a wr ∧ RB = .error (c, a)) := ⟨hst, hre⟩
        have g5 := hst.sx.c5
        have gl := hst.sx.lt
        have d0 : ((c : Int) == 0) = false := by simp; omega
        have d1 : ((c : Int) != 0) = true := by simp; omega
        clear hst hre
        go_wp2
        go_end0
        exact puts_err H.out G.out.1 G.out.2
end Go.Proofs.YtloeajhmmjdlgaaGreatDoor
namespace Go.Proofs.YtloeajhmmjdlgaaGreatDoor
open Go Go.RowKit
attribute [local go_sem] ext_cell

section
variable {base : Nat} {w : World} {b : Nat} {s : ByteArray} {m : Md} {p : Nat} {v : Value} {D : List Dt} {last : Nat}
set_option maxRecDepth 100000 in
set_option maxHeartbeats 4000000 in
theorem rtok_brk (h : Room base w b s m p v D) (hk : LK w b v last) {n : Nat} (hu : un m s p = (91, n)) :
    Calls Tryz.prog 10 #[.pointer (some ⟨b, 0, none⟩)] w (Puts base w b s m p D (brk m s p)) := by
  have hs := h.len
  have hp := h.at_
  have c0 := h.sx.c0
  have c1 := h.sx.c1
  have c3 := h.sx.c3
  have lb := h.sx.lt
  have bs := h.size
  obtain ⟨P1, hP1⟩ : ∃ P1, P1 = p + 1 := ⟨_, rfl⟩
  have hw1 : IntKind.wrap .i64 ((p : Int) + 1) = (P1 : Int) := by rw [wrap_small _ (by omega) (by omega)]; omega
  obtain ⟨CL, hCL⟩ : ∃ CL, CL = sees s P1 [92, 41] := ⟨_, rfl⟩
  obtain ⟨OR, hOR⟩ : ∃ OR, OR = sees s P1 [92, 124] := ⟨_, rfl⟩
  obtain ⟨EN, hEN⟩ : ∃ EN, EN = decide (P1 = s.size) := ⟨_, rfl⟩
  have dEN : ((P1 : Int) == (s.size : Int)) = EN := by rw [hEN, Bool.eq_iff_iff]; simp; omega
  have CC : Hid (∀ W, SX W b s m p v 0 0 → _) := hide (ris2 hs P1 (by omega) 92 41 hCL)
  have CO : Hid (∀ W, SX W b s m p v 0 0 → _) := hide (ris2 hs P1 (by omega) 92 124 hOR)
  have hU : ∀ W, Calls Tryz.prog 15 #[.string s, .int .i64 (p : Int), .bool m.c] W fun e w' => e = .returned (.tuple #[.int .i64 91, .int .i64 ((n : Nat) : Int)]) ∧ Below W.heap.size W w' := fun W => by
    have := runit_c s p m W hp hs
    rw [hu] at this
    exact this
  have H : Hid (Room base w b s m p v D ∧ LK w b v last) := ⟨h, hk⟩
  clear h hk hP1 hCL hOR hEN hu
  go_enter Tryz.func10, Tryz.ntmps10
  go_wp2
  refine wp_region_ext (by kernel_rfl) (by kernel_rfl) ?_
  repeat (go_big_quiet_step (first | exact rfl | (go_at_call 15; exact ext_call (hU _))))
  refine wpQuiet_nil ?_
  intro w5 hw5
  have X5 : Hid (Room base w5 b s m p v D ∧ LK w5 b v last ∧ Below base w w5) := ⟨H.out.1.kept (ext_of hw5), H.out.2.kept (ext_of hw5), (ext_of hw5).mono bs⟩
  clear hw5
  go_wp2_with first
    | (go_at_call 16; (with_reducible refine (rbegin_c X5.out.1.sx X5.out.2.1).mono ?_); rintro e w6 ⟨rfl, h6⟩; have X6 : Hid (Room base w6 b s m p v D ∧ LK w6 b v last ∧ Below base w w6) := ⟨X5.out.1.kept h6, X5.out.2.1.kept h6, X5.out.2.2.trans (h6.mono X5.out.1.size)⟩; clear h6)
    | (go_at_call 17; (with_reducible refine (ropens_c X6.out.1.sx X6.out.2.1).mono ?_); rintro e w7 ⟨rfl, h6⟩; have X7 : Hid (Room base w7 b s m p v D ∧ LK w7 b v last ∧ Below base w w7) := ⟨X6.out.1.kept h6, X6.out.2.1.kept h6, X6.out.2.2.trans (h6.mono X6.out.1.size)⟩; have q0 := X7.out.1.sx.c0; have q3 := X7.out.1.sx.c3; have ql := X7.out.1.sx.lt; clear h6)
  refine wp_region_ext (by kernel_rfl) (by kernel_rfl) ?_
  repeat (go_big_quiet_step (first | exact rfl))
  refine wpQuiet_nil ?_
  intro w8 hw8
  have X8 : Hid (Room base w8 b s m p v D ∧ LK w8 b v last ∧ Below base w w8) := ⟨X7.out.1.kept (ext_of hw8), X7.out.2.1.kept (ext_of hw8), X7.out.2.2.trans ((ext_of hw8).mono X7.out.1.size)⟩
  have r3 := X8.out.1.sx.c3
  have rl := X8.out.1.sx.lt
  clear hw8
  go_wp2_with first
    | (go_at_call 18; (with_reducible refine (CC.out _ X8.out.1.sx).mono ?_); rintro e w9 ⟨rfl, h6⟩; have X9 : Hid (Room base w9 b s m p v D ∧ LK w9 b v last ∧ Below base w w9) := ⟨X8.out.1.kept h6, X8.out.2.1.kept h6, X8.out.2.2.trans (h6.mono X8.out.1.size)⟩; have s3 := X9.out.1.sx.c3; have sl := X9.out.1.sx.lt; clear h6)
    | (go_at_call 18; (with_reducible refine (CO.out _ X9.out.1.sx).mono ?_); rintro e w10 ⟨rfl, h6⟩; have X10 : Hid (Room base w10 b s m p v D ∧ LK w10 b v last ∧ Below base w w10) := ⟨X9.out.1.kept h6, X9.out.2.1.kept h6, X9.out.2.2.trans (h6.mono X9.out.1.size)⟩; have t3 := X10.out.1.sx.c3; have t1 := X10.out.1.sx.c1; have tl := X10.out.1.sx.lt; clear h6)
    | (go_at_call 21; (with_reducible refine (rbracket_c X10.out.1).mono ?_); rintro e w11 h9; have hz := h9.1; subst hz; have X11 : Hid (Puts base w b s m p D (brk m s p) (.returned (.tuple #[])) w11) := h9.from X10.out.2.2; clear h9)
  go_end0
  exact X11.out
theorem rtoken_c (h : Room base w b s m p v D) (hk : LK w b v last) (h0 : last = 0 ↔ p = 0) :
    Calls Tryz.prog 10 #[.pointer (some ⟨b, 0, none⟩)] w (Puts base w b s m p D (tok m s p last)) := by
  have hp := h.at_
  cases hu : un m s p with
  | mk c n =>
    have hop : (p == 0 || last == 3 || last == 5) = opn last := by
      unfold opn
      congr 2
      rw [Bool.eq_iff_iff]
      simp only [beq_iff_eq]
      exact h0.symm
    rw [tok_un hp hu, hop]
    by_cases e92 : c = 92
    · subst e92
      rw [if_pos rfl]
      exact rtok_esc h hk hu
    rw [if_neg e92]
    by_cases e42 : c = 42
    · subst e42
      cases hbg : atBeg last with
      | false =>
        rw [if_pos ⟨rfl, rfl⟩]
        exact rtok_star h hk hu hbg
      | true =>
        simp only [Int.reduceEq, false_and, and_false, if_false, Bool.true_eq_false, Int.reduceLT]
        exact rtok_chr42 h hk hu hbg
    rw [if_neg (fun q => e42 q.1)]
    by_cases e94 : c = 94
    · subst e94
      cases hbg : opn last with
      | true =>
        rw [if_pos ⟨rfl, rfl⟩]
        exact rtok_beg h hk hu hbg
      | false =>
        simp only [Int.reduceEq, false_and, and_false, if_false, Bool.false_eq_true, Int.reduceLT]
        exact rtok_chr94 h hk hu hbg
    rw [if_neg (fun q => e94 q.1)]
    by_cases e36 : c = 36
    · subst e36
      cases hbg : endsB s p with
      | true =>
        rw [if_pos ⟨rfl, rfl⟩]
        unfold endsB at hbg
        by_cases g1 : p + 1 = s.size
        · exact rtok_end1 h hk hu g1
        · cases g2 : sees s (p + 1) [92, 41] with
          | true => exact rtok_end2 h hk hu g1 g2
          | false => exact rtok_end3 h hk hu g1 g2 (by rw [g2] at hbg; simpa [g1] using hbg)
      | false =>
        simp only [Int.reduceEq, and_false, if_false, Bool.false_eq_true, Int.reduceLT]
        exact rtok_chr36 h hk hu hbg
    rw [if_neg (fun q => e36 q.1)]
    by_cases e46 : c = 46
    · subst e46
      rw [if_pos rfl]
      exact rtok_all h hk hu
    rw [if_neg e46]
    by_cases e91 : c = 91
    · subst e91
      rw [if_pos rfl]
      exact rtok_brk h hk hu
    rw [if_neg e91]
    by_cases hc : c < 0
    · rw [if_pos hc]
      exact rtok_neg h hk hu hc
    · rw [if_neg hc]
      exact rtok_chr h hk hu hc ⟨e92, e91, e46, e42, e94, e36⟩
end
end Go.Proofs.YtloeajhmmjdlgaaGreatDoor
namespace Go.Proofs.YtloeajhmmjdlgaaGreatDoor
open Go Go.RowKit
attribute [local go_sem] ext_cell

set_option maxRecDepth 100000 in
set_option maxHeartbeats 4000000 in
theorem rlex_short {w : World} (s : ByteArray) (m : Md) (hs : s.size ≤ 2000) :
    Calls Tryz.prog 5 #[.string s, .agg #[.bool m.c, .bool m.f]] w (RLexIs w (lx m s (s.size + 1) 0 [])) := by
  have d0 : ¬ (2000 : Int) < (s.size : Int) := by omega
  obtain ⟨RES, hRES⟩ : ∃ RES, lx m s (s.size + 1) 0 [] = RES := ⟨_, rfl⟩
  rw [hRES]
  have HRES : Hid (lx m s (s.size + 1) 0 [] = RES) := hRES
  clear hRES
  go_enter Tryz.func5, Tryz.ntmps5
  go_wp2
  go_loopw [29] (fun _ wr => LxR w (w.heap.size + 1) s m RES wr) (fun _ wr => lxM s (w.heap.size + 1) wr)
  case atStart =>
    have hz : (w.alloc (.cells #[.bool m.c, .bool m.f] 23)).heap.size = w.heap.size + 1 := by simp
    have h1 := alloc_new (w.alloc (.cells #[.bool m.c, .bool m.f] 23)) (.cells #[.string s, .bool m.c, .bool m.f, .int .i64 0, .slice none 0 0, .int .i64 0, .int .i64 0] 44)
    rw [hz] at h1
    exact ⟨((Below.refl _ _).alloc (Nat.le_refl _) _).alloc (by simp) _, .inl ⟨0, .slice none 0 0, [], [], h1, TL.nil _ _, rfl, fun _ => rfl, Stands.nil s, by omega, ⟨fun _ => rfl, fun _ => rfl⟩, s.size + 1, by omega, HRES.out⟩⟩
  case round =>
    obtain ⟨hb, hrel⟩ := hrel
    have HB : Hid (Below w.heap.size w wr) := hb
    clear hb
    rcases hrel with ⟨p, v, D, T, hli⟩ | ⟨p, v, c, a, hsx, hc, hre⟩
    · have L : Hid (LxI w.heap.size (w.heap.size + 1) s m RES p v D T wr) := hli
      have g5 : wr.cell? ⟨w.heap.size + 1, 5, none⟩ = some (.int .i64 0) := hli.sx.c5
      have g3 := hli.sx.c3
      have g4 := hli.sx.c4
      have gl := hli.sx.lt
      have GM : Hid (lxM s (w.heap.size + 1) wr = s.size + 1 - p) := hide (by unfold lxM; rw [hli.sx.er, hli.sx.ps, if_pos rfl])
      have hle := hli.le
      clear hli
      by_cases hlt : p < s.size
      · have j1 : (p : Int) < (s.size : Int) := by omega
        have hR := L.out.room hlt hs (by omega)
        have hT := rtoken_c hR.1 hR.2 L.out.zero
        clear hR
        cases ht : tok m s p (lastK T) with
        | error x =>
          obtain ⟨c, a⟩ := x
          rw [ht] at hT
          have E := hide (L.out.err hlt ht)
          clear ht
          go_wp2_with (go_at_call 10; (with_reducible refine hT.mono ?_); rintro e w8 ⟨rfl, h1, v8, h2⟩; have X8 : Hid (SX w8 (w.heap.size + 1) s m p v8 c a ∧ Below w.heap.size w w8) := ⟨h2, HB.out.trans h1⟩; clear h1 h2)
          go_roundw
          case rel => exact ⟨X8.out.2, .inr ⟨p, v8, c, a, X8.out.1, E.out.1, E.out.2⟩⟩
          case measure =>
            rw [GM.out]
            unfold lxM
            rw [X8.out.1.er, if_neg E.out.1]
            omega
        | ok x =>
          obtain ⟨t, q⟩ := x
          rw [ht] at hT
          have HT : Hid (tok m s p (lastK T) = .ok (t, q)) := ht
          clear ht
          go_wp2_with (go_at_call 10; (with_reducible refine hT.mono ?_); rintro e w8 ⟨rfl, h1, v8, rv, C, h2, h3⟩; have X8 : Hid (SX w8 (w.heap.size + 1) s m q v8 0 0 ∧ TL w.heap.size w8 v8 (D ++ [((t, p, q), rv, C)]) ∧ Below w.heap.size w w8) := ⟨h2, h3, HB.out.trans h1⟩; clear h1 h2 h3)
          have N := L.out.next hlt HT.out X8.out.1 X8.out.2.1
          go_roundw
          case rel => exact ⟨X8.out.2.2, .inl ⟨q, v8, _, _, N.1⟩⟩
          case measure =>
            rw [GM.out]
            unfold lxM
            rw [X8.out.1.er, X8.out.1.ps, if_pos rfl]
            have := N.2
            omega
      · have j1 : ¬ (p : Int) < (s.size : Int) := by omega
        have E := hide (L.out.ends hlt)
        obtain ⟨qv, kv, rfl⟩ := ownsRow_shape L.out.tl.own
        go_wp2
        go_ret3
        rw [E.out]
        exact ⟨HB.out, _, D, rfl, L.out.tl, L.out.map⟩
    · have G : Hid (SX wr (w.heap.size + 1) s m p v c a ∧ RES = .error (c, a)) := ⟨hsx, hre⟩
      have g5 := hsx.c5
      have g6 := hsx.c6
      have gl := hsx.lt
      have d1 : ((c : Int) == 0) = false := by simp; omega
      have d2 : ((c : Int) != 0) = true := by simp; omega
      clear hsx hre
      go_wp2
      refine wp_region_ext (by kernel_rfl) (by kernel_rfl) ?_
      repeat (go_big_quiet_step (first | exact rfl))
      refine wpQuiet_nil ?_
      intro w8 hw8
      have X8 : Hid (Below w.heap.size w w8) := chain HB.out (ext_of hw8) (Nat.le_refl _)
      clear hw8
      go_wp2
      go_ret3
      rw [G.out.2]
      exact ⟨X8.out, rfl⟩
theorem rlex_c {w : World} (s : ByteArray) (m : Md) :
    Calls Tryz.prog 5 #[.string s, .agg #[.bool m.c, .bool m.f]] w (RLexIs w (lexM m s)) := by
  unfold lexM
  by_cases hs : 2000 < s.size
  · rw [if_pos hs]
    exact rlex_long s m hs
  · rw [if_neg hs]
    exact rlex_short s m (by omega)
end Go.Proofs.YtloeajhmmjdlgaaGreatDoor
