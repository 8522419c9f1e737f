/-
  Parts of the proof.
-/
import Derived.Test.YtbghleihgcenmaaC3
import Derived.Test.YtbghleihgcenmaaC5
set_option linter.unusedSimpArgs false
namespace Go.Proofs.Ytbghleihgcenmaa
open Go Go.RowKit
def epsL (i : Ins) (a : Int) (bg en : Bool) : List Int :=
  if i.op = 2 then [i.x, i.y] else if i.op = 3 then [i.x] else if i.op = 6 ∨ i.op = 7 then [a + 1] else if i.op = 4 then (if bg then [a + 1] else []) else if i.op = 5 then (if en then [a + 1] else []) else []
abbrev epsP (s : List UInt8) (i : Ins) (a : Int) (pl : Nat) : List Int := epsL i a (decide (pl = 0)) (decide (pl = s.length))
def Rc (P : List Ins) (s : List UInt8) (b pl : Nat) (a : Int) : Prop :=
  ∀ R : Nat → Int → Prop, R b 0 → (∀ pl a i x, R pl a → P[a.toNat]? = some i → x ∈ epsP s i a pl → R pl x) → (∀ pl a i c, R pl a → P[a.toNat]? = some i → i.op = 1 → s[pl]? = some c → z1_shas i.s (c.toNat : Int) = true → R (pl + 1) (a + 1)) → R pl a
section
variable {P : List Ins} {s : List UInt8} {b pl : Nat} {a : Int}
theorem Rc.start : Rc P s b b 0 := fun _ h _ _ => h
theorem Rc.eps {i : Ins} {x : Int} (h : Rc P s b pl a) (hi : P[a.toNat]? = some i) (hx : x ∈ epsP s i a pl) : Rc P s b pl x := fun R h0 h1 h2 => h1 pl a i x (h R h0 h1 h2) hi hx
theorem Rc.byte {i : Ins} {c : UInt8} (h : Rc P s b pl a) (hi : P[a.toNat]? = some i) (ho : i.op = 1) (hc : s[pl]? = some c) (hs : z1_shas i.s (c.toNat : Int) = true) : Rc P s b (pl + 1) (a + 1) := fun R h0 h1 h2 => h2 pl a i c (h R h0 h1 h2) hi ho hc hs
theorem Rc.ind {Q : Nat → Int → Prop} (h : Rc P s b pl a) (h0 : Q b 0) (h1 : ∀ pl a i x, Rc P s b pl a → Q pl a → P[a.toNat]? = some i → x ∈ epsP s i a pl → Q pl x) (h2 : ∀ pl a i c, Rc P s b pl a → Q pl a → P[a.toNat]? = some i → i.op = 1 → s[pl]? = some c → z1_shas i.s (c.toNat : Int) = true → Q (pl + 1) (a + 1)) : Q pl a :=
  (h (fun pl a => Rc P s b pl a ∧ Q pl a) ⟨Rc.start, h0⟩ (fun pl a i x hr hi hx => ⟨hr.1.eps hi hx, h1 pl a i x hr.1 hr.2 hi hx⟩) (fun pl a i c hr hi ho hc hs => ⟨hr.1.byte hi ho hc hs, h2 pl a i c hr.1 hr.2 hi ho hc hs⟩)).2
theorem Rc.ge (h : Rc P s b pl a) : b ≤ pl := h.ind (Q := fun pl _ => b ≤ pl) (Nat.le_refl _) (fun _ _ _ _ _ q _ _ => q) (fun _ _ _ _ _ q _ _ _ _ => Nat.le_succ_of_le q)
theorem Rc.le (h : Rc P s b pl a) (hb : b ≤ s.length) : pl ≤ s.length := h.ind (Q := fun pl _ => pl ≤ s.length) hb (fun _ _ _ _ _ q _ _ => q) (fun _ _ _ _ _ _ _ _ hc _ => (List.getElem?_eq_some_iff.1 hc).1)
theorem Rc.mid (h : Rc P s b pl a) : ∀ m, b ≤ m → m ≤ pl → ∃ x, Rc P s b m x := by
  refine h.ind (Q := fun pl _ => ∀ m, b ≤ m → m ≤ pl → ∃ x, Rc P s b m x) ?_ ?_ ?_
  · intro m h1 h2
    obtain rfl : b = m := by omega
    exact ⟨0, Rc.start⟩
  · intro pl a i x _ q _ _
    exact q
  · intro pl a i c hr q hi ho hc hs m h1 h2
    rcases Nat.lt_or_ge pl m with h | h
    · obtain rfl : m = pl + 1 := by omega
      exact ⟨_, hr.byte hi ho hc hs⟩
    · exact q m h1 h
end
def Mt (P : List Ins) (s : List UInt8) (b e : Nat) : Prop := ∃ a i, Rc P s b e a ∧ P[a.toNat]? = some i ∧ i.op = 11
theorem Mt.ge {P : List Ins} {s : List UInt8} {b e : Nat} (h : Mt P s b e) : b ≤ e := by obtain ⟨a, i, h, _⟩ := h; exact h.ge
theorem Mt.le {P : List Ins} {s : List UInt8} {b e : Nat} (h : Mt P s b e) (hb : b ≤ s.length) : e ≤ s.length := by obtain ⟨a, i, h, _⟩ := h; exact h.le hb
theorem Mt.mid {P : List Ins} {s : List UInt8} {b e m : Nat} (h : Mt P s b e) (h1 : b ≤ m) (h2 : m ≤ e) : ∃ x, Rc P s b m x := by obtain ⟨a, i, h, _⟩ := h; exact h.mid m h1 h2
structure GP (P : List Ins) : Prop where
  pos : 0 < P.length
  len : P.length ≤ 40000
  eps : ∀ (a : Nat) i, P[a]? = some i → ∀ bg en, ∀ x ∈ epsL i a bg en, 0 ≤ x ∧ x < P.length
  nx : ∀ (a : Nat) i, P[a]? = some i → i.op = 1 → a + 1 < P.length
structure FinM (P : List Ins) (s : List UInt8) (first last : Nat) (fd : Bool) (F T : Int) : Prop where
  z : fd = false → F = 0 ∧ T = 0
  no : fd = false → ∀ b e, first ≤ b → b ≤ last → ¬ Mt P s b e
  yes : fd = true → ∃ b e : Nat, F = b ∧ T = e ∧ first ≤ b ∧ b ≤ last ∧ Mt P s b e ∧ ∀ b' e', first ≤ b' → b' ≤ last → Mt P s b' e' → b ≤ b' ∧ (b' = b → e' ≤ e)
structure Fd (P : List Ins) (s : List UInt8) (first last pl : Nat) (fd : Bool) (F T : Int) : Prop where
  z : fd = false → F = 0 ∧ T = 0
  no : fd = false → ∀ b e, first ≤ b → b ≤ last → e < pl → ¬ Mt P s b e
  yes : fd = true → ∃ b e : Nat, F = b ∧ T = e ∧ first ≤ b ∧ b ≤ last ∧ e < pl ∧ Mt P s b e ∧ ∀ b' e', first ≤ b' → b' ≤ last → e' < pl → Mt P s b' e' → b ≤ b' ∧ (b' = b → e' ≤ e)
structure Cw (P : List Ins) (s : List UInt8) (first last pl B : Nat) (X : List Int) (g : Int → Int) (fd : Bool) (F : Int) : Prop where
  snd : ∀ a ∈ X, ∃ b : Nat, g a = b ∧ first ≤ b ∧ b ≤ last ∧ b < B ∧ Rc P s b pl a
  srt : X.Pairwise (fun x y => g x ≤ g y)
  cmp : ∀ b a, first ≤ b → b ≤ last → b < B → (fd = true → (b : Int) ≤ F) → Rc P s b pl a → a ∈ X ∧ g a ≤ b
structure EnQ (P : List Ins) (s : List UInt8) (pl : Nat) (X N : List Int) (x : Int) : Prop where
  mem : x ∈ X ++ N
  src : ∀ y ∈ N, ∀ Q : Int → Prop, Q x → (∀ a i z, Q a → P[a.toNat]? = some i → z ∈ epsP s i a pl → Q z) → Q y
  clo : ∀ y ∈ N, ∀ i z, P[y.toNat]? = some i → z ∈ epsP s i y pl → z ∈ X ++ N
section
variable {P : List Ins} {s : List UInt8} {first last pl : Nat} {X N : List Int} {g g' : Int → Int} {fd : Bool} {F T : Int}
theorem cw_skip (h : Cw P s first last pl pl X g fd F) (hs : last < pl ∨ fd = true) (hT : fd = true → F < pl) : Cw P s first last pl (pl + 1) X g fd F := by
  refine ⟨fun a ha => ?_, h.srt, fun b a h1 h2 h3 h4 h5 => ?_⟩
  · obtain ⟨b, q1, q2, q3, q4, q5⟩ := h.snd a ha
    exact ⟨b, q1, q2, q3, by omega, q5⟩
  · refine h.cmp b a h1 h2 ?_ h4 h5
    rcases hs with hs | hs
    · omega
    · have := h4 hs
      have := hT hs
      omega
theorem cw_enter (h : Cw P s first last pl pl X g fd F) (hf : first ≤ pl) (hl : pl ≤ last) (hfd : fd = false) (hE : EnQ P s pl X N 0) (hn : ∀ x ∈ N, g' x = pl) (ho : ∀ x ∈ X, g' x = g x) : Cw P s first last pl (pl + 1) (X ++ N) g' fd F := by
  have hlt : ∀ x ∈ X, g x < pl := fun x hx => by
    obtain ⟨b, q1, _, _, q4, _⟩ := h.snd x hx
    omega
  refine ⟨fun a ha => ?_, ?_, fun b a h1 h2 h3 h4 h5 => ?_⟩
  · rcases List.mem_append.1 ha with ha | ha
    · obtain ⟨b, q1, q2, q3, q4, q5⟩ := h.snd a ha
      exact ⟨b, (ho a ha).trans q1, q2, q3, by omega, q5⟩
    · exact ⟨pl, hn a ha, hf, hl, Nat.lt_succ_self _, hE.src a ha (fun x => Rc P s pl pl x) Rc.start (fun a i z q hi hz => q.eps hi hz)⟩
  · rw [List.pairwise_append]
    refine ⟨h.srt.imp_of_mem (fun hx hy q => by rw [ho _ hx, ho _ hy]; exact q), ?_, fun x hx y hy => ?_⟩
    · exact List.Pairwise.imp_of_mem (R := fun _ _ => True) (fun hx hy _ => by rw [hn _ hx, hn _ hy]; exact Int.le_refl _) (List.pairwise_iff_forall_sublist.2 (fun _ => trivial))
    · rw [ho x hx, hn y hy]
      exact Int.le_of_lt (hlt x hx)
  · have mg : ∀ y ∈ X ++ N, g' y ≤ pl := fun y hy => by
      rcases List.mem_append.1 hy with hy | hy
      · rw [ho y hy]
        exact Int.le_of_lt (hlt y hy)
      · rw [hn y hy]
        exact Int.le_refl _
    rcases Nat.lt_or_ge b pl with hb | hb
    · obtain ⟨q1, q2⟩ := h.cmp b a h1 h2 hb h4 h5
      exact ⟨List.mem_append_left _ q1, by rw [ho a q1]; exact q2⟩
    · obtain rfl : b = pl := by omega
      have hm : a ∈ X ++ N := by
        refine h5.ind (Q := fun pl' a => pl' = b → a ∈ X ++ N) (fun _ => hE.mem) ?_ ?_ rfl
        · intro pl' a i x hr q hi hx e
          subst e
          have q := q rfl
          rcases List.mem_append.1 q with q | q
          · obtain ⟨b0, p1, p2, p3, p4, p5⟩ := h.snd a q
            exact List.mem_append_left _ (h.cmp b0 x p2 p3 p4 (fun e => by rw [hfd] at e; cases e) (p5.eps hi hx)).1
          · exact hE.clo a q i x hi hx
        · intro pl' a i c hr _ _ _ _ _ e
          have := hr.ge
          omega
      exact ⟨hm, mg a hm⟩
theorem fin_end (h : Fd P s first last pl fd F T) (hl : last ≤ s.length) (hp : s.length < pl) : FinM P s first last fd F T := by
  refine ⟨h.z, fun e b e' h1 h2 hm => h.no e b e' h1 h2 ?_ hm, fun e => ?_⟩
  · have := hm.le (by omega)
    omega
  · obtain ⟨b, e', q1, q2, q3, q4, q5, q6, q7⟩ := h.yes e
    exact ⟨b, e', q1, q2, q3, q4, q6, fun b' e'' p1 p2 p3 => q7 b' e'' p1 p2 (by have := p3.le (by omega); omega) p3⟩
theorem fin_empty (h : Fd P s first last pl fd F T) (hc : Cw P s first last pl (pl + 1) [] g fd F) (hf : first ≤ pl) : FinM P s first last fd F T := by
  have hno : ∀ b, first ≤ b → b ≤ last → b ≤ pl → (fd = true → (b : Int) ≤ F) → ∀ x, ¬ Rc P s b pl x := fun b h1 h2 h3 h4 x hx => by
    have := (hc.cmp b x h1 h2 (by omega) h4 hx).1
    cases this
  refine ⟨h.z, fun e b e' h1 h2 hm => ?_, fun e => ?_⟩
  · have hlp : last < pl := by
      rcases Nat.lt_or_ge last pl with q | q
      · exact q
      · exact absurd Rc.start (hno pl hf q (Nat.le_refl _) (fun q => by rw [e] at q; cases q) 0)
    rcases Nat.lt_or_ge e' pl with q | q
    · exact h.no e b e' h1 h2 q hm
    · obtain ⟨x, hx⟩ := hm.mid (by omega) q
      exact hno b h1 h2 (by omega) (fun q => by rw [e] at q; cases q) x hx
  · obtain ⟨b, e', q1, q2, q3, q4, q5, q6, q7⟩ := h.yes e
    refine ⟨b, e', q1, q2, q3, q4, q6, fun b' e'' p1 p2 p3 => ?_⟩
    rcases Nat.lt_or_ge e'' pl with q | q
    · exact q7 b' e'' p1 p2 q p3
    · rcases Nat.lt_or_ge b b' with r | r
      · exact ⟨by omega, fun e => by omega⟩
      · have := q6.ge
        obtain ⟨x, hx⟩ := p3.mid (m := pl) (by omega) q
        exact absurd hx (hno b' p1 p2 (by omega) (fun _ => by omega) x)
end
structure Go2 (P : List Ins) (s : List UInt8) (first last pl : Nat) (X : List Int) (g : Int → Int) (fd0 : Bool) (F0 T0 : Int) (k : Nat) (Y : List Int) (h : Int → Int) (fd : Bool) (F T : Int) : Prop where
  snd : ∀ a ∈ Y, ∃ b : Nat, h a = b ∧ first ≤ b ∧ b ≤ last ∧ b < pl + 1 ∧ Rc P s b (pl + 1) a
  src : ∀ a ∈ Y, ∃ j x, j < k ∧ X[j]? = some x ∧ h a = g x
  srt : Y.Pairwise (fun x y => h x ≤ h y)
  byt : ∀ j x i c, j < k → X[j]? = some x → P[x.toNat]? = some i → i.op = 1 → s[pl]? = some c → z1_shas i.s (c.toNat : Int) = true → x + 1 ∈ Y ∧ h (x + 1) ≤ g x
  clo : ∀ a ∈ Y, ∀ i y, P[a.toNat]? = some i → y ∈ epsP s i a (pl + 1) → y ∈ Y ∧ h y ≤ h a
  mat : ∀ j x i, j < k → X[j]? = some x → P[x.toNat]? = some i → i.op = 11 → fd = true ∧ F ≤ g x ∧ T = pl
  fdm : fd0 = true → fd = true ∧ F ≤ F0
  old : (fd = fd0 ∧ F = F0 ∧ T = T0) ∨ (fd = true ∧ T = pl ∧ ∃ b : Nat, F = b ∧ first ≤ b ∧ b ≤ last ∧ Mt P s b pl)
section
variable {P : List Ins} {s : List UInt8} {first last pl : Nat} {X Y N : List Int} {g h h' : Int → Int} {fd fd0 : Bool} {F T F0 T0 : Int} {k : Nat}
theorem go2_nil : Go2 P s first last pl X g fd0 F0 T0 0 [] h fd0 F0 T0 :=
  ⟨fun _ q => by (cases q), fun _ q => by (cases q), List.Pairwise.nil, fun j _ _ _ q => by omega, fun _ q => by (cases q), fun j _ _ q => by omega, fun e => ⟨e, Int.le_refl _⟩, .inl ⟨rfl, rfl, rfl⟩⟩
theorem srt_get {X : List Int} {g : Int → Int} (h : X.Pairwise (fun x y => g x ≤ g y)) {j k : Nat} {x y : Int} (hj : X[j]? = some x) (hk : X[k]? = some y) (hjk : j ≤ k) : g x ≤ g y := by
  obtain ⟨hj1, rfl⟩ := List.getElem?_eq_some_iff.1 hj
  obtain ⟨hk1, rfl⟩ := List.getElem?_eq_some_iff.1 hk
  rcases Nat.lt_or_eq_of_le hjk with q | rfl
  · exact List.pairwise_iff_getElem.1 h j k hj1 hk1 q
  · exact Int.le_refl _
theorem go2_skip (hG : Go2 P s first last pl X g fd0 F0 T0 k Y h fd F T) {x : Int} {i : Ins} (hx : X[k]? = some x) (hi : P[x.toNat]? = some i) (hm : i.op ≠ 11) (hb : ∀ c, i.op = 1 → s[pl]? = some c → z1_shas i.s (c.toNat : Int) = false) : Go2 P s first last pl X g fd0 F0 T0 (k + 1) Y h fd F T := by
  refine ⟨hG.snd, fun a ha => ?_, hG.srt, fun j y i' c hj hy hi' ho hc hs => ?_, hG.clo, fun j y i' hj hy hi' ho => ?_, hG.fdm, hG.old⟩
  · obtain ⟨j, y, q1, q2⟩ := hG.src a ha
    exact ⟨j, y, by omega, q2⟩
  · rcases Nat.lt_or_ge j k with q | q
    · exact hG.byt j y i' c q hy hi' ho hc hs
    · obtain rfl : j = k := by omega
      rw [hx] at hy
      cases hy
      rw [hi] at hi'
      cases hi'
      rw [hb c ho hc] at hs
      cases hs
  · rcases Nat.lt_or_ge j k with q | q
    · exact hG.mat j y i' q hy hi' ho
    · obtain rfl : j = k := by omega
      rw [hx] at hy
      cases hy
      rw [hi] at hi'
      cases hi'
      exact absurd ho hm
theorem go2_byte (hC : Cw P s first last pl (pl + 1) X g fd0 F0) (hG : Go2 P s first last pl X g fd0 F0 T0 k Y h fd F T) {x : Int} {i : Ins} {c : UInt8} (hx : X[k]? = some x) (hi : P[x.toNat]? = some i) (ho : i.op = 1) (hc : s[pl]? = some c) (hs : z1_shas i.s (c.toNat : Int) = true)
    (hE : EnQ P s (pl + 1) Y N (x + 1)) (hn : ∀ y ∈ N, h' y = g x) (hk : ∀ y ∈ Y, h' y = h y) : Go2 P s first last pl X g fd0 F0 T0 (k + 1) (Y ++ N) h' fd F T := by
  have hle : ∀ y ∈ Y, h y ≤ g x := fun y hy => by
    obtain ⟨j, z, q1, q2, q3⟩ := hG.src y hy
    rw [q3]
    exact srt_get hC.srt q2 hx (by omega)
  have hle' : ∀ y ∈ Y ++ N, h' y ≤ g x := fun y hy => by
    rcases List.mem_append.1 hy with hy | hy
    · rw [hk y hy]; exact hle y hy
    · rw [hn y hy]; exact Int.le_refl _
  obtain ⟨b, g1, g2, g3, g4, g5⟩ := hC.snd x (List.mem_of_getElem? hx)
  refine ⟨fun a ha => ?_, fun a ha => ?_, ?_, fun j y i' c' hj hy hi' ho' hc' hs' => ?_, fun a ha i' y hi' hy => ?_, fun j y i' hj hy hi' ho' => ?_, hG.fdm, hG.old⟩
  · rcases List.mem_append.1 ha with ha | ha
    · obtain ⟨b, q1, q2⟩ := hG.snd a ha
      exact ⟨b, (hk a ha).trans q1, q2⟩
    · exact ⟨b, (hn a ha).trans g1, g2, g3, g4, hE.src a ha (fun z => Rc P s b (pl + 1) z) (g5.byte hi ho hc hs) (fun a i z q hi hz => q.eps hi hz)⟩
  · rcases List.mem_append.1 ha with ha | ha
    · obtain ⟨j, z, q1, q2, q3⟩ := hG.src a ha
      exact ⟨j, z, by omega, q2, (hk a ha).trans q3⟩
    · exact ⟨k, x, Nat.lt_succ_self _, hx, hn a ha⟩
  · rw [List.pairwise_append]
    refine ⟨hG.srt.imp_of_mem (fun hx hy q => by rw [hk _ hx, hk _ hy]; exact q), ?_, fun y hy z hz => ?_⟩
    · exact List.Pairwise.imp_of_mem (R := fun _ _ => True) (fun hx hy _ => by rw [hn _ hx, hn _ hy]; exact Int.le_refl _) (List.pairwise_iff_forall_sublist.2 (fun _ => trivial))
    · rw [hk y hy, hn z hz]
      exact hle y hy
  · rcases Nat.lt_or_ge j k with q | q
    · obtain ⟨q1, q2⟩ := hG.byt j y i' c' q hy hi' ho' hc' hs'
      exact ⟨List.mem_append_left _ q1, by rw [hk _ q1]; exact q2⟩
    · obtain rfl : j = k := by omega
      rw [hx] at hy
      cases hy
      exact ⟨hE.mem, hle' _ hE.mem⟩
  · rcases List.mem_append.1 ha with ha | ha
    · obtain ⟨q1, q2⟩ := hG.clo a ha i' y hi' hy
      exact ⟨List.mem_append_left _ q1, by rw [hk _ q1, hk _ ha]; exact q2⟩
    · have := hE.clo a ha i' y hi' hy
      exact ⟨this, by rw [hn _ ha]; exact hle' y this⟩
  · rcases Nat.lt_or_ge j k with q | q
    · exact hG.mat j y i' q hy hi' ho'
    · obtain rfl : j = k := by omega
      rw [hx] at hy
      cases hy
      rw [hi] at hi'
      cases hi'
      rw [ho] at ho'
      exact absurd ho' (by decide)
theorem go2_match (hC : Cw P s first last pl (pl + 1) X g fd0 F0) (hG : Go2 P s first last pl X g fd0 F0 T0 k Y h fd F T) {x : Int} {i : Ins} (hx : X[k]? = some x) (hi : P[x.toNat]? = some i) (ho : i.op = 11) (hF : fd = true → g x ≤ F) : Go2 P s first last pl X g fd0 F0 T0 (k + 1) Y h true (g x) pl := by
  obtain ⟨b, g1, g2, g3, g4, g5⟩ := hC.snd x (List.mem_of_getElem? hx)
  refine ⟨hG.snd, fun a ha => ?_, hG.srt, fun j y i' c hj hy hi' ho' hc hs => ?_, hG.clo, fun j y i' hj hy hi' ho' => ?_, fun e => ⟨rfl, ?_⟩, .inr ⟨rfl, rfl, b, g1, g2, g3, x, i, g5, hi, ho⟩⟩
  · obtain ⟨j, y, q1, q2⟩ := hG.src a ha
    exact ⟨j, y, by omega, q2⟩
  · rcases Nat.lt_or_ge j k with q | q
    · exact hG.byt j y i' c q hy hi' ho' hc hs
    · obtain rfl : j = k := by omega
      rw [hx] at hy
      cases hy
      rw [hi] at hi'
      cases hi'
      rw [ho] at ho'
      exact absurd ho' (by decide)
  · rcases Nat.lt_or_ge j k with q | q
    · obtain ⟨q1, q2, _⟩ := hG.mat j y i' q hy hi' ho'
      exact ⟨rfl, Int.le_trans (hF q1) q2, rfl⟩
    · obtain rfl : j = k := by omega
      rw [hx] at hy
      cases hy
      exact ⟨rfl, Int.le_refl _, rfl⟩
  · obtain ⟨q1, q2⟩ := hG.fdm e
    exact Int.le_trans (hF q1) q2
theorem go2_at (hC : Cw P s first last pl (pl + 1) X g fd0 F0) {b : Nat} {a : Int} (h1 : first ≤ b) (h2 : b ≤ last) (h3 : b ≤ pl) (h4 : fd0 = true → (b : Int) ≤ F0) (hr : Rc P s b pl a) : ∃ j : Nat, X[j]? = some a ∧ g a ≤ b := by
  obtain ⟨q1, q2⟩ := hC.cmp b a h1 h2 (by omega) h4 hr
  obtain ⟨j, hj⟩ := List.getElem?_of_mem q1
  exact ⟨j, hj, q2⟩
theorem go2_done (hD : Fd P s first last pl fd0 F0 T0) (hC : Cw P s first last pl (pl + 1) X g fd0 F0) (hG : Go2 P s first last pl X g fd0 F0 T0 k Y h fd F T) (he : X.length ≤ k ∨ (fd = true ∧ ∃ x, X[k]? = some x ∧ F < g x)) :
    Cw P s first last (pl + 1) (pl + 1) Y h fd F ∧ Fd P s first last (pl + 1) fd F T := by
  have hlow : ∀ j a, X[j]? = some a → (fd = true → g a ≤ F) → j < k := fun j a hj hga => by
    rcases he with q | ⟨q1, x, q2, q3⟩
    · have := (List.getElem?_eq_some_iff.1 hj).1
      omega
    · rcases Nat.lt_or_ge j k with r | r
      · exact r
      · have := srt_get hC.srt q2 hj r
        have := hga q1
        omega
  have hb0 : ∀ b : Nat, (fd = true → (b : Int) ≤ F) → fd0 = true → (b : Int) ≤ F0 := fun b q e => by
    obtain ⟨q1, q2⟩ := hG.fdm e
    have := q q1
    omega
  refine ⟨⟨fun a ha => ?_, hG.srt, fun b a h1 h2 h3 h4 h5 => ?_⟩, ⟨fun e => ?_, fun e b e' h1 h2 h3 hm => ?_, fun e => ?_⟩⟩
  · exact hG.snd a ha
  · refine h5.ind (Q := fun pl' a => pl' = pl + 1 → a ∈ Y ∧ h a ≤ b) (fun e => by omega) ?_ ?_ rfl
    · intro pl' a i x hr q hi hx e
      subst e
      obtain ⟨q1, q2⟩ := q rfl
      obtain ⟨r1, r2⟩ := hG.clo a q1 i x hi hx
      exact ⟨r1, Int.le_trans r2 q2⟩
    · intro pl' a i c hr _ hi ho hc hs e
      obtain rfl : pl' = pl := by omega
      obtain ⟨j, hj, hg⟩ := go2_at hC h1 h2 (by omega) (hb0 b h4) hr
      have hjk := hlow j a hj (fun q => Int.le_trans hg (h4 q))
      obtain ⟨r1, r2⟩ := hG.byt j a i c hjk hj hi ho hc hs
      exact ⟨r1, Int.le_trans r2 hg⟩
  · rcases hG.old with ⟨q1, q2, q3⟩ | ⟨q1, _⟩
    · rw [q2, q3]
      exact hD.z (q1 ▸ e)
    · rw [e] at q1
      cases q1
  · have e0 : fd0 = false := by
      cases hq : fd0 with
      | false => rfl
      | true =>
        have := (hG.fdm hq).1
        rw [e] at this
        cases this
    rcases Nat.lt_or_ge e' pl with q | q
    · exact hD.no e0 b e' h1 h2 q hm
    · obtain rfl : e' = pl := by omega
      obtain ⟨a, i, hr, hi, ho⟩ := hm
      obtain ⟨j, hj, hg⟩ := go2_at hC h1 h2 hr.ge (fun q => by rw [e0] at q; cases q) hr
      have hjk := hlow j a hj (fun q => by rw [e] at q; cases q)
      have := (hG.mat j a i hjk hj hi ho).1
      rw [e] at this
      cases this
  · rcases hG.old with ⟨q1, q2, q3⟩ | ⟨_, q2, b, q3, q4, q5, q6⟩
    · obtain ⟨b, e', r1, r2, r3, r4, r5, r6, r7⟩ := hD.yes (q1 ▸ e)
      refine ⟨b, e', q2.trans r1, q3.trans r2, r3, r4, by omega, r6, fun b' e'' p1 p2 p3 p4 => ?_⟩
      rcases Nat.lt_or_ge e'' pl with q | q
      · exact r7 b' e'' p1 p2 q p4
      · rcases Nat.lt_or_ge b b' with r | r
        · exact ⟨by omega, fun e => by omega⟩
        · exfalso
          obtain rfl : e'' = pl := by omega
          obtain ⟨a, i, hr, hi, ho⟩ := p4
          obtain ⟨j, hj, hg⟩ := go2_at hC p1 p2 hr.ge (fun _ => by omega) hr
          have hjk := hlow j a hj (fun _ => by omega)
          have := (hG.mat j a i hjk hj hi ho).2.2
          omega
    · refine ⟨b, pl, q3, q2, q4, q5, Nat.lt_succ_self _, q6, fun b' e'' p1 p2 p3 p4 => ⟨?_, fun _ => by omega⟩⟩
      have hfo : fd0 = true → F ≤ F0 := fun e => (hG.fdm e).2
      rcases Nat.lt_or_ge e'' pl with q | q
      · cases hq : fd0 with
        | false => exact absurd p4 (hD.no hq b' e'' p1 p2 q)
        | true =>
          obtain ⟨b0, e0, r1, r2, r3, r4, r5, r6, r7⟩ := hD.yes hq
          have := (r7 b' e'' p1 p2 q p4).1
          have := hfo hq
          omega
      · obtain rfl : e'' = pl := by omega
        obtain ⟨a, i, hr, hi, ho⟩ := p4
        by_cases hc : fd0 = true → (b' : Int) ≤ F0
        · obtain ⟨j, hj, hg⟩ := go2_at hC p1 p2 hr.ge hc hr
          by_cases hga : fd = true → g a ≤ F
          · have hjk := hlow j a hj hga
            have := (hG.mat j a i hjk hj hi ho).2.1
            omega
          · have : ¬ g a ≤ F := fun q => hga (fun _ => q)
            omega
        · have hq : fd0 = true := by
            cases hq : fd0 with
            | true => rfl
            | false => exact absurd (fun e => by rw [hq] at e; cases e) hc
          have := hfo hq
          have : ¬ (b' : Int) ≤ F0 := fun q => hc (fun _ => q)
          omega
theorem go2_last (hD : Fd P s first last pl fd0 F0 T0) (hC : Cw P s first last pl (pl + 1) X g fd0 F0) (hG : Go2 P s first last pl X g fd0 F0 T0 k Y h fd F T) {x : Int} {i : Ins} (hx : X[k]? = some x) (hi : P[x.toNat]? = some i) (ho : i.op = 11) (hF : fd = true → g x ≤ F) (hl : last ≤ s.length) (hp : pl = s.length) : FinM P s first last true (g x) pl := by
  have hM := go2_match hC hG hx hi ho hF
  obtain ⟨b, g1, g2, g3, g4, g5⟩ := hC.snd x (List.mem_of_getElem? hx)
  refine ⟨fun e => (by cases e), fun e => (by cases e), fun _ => ⟨b, pl, g1, rfl, g2, g3, ⟨x, i, g5, hi, ho⟩, fun b' e'' p1 p2 p4 => ⟨?_, fun _ => ?_⟩⟩⟩
  · have hfo : fd0 = true → g x ≤ F0 := fun e => (hM.fdm e).2
    have hle := p4.le (by omega)
    rcases Nat.lt_or_ge e'' pl with q | q
    · cases hq : fd0 with
      | false => exact absurd p4 (hD.no hq b' e'' p1 p2 q)
      | true =>
        obtain ⟨b0, e0, r1, r2, r3, r4, r5, r6, r7⟩ := hD.yes hq
        have := (r7 b' e'' p1 p2 q p4).1
        have := hfo hq
        omega
    · obtain rfl : e'' = pl := by omega
      obtain ⟨a, i', hr, hi', ho'⟩ := p4
      by_cases hc : fd0 = true → (b' : Int) ≤ F0
      · obtain ⟨j, hj, hg⟩ := go2_at hC p1 p2 hr.ge hc hr
        rcases Nat.lt_or_ge j (k + 1) with r | r
        · have := (hM.mat j a i' r hj hi' ho').2.1
          omega
        · have := srt_get hC.srt hx hj (by omega)
          omega
      · have hq : fd0 = true := by
          cases hq : fd0 with
          | true => rfl
          | false => exact absurd (fun e => by rw [hq] at e; cases e) hc
        have := hfo hq
        have : ¬ (b' : Int) ≤ F0 := fun q => hc (fun _ => q)
        omega
  · have := p4.le (by omega)
    omega
end
end Go.Proofs.Ytbghleihgcenmaa
