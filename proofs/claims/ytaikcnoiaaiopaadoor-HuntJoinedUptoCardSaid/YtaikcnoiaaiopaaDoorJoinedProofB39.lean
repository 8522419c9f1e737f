/-
  Proved: the law HuntJoined answers true for any words, any two lines and any byte that are together within the second bound, and leaves them as they were: two lines with a byte between that stands in no word: what is told of both is what is told of each; where the library's table of trailing zeros lies as the program's own text lays it (the card's tie).
-/
import Derived.Test.YtaikcnoiaaiopaaDoorJoinedProofB37
import Derived.Test.YtaikcnoiaaiopaaDoorJoinedProofB38
import Derived.Carry
import Derived.SizedLaws
set_option linter.unusedSimpArgs false
namespace Go.Proofs.YtaikcnoiaaiopaaDoor
open Go Go.ChangeShapes Go.WideShapes Go.ChangeAt Go.RowKit
open Go.ChangeMaps (open_string shut_string)
theorem huntJoined_reads (os : Os) {H : Type} (enc : TypeId × Value → H) : ∃ places, DataW.whole enc Tryd.prog ((World.doorLaid Tryd.prog 400 os).forCall (fun _ _ => 0) ⟨#[], #[.slice none 0 0, .string ⟨#[]⟩, .string ⟨#[]⟩, .int .u8 0], []⟩).memory Tryd.f8.params.toList Rows.huntJoinedSpec.vars false #[Value.slice none 0 0, Value.string ⟨#[]⟩, Value.string ⟨#[]⟩, Value.int .u8 0].toList 8 = some ([.nil, .lit (.string []), .lit (.string []), .lit (.int .u8 0)], [], places) :=
  ⟨[], by kernel_rfl⟩
set_option maxRecDepth 100000 in
theorem huntJoined_lifted (os : Os) (started : os.Started) (H : Type) (enc : TypeId × Value → H) (F : Stop.Interp) :
    ReturnsInHanded {} Tryd.checked os 8 .any ((Rows.OpenSpec.upto Rows.huntJoinedSpec).preRow enc Tryd.prog Tryd.f8 Rows.huntJoinedUptoRow.domain false Rows.huntJoinedUptoRow.laid) (((Rows.OpenSpec.upto Rows.huntJoinedSpec).at F).post enc Tryd.prog Tryd.f8 false true false false) := by
  obtain ⟨places, hx⟩ := huntJoined_reads os enc
  refine returnsInHanded_of_row (C := Tryd.checked) (s := (Rows.OpenSpec.upto Rows.huntJoinedSpec)) own started (by kernel_rfl) Tryd.func8
    (witness_row_at (enc := enc) (C := Tryd.checked) false (World.doorLaid Tryd.prog 400 os) #[.slice none 0 0, .string ⟨#[]⟩, .string ⟨#[]⟩, .int .u8 0] rfl (by kernel_rfl) (by kernel_rfl) (by kernel_rfl)
      (OpenSpec.preRow_of_cond 8 hx (by kernel_rfl) (fun k hk => by cases hk; kernel_rfl) (by kernel_rfl) (laid_met os _))) ?_
  intro W base args ds gs before hval0 hW _ hcond hsz hL0 hSh _
  have hL : laidMetH Tryd.prog laidL W := hL0
  have hval : ∀ (j : Nat) t v, Tryd.f8.params[j]? = some t → args[j]? = some v → Value.okWide Tryd.prog W .any base t v := hval0
  have hW' := hW
  obtain ⟨p, q, hA0, hV, rfl, hfz, hnd⟩ := hW
  have hA : DataW.TrodAll enc Tryd.prog W 0 (fun _ => true) true Tryd.f8.params.toList args.toList ds p := hA0
  rw [Tryd.params8] at hA hval hsz
  obtain ⟨v0, v1, v2, v3, d0, d1, d2, d3, p0, p1, p2, p3, rfl, rfl, rfl, h0, h1, h2, h3⟩ := trodAll_four hA
  obtain ⟨rfl, rfl⟩ := trodVars_none hV
  obtain ⟨x0, hx0, hy0, hz0⟩ := open_wordsU (hval 0 22 v0 rfl rfl) h0 (bulk_of8 (hcond _ rfl) (by simp))
  have lt0 : ∀ x ∈ p0, x.block < W.heap.size := by obtain ⟨m, hm⟩ := h0; exact DataW.trod_lt m _ _ _ hm
  obtain ⟨x1, rfl, rfl, rfl, wf1⟩ := open_string Tryd.underlying9 (hval 1 9 v1 rfl rfl) h1
  have hb1 : x1.size ≤ 1048576 := by
    have hz : x1.data.toList.length = x1.size := Array.length_toList
    have := bulk_of8 (d := .lit (.string x1.data.toList)) (hcond _ rfl) (by simp)
    simp only [Rows.uptoBulk] at this
    omega
  obtain ⟨x2, rfl, rfl, rfl, wf2⟩ := open_string Tryd.underlying9 (hval 2 9 v2 rfl rfl) h2
  have hb2 : x2.size ≤ 1048576 := by
    have hz : x2.data.toList.length = x2.size := Array.length_toList
    have := bulk_of8 (d := .lit (.string x2.data.toList)) (hcond _ rfl) (by simp)
    simp only [Rows.uptoBulk] at this
    omega
  obtain ⟨x3, rfl, rfl, rfl, wf3⟩ := open_int Tryd.underlying5 (hval 3 5 v3 rfl rfl) h3
  obtain ⟨b3, rfl⟩ := u8_of wf3
  have hsum : x1.size + x2.size ≤ 1048576 := by
    have hs : Rows.uptoBulkAll [d0, .lit (.string x1.data.toList), .lit (.string x2.data.toList), .lit (.int .u8 (b3.toNat : Int))] ≤ 1048576 := of_decide_eq_true (hcond _ rfl)
    simp only [Rows.uptoBulkAll, Rows.uptoBulk] at hs
    have hz1 : x1.data.toList.length = x1.size := Array.length_toList
    have hz2 : x2.data.toList.length = x2.size := Array.length_toList
    omega
  clear hA0 hval0 hsz hcond
  refine (callsIn_wide.1 (joined_in 12 (Nat.le_refl _) x1 x2 b3 hsum (tab_of hL) hx0)).mono fun e W' ⟨he, bel⟩ => ?_
  subst he
  exact ⟨_, rfl, _, _, _, [], _, [], hW', trodAll_mk1 (shut_bool Tryd.underlying4 _), trodAll_mk4 (Below.trod laidOut (by kernel_rfl) (of_decide_eq_true (by kernel_rfl)) h0 bel lt0) (shut_string Tryd.underlying9 wf1) (shut_string Tryd.underlying9 wf2) (shut_int Tryd.underlying5 wf3), rfl, bel.frame _, fun h => by cases h⟩
theorem huntJoined_holds : Rows.HuntJoinedUptoSaid :=
  OpenClaim.holds_of_cond 8 Tryd.f8 rfl rfl rfl rfl rfl rfl rfl ⟨rfl, rfl, rfl, rfl, rfl⟩ rfl rfl rfl rfl rfl (by kernel_rfl) Tryd.func8 (by kernel_rfl)
    (of_decide_eq_true (by kernel_rfl)) (by unfold Func.isWrapper; first | (rw [if_pos (by decide +kernel)]; kernel_rfl) | (rw [if_neg (by decide +kernel)]; exact ⟨rfl, rfl⟩))
    (fun os started H enc _ F => by rw [OpenClaim.pre_eq_preRow]; exact huntJoined_lifted os started H enc F)
theorem huntJoined_card : Rows.HuntJoinedUptoCardSaid :=
  Claim7.holds_tied_plain_at .later [] _ _ _ _
    huntJoined_holds (fun _ h => by cases h) (by kernel_rfl) (fun _ h => by cases h) huntJoinedUpto_row_tie rfl ⟨rfl, rfl⟩ (by kernel_rfl) rfl
    (fun f fn hf hfn => by
      obtain rfl : f = 8 := Option.some.inj ((show Tryd.prog.funcNamed "dredge/dredgelaw19.HuntJoined" = some 8 by kernel_rfl).symm.trans hf) |>.symm
      obtain rfl : fn = Tryd.f8 := (Option.some.inj (Tryd.func8.symm.trans hfn)).symm
      exact ⟨by kernel_rfl, fun j t ht => by
        rw [Tryd.params8] at ht
        have hm : t ∈ [22, 9, 9, 5] := by simpa using Array.mem_of_getElem? ht
        have hall : ([22, 9, 9, 5].all fun u => !Tryd.prog.wantsStandIn u) = true := by kernel_rfl
        exact (show Tryd.prog.wantsStandIn t = false by simpa using List.all_eq_true.1 hall t hm)⟩)
    (by kernel_rfl)
#print axioms huntJoined_card
end Go.Proofs.YtaikcnoiaaiopaaDoor
