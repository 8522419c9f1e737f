/-
  Proved: ShowAgain of chapter 10: whatever the pattern and the mode, what Parse tells, printed, parsed and printed again, is the same.
-/
import Derived.Test.YticfnglebbakkaaGreatDoorAgainProofB41
import Derived.Test.YticfnglebbakkaaGreatDoorAgainProofB38
import Derived.Test.YticfnglebbakkaaGreatDoorAgainProofB1
import Derived.Test.YticfnglebbakkaaGreatDoorAgainProofB0
import Derived.Deep.Slices
import Derived.Deep.SlicePairs
import Derived.ChangeSame
import Derived.SizedLaws
import Derived.Carry
set_option maxRecDepth 100000
set_option maxHeartbeats 8000000
namespace Go.Proofs.YticfnglebbakkaaGreatDoor
open Go Go.RowKit
open Go Go.ChangeShapes Go.WideShapes Go.ChangeAt Go.RowKit
open Go.ChangeMaps (open_string shut_string)
theorem oT(os:Os){H:Type}(enc:TypeId × Value->H):∃ places,DataW.whole enc Tryz.prog ((nZ os).forCall (fun _ _=>0) ⟨#[],#[.string ⟨#[]⟩,.agg #[.bool false,.bool false]],[]⟩).memory Tryz.f4.params.toList Rows.showAgainSpec.vars false #[Value.string ⟨#[]⟩,Value.agg #[.bool false,.bool false]].toList 8=some ([.lit (.string []),.agg [.lit (.bool false),.lit (.bool false)]],[],places):=
 ⟨[],by kernel_rfl⟩
theorem nR(os:Os)(started:os.Started)(H:Type)(enc:TypeId × Value->H)(F:Stop.Interp) :
  ReturnsInHanded {} Tryz.checked os 4 .any ((OpenSpec.ofChange Rows.showAgainSpec).preRow enc Tryz.prog Tryz.f4 Rows.showAgainRow.domain false Rows.showAgainRow.laid) (((OpenSpec.ofChange Rows.showAgainSpec).at F).post enc Tryz.prog Tryz.f4 false true false false):=by
 obtain⟨places,hx⟩:=oT os enc
 refine returnsInHanded_of_row (C:=Tryz.checked) (s:=(OpenSpec.ofChange Rows.showAgainSpec)) own started (by kernel_rfl) Tryz.func4
  (witness_row_at (enc:=enc) (C:=Tryz.checked) false (nZ os) #[.string ⟨#[]⟩,.agg #[.bool false,.bool false]] rfl (by kernel_rfl) (by kernel_rfl) (by kernel_rfl)
   (OpenSpec.preRow_of_cond 8 hx (by kernel_rfl) (fun k hk=>by cases hk) (by kernel_rfl) (aT0 os _))) ?_
 intro W base args ds gs before hval0 hW _ hcond hsz hL0 hSh _
 have hL:laidMetH Tryz.prog sP W:=hL0
 have hval:∀ (j:Nat) t v,Tryz.f4.params[j]?=some t->args[j]?=some v->Value.okWide Tryz.prog W .any base t v:=hval0
 have hW':=hW
 obtain⟨p,q,hA0,hV,rfl,hfz,hnd⟩:=hW
 have hA:DataW.TrodAll enc Tryz.prog W 0 (fun _=>true) true Tryz.f4.params.toList args.toList ds p:=hA0
 rw [Tryz.params4] at hA hval hsz
 obtain⟨v0,v1,d0,d1,p0,p1,rfl,rfl,rfl,h0,h1⟩:=trodAll_two hA
 obtain⟨rfl,rfl⟩:=trodVars_none hV
 obtain⟨x0,rfl,rfl,rfl,wf0⟩:=open_string Tryz.underlying9 (hval 0 9 v0 rfl rfl) h0
 have hb0:x0.size<=140737488355328:=by
  have:=sized_string hsz (j:=0) (t:=9) rfl rfl
  have r:=reachBytes_lt
  rw [bH] at this
  omega
 obtain⟨m1,rfl⟩:=aK4 (hval 1 27 v1 rfl rfl) h1
 have lt1:∀ x∈p1,x.block < W.heap.size:=by obtain⟨m,hm⟩:=h1;exact DataW.trod_lt m _ _ _ hm
 clear hA0 hval0 hsz hcond
 refine(xB (bD4 hL hSh) x0 m1).mono fun e W' ⟨he,bel⟩=>?_
 subst he
 exact⟨_,rfl,_,_,_,[],_,[],hW',trodAll_mk1 (shut_bool Tryz.underlying4 _),trodAll_mk2 (shut_string Tryz.underlying9 wf0) (Below.trod bC5 (by kernel_rfl) (of_decide_eq_true (by kernel_rfl)) h1 bel lt1),rfl,bel.frame _,fun h=>by cases h⟩
theorem oU:Rows.ShowAgainSaid:=
 OpenClaim.holds_of_cond 4 Tryz.f4 rfl rfl rfl rfl rfl rfl rfl ⟨rfl,rfl,rfl,rfl,rfl⟩ rfl rfl rfl rfl rfl (by kernel_rfl) Tryz.func4 (by kernel_rfl)
  (of_decide_eq_true (by kernel_rfl)) (by unfold Func.isWrapper;first |(rw [if_pos (by decide +kernel)];kernel_rfl) |(rw [if_neg (by decide +kernel)];exact⟨rfl,rfl⟩))
  (fun os started H enc _ F=>by rw [OpenClaim.pre_eq_preRow];exact nR os started H enc F)
theorem showAgain_card:Rows.ShowAgainCardSaid:=
 Claim7.holds_tied_plain_at .later [] _ _ _ _
  oU (fun _ h=>by cases h) (by kernel_rfl) (fun _ h=>by cases h) showAgain_row_tie rfl ⟨rfl,rfl⟩ (by kernel_rfl) rfl
  (fun f fn hf hfn=>by
   obtain rfl : f = 4 := Option.some.inj ((show Tryz.prog.funcNamed "dredge/dredgelaw10.ShowAgain" = some 4 by kernel_rfl).symm.trans hf) |>.symm
   obtain rfl:fn=Tryz.f4:=(Option.some.inj (Tryz.func4.symm.trans hfn)).symm
   exact⟨by kernel_rfl,fun j t ht=>by
    rw [Tryz.params4] at ht
    have hm:t∈[9,27]:=by simpa using Array.mem_of_getElem? ht
    have hall:([9,27].all fun u=>!Tryz.prog.wantsStandIn u)=true:=by kernel_rfl
    exact(show Tryz.prog.wantsStandIn t=false by simpa using List.all_eq_true.1 hall t hm)⟩)
  (by kernel_rfl)
#print axioms showAgain_card
end Go.Proofs.YticfnglebbakkaaGreatDoor
