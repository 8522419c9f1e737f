/-
  Proved: MeasureLiteral holds for every tree, pair of texts and mode: a right tree that has a Literal has, by the document's matcher, just one end where that text stands behind the first text, the end of that text, or its ways are too many. Conditions: the variable dredge/chars.spans lies as the program lays it.
-/
import Derived.Test.YtdgfpiekjigfnaaGreatDoorLiteralProofA0
import Derived.Test.YtdgfpiekjigfnaaGreatDoorLiteralProofB31
import Derived.Test.YtdgfpiekjigfnaaGreatDoorLiteralProofB23
import Derived.Carry
import Derived.SizedLaws
set_option maxRecDepth 100000
set_option maxHeartbeats 8000000
namespace Go.Proofs.YtdgfpiekjigfnaaGreatDoor
open Go Go.RowKit
open Go Go.ChangeShapes Go.WideShapes Go.ChangeAt Go.RowKit
open Go.ChangeMaps (open_string shut_string)
theorem lG(os:Os){H:Type}(enc:TypeId×Value->H):∃ places,DataW.whole enc Tryz.prog ((pW os).forCall (fun _ _=>0) ⟨#[],#[.agg #[.int .i64 0,.int .i64 0,.int .i64 0,.int .i64 0,.slice none 0 0,.slice none 0 0],.string ⟨#[]⟩,.string ⟨#[]⟩,.agg #[.bool false,.bool false]],[]⟩).memory Tryz.f4.params.toList Rows.measureLiteralSpec.vars false #[Value.agg #[.int .i64 0,.int .i64 0,.int .i64 0,.int .i64 0,.slice none 0 0,.slice none 0 0],Value.string ⟨#[]⟩,Value.string ⟨#[]⟩,Value.agg #[.bool false,.bool false]].toList 8=some ([.agg [.lit (.int .i64 0),.lit (.int .i64 0),.lit (.int .i64 0),.lit (.int .i64 0),.nil,.nil],.lit (.string []),.lit (.string []),.agg [.lit (.bool false),.lit (.bool false)]],[],places):=
 ⟨[],by kernel_rfl⟩
theorem kV(os:Os)(started:os.Started)(H:Type)(enc:TypeId×Value->H)(F:Stop.Interp) :
  ReturnsInHanded {} Tryz.checked os 4 .any ((OpenSpec.ofChange Rows.measureLiteralSpec).preRow enc Tryz.prog Tryz.f4 Rows.measureLiteralRow.domain false Rows.measureLiteralRow.laid) (((OpenSpec.ofChange Rows.measureLiteralSpec).at F).post enc Tryz.prog Tryz.f4 false true false false):=by
 obtain⟨places,hx⟩:=lG os enc;refine returnsInHanded_of_row (C:=Tryz.checked) (s:=(OpenSpec.ofChange Rows.measureLiteralSpec)) own started (by kernel_rfl) Tryz.func4
  (witness_row_at (enc:=enc) (C:=Tryz.checked) false (pW os) #[.agg #[.int .i64 0,.int .i64 0,.int .i64 0,.int .i64 0,.slice none 0 0,.slice none 0 0],.string ⟨#[]⟩,.string ⟨#[]⟩,.agg #[.bool false,.bool false]] rfl (by kernel_rfl) (by kernel_rfl) (by kernel_rfl)
   (OpenSpec.preRow_of_cond 8 hx (by kernel_rfl) (fun k hk=>by cases hk) (by kernel_rfl) (aZ6 os _))) ?_
 intro W base args ds gs before hval0 hW _ hcond hsz hL0 hSh _;have hL:laidMetH Tryz.prog aK0 W:=hL0;have hval:∀ (j:Nat) t v,Tryz.f4.params[j]?=some t->args[j]?=some v->Value.okWide Tryz.prog W .any base t v:=hval0;have hW':=hW;obtain⟨p,q,hA0,hV,rfl,hfz,hnd⟩:=hW;have hA:DataW.TrodAll enc Tryz.prog W 0 (fun _=>true) true Tryz.f4.params.toList args.toList ds p:=hA0;rw [Tryz.params4] at hA hval hsz;obtain⟨v0,v1,v2,v3,d0,d1,d2,d3,p0,p1,p2,p3,rfl,rfl,rfl,h0,h1,h2,h3⟩:=trodAll_four hA;obtain⟨rfl,rfl⟩:=trodVars_none hV;obtain⟨t0,ht0,rfl⟩:=aP6 (hval 0 25 v0 rfl rfl) h0 (fun n hn=>by have:=List.all_eq_true.1 hsz _ (DataW.weights_mem_each (j:=0) (t:=25) rfl rfl n hn);simpa using this);have lt0:∀ x∈p0,x.block<W.heap.size:=by obtain⟨m,hm⟩:=h0;exact DataW.trod_lt m _ _ _ hm
 obtain⟨x1,rfl,rfl,rfl,wf1⟩:=open_string Tryz.underlying9 (hval 1 9 v1 rfl rfl) h1;have hb1:x1.size<=140737488355328:=by
  have:=sized_string hsz (j:=1) (t:=9) rfl rfl;have r:=reachBytes_lt;rw [cI] at this;omega
 obtain⟨x2,rfl,rfl,rfl,wf2⟩:=open_string Tryz.underlying9 (hval 2 9 v2 rfl rfl) h2;have hb2:x2.size<=140737488355328:=by
  have:=sized_string hsz (j:=2) (t:=9) rfl rfl;have r:=reachBytes_lt;rw [cI] at this;omega
 obtain⟨c3,o3,rfl⟩:=aE6 (hval 3 27 v3 rfl rfl) h3;have lt3:∀ x∈p3,x.block<W.heap.size:=by obtain⟨m,hm⟩:=h3;exact DataW.trod_lt m _ _ _ hm
 clear hA0 hval0 hsz hcond;refine(tU c3 o3 x1 x2 hb1 hb2 ht0 (bK4 hL)).mono fun e W' ⟨he,bel⟩=>?_;subst he;exact⟨_,rfl,_,_,_,[],_,[],hW',trodAll_mk1 (shut_bool Tryz.underlying4 _),trodAll_mk4 (Below.trod aJ9 (by kernel_rfl) (of_decide_eq_true (by kernel_rfl)) h0 bel lt0) (shut_string Tryz.underlying9 wf1) (shut_string Tryz.underlying9 wf2) (Below.trod aJ9 (by kernel_rfl) (of_decide_eq_true (by kernel_rfl)) h3 bel lt3),rfl,bel.frame _,fun h=>by cases h⟩
theorem lH:Rows.MeasureLiteralSaid:=
 OpenClaim.holds_of_cond 4 Tryz.f4 rfl rfl rfl rfl rfl rfl rfl ⟨rfl,rfl,rfl,rfl,rfl⟩ rfl rfl rfl rfl rfl (by kernel_rfl) Tryz.func4 (by kernel_rfl)
  (of_decide_eq_true (by kernel_rfl)) (by unfold Func.isWrapper;first |(rw [if_pos (by decide +kernel)];kernel_rfl) |(rw [if_neg (by decide +kernel)];exact⟨rfl,rfl⟩))
  (fun os started H enc _ F=>by rw [OpenClaim.pre_eq_preRow];exact kV os started H enc F)
theorem measureLiteral_card:Rows.MeasureLiteralCardSaid:=
 Claim7.holds_tied_plain_at .later [] _ _ _ _
  lH (fun _ h=>by cases h) (by kernel_rfl) (fun _ h=>by cases h) measureLiteral_row_tie rfl ⟨rfl,rfl⟩ (by kernel_rfl) rfl
  (fun f fn hf hfn=>by
   obtain rfl : f = 4 := t8 ((show Tryz.prog.funcNamed "dredge/dredgelaw11.MeasureLiteral" = some 4 by kernel_rfl).symm.trans hf) |>.symm
   obtain rfl:fn=Tryz.f4:=(t8 (Tryz.func4.symm.trans hfn)).symm;exact⟨by kernel_rfl,fun j t ht=>by
    rw [Tryz.params4] at ht;have hm:t∈[25,9,9,27]:=(by simpa using Array.mem_of_getElem? ht);have hall:([25,9,9,27].all fun u=>!Tryz.prog.wantsStandIn u)=true:=(by kernel_rfl);exact(show Tryz.prog.wantsStandIn t=false by simpa using List.all_eq_true.1 hall t hm)⟩)
  (by kernel_rfl)
#print axioms measureLiteral_card
end Go.Proofs.YtdgfpiekjigfnaaGreatDoor
