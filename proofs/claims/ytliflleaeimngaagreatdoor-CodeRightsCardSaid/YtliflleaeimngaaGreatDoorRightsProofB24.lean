/-
  Proved: the law CodeRights answers true for every program and leaves it as it was: whether it is right, its error and place, its text, whether it is free, what can be come to, asked twice, are what the document says; the lists that came are the caller's; where the library's variables lie as the program's own text lays them (the card's tie).
-/
import Derived.Test.YtliflleaeimngaaGreatDoorRightsProofA0
import Derived.Test.YtliflleaeimngaaGreatDoorRightsProofB22
import Derived.Test.YtliflleaeimngaaGreatDoorRightsProofB23
set_option linter.unusedSimpArgs false
set_option maxRecDepth 100000
set_option maxHeartbeats 8000000
namespace Go.Proofs.YtliflleaeimngaaGreatDoor
open Go Go.RowKit
open Go Go.ChangeShapes Go.WideShapes Go.ChangeAt Go.RowKit
theorem xM:(Rows.laid_internal_strconv_uint64pow10:DataW Unit)=Lib.tabData .u64 Lib.pow10Tab:=by kernel_rfl
theorem aE9{W:World}(h:laidMetH Tryz.prog gP W):T14 W:=by
 have hz:=aE8 h
 rw [MakeChecks.laidMetH_plain _ _ _ (by kernel_rfl)] at h
 have h5 : Lib.VarReads Tryz.prog W "internal/strconv.uint64pow10" (Lib.tabData .u64 Lib.pow10Tab) := by rw [← xM]; exact Lib.laidMet.reads h (by simp [gP])
 refine⟨hz,?_,hz.1⟩
 obtain⟨g',t',cs,fuel,p,hg',ht',hvar,hd⟩:=h5
 obtain rfl:=j3 (jI.symm.trans hg')
 obtain rfl:=j3 ((show (Tryz.prog.globals[1]?).map (·.type)=some 164 by kernel_rfl).symm.trans ht')
 unfold Tens14 Lib.TabIs
 rw [hvar,<- Lib.cells_of_tab Tryz.underlying164 Tryz.underlying50 (by kernel_rfl) (by kernel_rfl) hd]
theorem gA(os:Os)(started:os.Started)(H:Type)(enc:TypeId×Value->H) :
  ReturnsInHanded {} Tryz.checked os 3 .any (fun w args=>(Rows.codeRightsSpec.pre enc Tryz.prog Tryz.f3 [] false w args/\laidMetH Tryz.prog gP w)/\sizedMet enc Tryz.prog Tryz.f3 (OpenSpec.ofChange Rows.codeRightsSpec) false w args)
   (Rows.codeRightsSpec.post enc Tryz.prog Tryz.f3 false true false false):=by
 refine returnsInHanded_of_change_and (C:=Tryz.checked) (X:=fun w _=>laidMetH Tryz.prog gP w) (fun _ _ _ hh h=>h.of_heap hh) own started (by kernel_rfl) Tryz.func3
  (ChangeSpec.witness_shaped (enc:=enc) (C:=Tryz.checked) (os:=os) (X:=fun w _=>laidMetH Tryz.prog gP w) false (World.doorLaid Tryz.prog 400 os) #[.agg #[.slice none 0 0,.int .i64 0,.int .i64 0,.bool false]] 8 rfl (World.shaped_of_RefB (by kernel_rfl) (by kernel_rfl)) (by kernel_rfl) (by kernel_rfl) (by kernel_rfl) (xZ os _)) ?_
 intro W base args ds gs before hval0 hW _ hsz hL _
 have hval:∀ (j:Nat) t v,Tryz.f3.params[j]?=some t->args[j]?=some v->Value.okWide Tryz.prog W .any base t v:=hval0
 have hW':=hW
 obtain⟨p,q,hA0,hV,rfl,hfz,hnd⟩:=hW
 have hA:DataW.TrodAll enc Tryz.prog W 0 (fun _=>true) true Tryz.f3.params.toList args.toList ds p:=hA0
 rw [Tryz.params3] at hA hval hsz
 obtain⟨v0,d0,rfl,rfl,h0⟩:=trodAll_one hA
 obtain⟨rfl,rfl⟩:=trodVars_none hV
 obtain⟨x0,rfl,hx0,hr0,hc0⟩:=vA (hval 0 24 v0 rfl rfl) h0 (fun n hn=>by
  have:=List.all_eq_true.1 hsz n (DataW.weights_mem_each (j:=0) (t:=24) rfl rfl n hn)
  simpa using this)
 have lt0:∀ x∈p,x.block<W.heap.size:=by obtain⟨m,hm⟩:=h0;exact DataW.trod_lt m _ _ _ hm
 clear hA0 hval0 hsz
 have hb:x0.L.length*80+160<=140737488355328:=by
  have r:reachBytes=140737488351232:=by decide
  omega
 refine(nP (aE9 hL) hx0 hb hc0).mono fun e W' ⟨he,bel⟩=>?_
 subst he
 exact⟨_,rfl,_,_,_,[],_,[],hW',trodAll_mk1 (shut_bool Tryz.underlying4 _),trodAll_mk1 (Below.trod aB1 (by kernel_rfl) (of_decide_eq_true (by kernel_rfl)) h0 bel lt0),rfl,bel.frame _,fun h=>by cases h⟩
theorem gH:Rows.CodeRightsSaid:=
 OpenClaim.holds_of_wide 3 Tryz.f3 rfl rfl rfl rfl rfl rfl rfl ⟨rfl,rfl,rfl,rfl,rfl⟩ rfl rfl rfl rfl rfl (by kernel_rfl) Tryz.func3 (by kernel_rfl)
  (of_decide_eq_true (by kernel_rfl)) (by unfold Func.isWrapper;first |(rw [if_pos (by decide +kernel)];kernel_rfl) |(rw [if_neg (by decide +kernel)];exact⟨rfl,rfl⟩))
  (fun os started H enc _=>gA os started H enc)
theorem codeRights_card:Rows.CodeRightsCardSaid:=
 Claim7.holds_tied_plain_at .later [] _ _ _ _
  gH (fun _ h=>by cases h) (by kernel_rfl) (fun _ h=>by cases h) codeRights_row_tie rfl ⟨rfl,rfl⟩ (by kernel_rfl) rfl
  (fun f fn hf hfn=>by
   obtain rfl : f = 3 := j3 ((show Tryz.prog.funcNamed "dredge/dredgelaw14.CodeRights" = some 3 by kernel_rfl).symm.trans hf) |>.symm
   obtain rfl:fn=Tryz.f3:=(j3 (Tryz.func3.symm.trans hfn)).symm
   exact⟨by kernel_rfl,fun j t ht=>by
    rw [Tryz.params3] at ht
    have hm:t∈[24]:=by simpa using Array.mem_of_getElem? ht
    have hall:([24].all fun u=>!Tryz.prog.wantsStandIn u)=true:=by kernel_rfl
    exact(show Tryz.prog.wantsStandIn t=false by simpa using List.all_eq_true.1 hall t hm)⟩)
  (by kernel_rfl)
#print axioms codeRights_card
end Go.Proofs.YtliflleaeimngaaGreatDoor
