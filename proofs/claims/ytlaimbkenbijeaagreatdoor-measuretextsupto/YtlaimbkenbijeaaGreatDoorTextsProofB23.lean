/-
  Parts of the proof.
-/
import Derived.Test.YtlaimbkenbijeaaGreatDoorTextsProofA0
import Derived.Test.YtlaimbkenbijeaaGreatDoorTextsProofB22
import Derived.Test.YtlaimbkenbijeaaGreatDoorTextsProofB17
set_option maxRecDepth 100000
set_option maxHeartbeats 8000000
namespace Go.Proofs.YtlaimbkenbijeaaGreatDoor
open Go Go.RowKit
attribute [local go_sem] Oper.semAt_some
theorem aH6{R:Ending->World->Prop}{a:Act}{W:World}{b:Nat}{x:ByteArray × Bool}(h:W.heap[b]?=some (.cells #[.string x.1,.bool x.2] 80 (0,0)))(ha:a.tmps[6]?.getD undef=.pointer (some ⟨b,0,none⟩))(hd:a.defers=[])(hR:R (.returned (enO x)) W):bodyPost Tryz.prog Tryz.f46 R .ret a W:=by
 refine bodyPost_ret (v:=enO x) ?_ hd hR
 have z0:=aA h (i:=0) rfl;have z1:=aA h (i:=1) rfl
 simp [results,Tryz.results46,go_sem,ha,enO,z0,z1]
noncomputable def tvO (ρ:dH (ByteArray × Bool)) (c o:Bool) (t:Tr):ByteArray × Bool:=if aY c o 0 0 (pp [] t)=0 then (ev ρ (fun _=>(⟨#[]⟩,false)) t).1 else (⟨#[]⟩,false)
theorem aS7{Glo:World->Prop}(hglo:∀ {A B:World},CK A B->Glo A->Glo B){w:World}(hgw:Glo w){t:Tr}{Good:ByteArray × Bool->Prop}{ρ:dH (ByteArray × Bool)}{c o:Bool}(hta:TB w t)(hr:RuO Glo (NP c o) Good ρ c o)(hg:∀ t xs g,NP c o t->xs.length=t.ks.length->(∀ x∈xs,Good x)->(∀ i,Good (g i))->Good (ρ t.f t.ks xs g))(h0:Good (⟨#[]⟩,false)) :
  Calls Tryz.prog 46 #[.agg #[.int .i64 t.f.k,.int .i64 t.f.n,.int .i64 t.f.mn,.int .i64 t.f.mx,.slice t.f.rq t.f.rs.length t.f.rc,.slice t.f.kq t.f.kl t.f.kc],.agg #[.bool c,.bool o],.func (.func 47) #[] #[]] w fun e w'=>e=.returned (enO (tvO ρ c o t))/\Below w.heap.size w w':=by
 have HTA:=aD hta
 have HGW:=aD hgw
 have HR:=aD hr
 clear hgw
 have HG:=aD hg
 have H0:=aD h0
 clear hta hr hg h0
 by_cases hz:aY c o 0 0 (pp [] t)=0
 ·have HV:Hid (tvO ρ c o t=(ev ρ (fun _=>(⟨#[]⟩,false)) t).1):=if_pos hz
  have HZ:=aD hz
  clear hz
  have hmm:=@run_makeMap Tryz.prog
  go_enter Tryz.func46,Tryz.ntmps46
  go_upto_region 8 with (go_at_call 53;refine(eE c o (HTA.out.kept ((((bz9).alloc (by simp only [a7];omega) _).alloc (by simp only [a7];omega) _).alloc (by simp only [a7];omega) _))).mono ?_;rintro e w1 ⟨rfl,h1⟩;have B1:=aD h1;clear h1;have rz:=HZ.out)
  have l1:((((w.alloc (.cells #[.int .i64 t.f.k,.int .i64 t.f.n,.int .i64 t.f.mn,.int .i64 t.f.mx,.slice t.f.rq t.f.rs.length t.f.rc,.slice t.f.kq t.f.kl t.f.kc] 25)).alloc (.cells #[.bool c,.bool o] 27)).alloc (.cells #[.func (.func 47) #[] #[]] 82)).alloc (.cells #[.string ⟨#[]⟩,.bool false] 80)).heap.size<=w1.heap.size:=B1.out.size
  simp only [a7] at l1
  have b1:w1.heap[w.heap.size]?=some (.cells #[.int .i64 t.f.k,.int .i64 t.f.n,.int .i64 t.f.mn,.int .i64 t.f.mx,.slice t.f.rq t.f.rs.length t.f.rc,.slice t.f.kq t.f.kl t.f.kc] 25 (0,0)):=(B1.out.block _ (by simp only [a7];omega)).trans (by(repeat (first | exact aK _ (by first | rfl | simp only [a7]) | rw [Below.heap_alloc _ _ _ (by first | omega |(simp only [a7];omega))])))
  have b2:w1.heap[w.heap.size+1]?=some (.cells #[.bool c,.bool o] 27 (0,0)):=(B1.out.block _ (by simp only [a7];omega)).trans (by(repeat (first | exact aK _ (by first | rfl | simp only [a7]) | rw [Below.heap_alloc _ _ _ (by first | omega |(simp only [a7];omega))])))
  have b3:w1.heap[w.heap.size+1+1]?=some (.cells #[.func (.func 47) #[] #[]] 82 (0,0)):=(B1.out.block _ (by simp only [a7];omega)).trans (by(repeat (first | exact aK _ (by first | rfl | simp only [a7]) | rw [Below.heap_alloc _ _ _ (by first | omega |(simp only [a7];omega))])))
  have b4:w1.heap[w.heap.size+1+1+1]?=some (.cells #[.string ⟨#[]⟩,.bool false] 80 (0,0)):=(B1.out.block _ (by simp only [a7];omega)).trans (by(repeat (first | exact aK _ (by first | rfl | simp only [a7]) | rw [Below.heap_alloc _ _ _ (by first | omega |(simp only [a7];omega))])))
  have TT:Hid (TWO ((((w1.alloc (.map #[] 0)).alloc (.cells #[.map (some w1.heap.size)] 142)).alloc (.cells #[.func (.func 87) #[] #[.pointer (some ⟨w1.heap.size+1,0,none⟩)]] 143)).alloc (.cells #[.func (.func 88) #[] #[.pointer (some ⟨w.heap.size+1,0,none⟩),.pointer (some ⟨w1.heap.size+1+1,0,none⟩),.pointer (some ⟨w1.heap.size+1+1+1,0,none⟩),.pointer (some ⟨w.heap.size+1+1,0,none⟩),.pointer (some ⟨w1.heap.size+1,0,none⟩)]] 144)) (w.heap.size+1) (w1.heap.size+1+1) (w1.heap.size+1+1+1) (w.heap.size+1+1) (w1.heap.size+1) w1.heap.size c o):=⟨by rw [<- b2];(repeat (first | exact aK _ (by first | rfl | simp only [a7]) | rw [Below.heap_alloc _ _ _ (by first | omega |(simp only [a7];omega))])),by(repeat (first | exact aK _ (by first | rfl | simp only [a7]) | rw [Below.heap_alloc _ _ _ (by first | omega |(simp only [a7];omega))])),by(repeat (first | exact aK _ (by first | rfl | simp only [a7]) | rw [Below.heap_alloc _ _ _ (by first | omega |(simp only [a7];omega))])),by rw [<- b3];(repeat (first | exact aK _ (by first | rfl | simp only [a7]) | rw [Below.heap_alloc _ _ _ (by first | omega |(simp only [a7];omega))])),by(repeat (first | exact aK _ (by first | rfl | simp only [a7]) | rw [Below.heap_alloc _ _ _ (by first | omega |(simp only [a7];omega))]))⟩
  have BX:Hid (Below w1.heap.size w1 ((((w1.alloc (.map #[] 0)).alloc (.cells #[.map (some w1.heap.size)] 142)).alloc (.cells #[.func (.func 87) #[] #[.pointer (some ⟨w1.heap.size+1,0,none⟩)]] 143)).alloc (.cells #[.func (.func 88) #[] #[.pointer (some ⟨w.heap.size+1,0,none⟩),.pointer (some ⟨w1.heap.size+1+1,0,none⟩),.pointer (some ⟨w1.heap.size+1+1+1,0,none⟩),.pointer (some ⟨w.heap.size+1+1,0,none⟩),.pointer (some ⟨w1.heap.size+1,0,none⟩)]] 144))):=(((bz9).alloc (by simp only [a7];omega) _).alloc (by simp only [a7];omega) _).alloc (by simp only [a7];omega) _
  have MM:Hid (MapV ((((w1.alloc (.map #[] 0)).alloc (.cells #[.map (some w1.heap.size)] 142)).alloc (.cells #[.func (.func 87) #[] #[.pointer (some ⟨w1.heap.size+1,0,none⟩)]] 143)).alloc (.cells #[.func (.func 88) #[] #[.pointer (some ⟨w.heap.size+1,0,none⟩),.pointer (some ⟨w1.heap.size+1+1,0,none⟩),.pointer (some ⟨w1.heap.size+1+1+1,0,none⟩),.pointer (some ⟨w.heap.size+1+1,0,none⟩),.pointer (some ⟨w1.heap.size+1,0,none⟩)]] 144)) (.agg #[.string ⟨#[]⟩,.bool false]) w1.heap.size 0 (fun _=>enO (⟨#[]⟩,false))):=(((MapV.made w1 (.agg #[.string ⟨#[]⟩,.bool false])).kept (bz9)).kept (bz9)).kept (bz9)
  have BN:=aD ((BX.out.block _ (aB b1)).trans b1)
  have BR:=aD ((BX.out.block _ (aB b4)).trans b4)
  generalize hWX:((((w1.alloc (.map #[] 0)).alloc (.cells #[.map (some w1.heap.size)] 142)).alloc (.cells #[.func (.func 87) #[] #[.pointer (some ⟨w1.heap.size+1,0,none⟩)]] 143)).alloc (.cells #[.func (.func 88) #[] #[.pointer (some ⟨w.heap.size+1,0,none⟩),.pointer (some ⟨w1.heap.size+1+1,0,none⟩),.pointer (some ⟨w1.heap.size+1+1+1,0,none⟩),.pointer (some ⟨w.heap.size+1+1,0,none⟩),.pointer (some ⟨w1.heap.size+1,0,none⟩)]] 144))=WX at TT BX MM BN BR ⊢
  clear hWX b1 b2 b3 b4
  have B9:Hid (Below w.heap.size w WX):=aJ (aJ ((((bz9).alloc (by simp only [a7];omega) _).alloc (by simp only [a7];omega) _).alloc (by simp only [a7];omega) _) B1.out lz9) BX.out lz9
  have hO:=bP4 hglo HR.out (fun t h k=>h.wf k) HG.out (w.heap.size+1) (w1.heap.size+1+1) (w1.heap.size+1+1+1) (w.heap.size+1+1) (w1.heap.size+1) w1.heap.size t.sz t WX 0 (fun _=>(⟨#[]⟩,false)) lz9 (by have:=iQ HZ.out;omega) (hglo (CK.of_below B9.out) HGW.out) (HTA.out.kept B9.out) (gC HZ.out) (fun _=>H0.out) TT.out MM.out
  obtain⟨x,hx⟩:∃ x,tvO ρ c o t=x:=⟨_,rfl⟩
  have HC:Hid (Calls Tryz.prog 88 #[.agg #[.int .i64 t.f.k,.int .i64 t.f.n,.int .i64 t.f.mn,.int .i64 t.f.mx,.slice t.f.rq t.f.rs.length t.f.rc,.slice t.f.kq t.f.kl t.f.kc],.pointer (some ⟨w.heap.size+1,0,none⟩),.pointer (some ⟨w1.heap.size+1+1,0,none⟩),.pointer (some ⟨w1.heap.size+1+1+1,0,none⟩),.pointer (some ⟨w.heap.size+1+1,0,none⟩),.pointer (some ⟨w1.heap.size+1,0,none⟩)] WX (fun e w'=>e=.returned (.agg #[.string x.1,.bool x.2])/\Fr (fun k=>k=w1.heap.size) WX w')):=aD (hO.mono fun e w' h=>⟨by rw [h.1,<- HV.out,hx];rfl,h.2.2⟩)
  have HX:=aD hx
  clear hO hx
  have o0:WX.cell? ⟨w1.heap.size+1+1+1,0,none⟩=some (.func (.func 88) #[] #[.pointer (some ⟨w.heap.size+1,0,none⟩),.pointer (some ⟨w1.heap.size+1+1,0,none⟩),.pointer (some ⟨w1.heap.size+1+1+1,0,none⟩),.pointer (some ⟨w.heap.size+1+1,0,none⟩),.pointer (some ⟨w1.heap.size+1,0,none⟩)]):=aA TT.out.o (i:=0) rfl
  have n0:WX.cell? ⟨w.heap.size,0,none⟩=some (.int .i64 t.f.k):=aA BN.out (i:=0) rfl
  have n1:WX.cell? ⟨w.heap.size,1,none⟩=some (.int .i64 t.f.n):=aA BN.out (i:=1) rfl
  have n2:WX.cell? ⟨w.heap.size,2,none⟩=some (.int .i64 t.f.mn):=aA BN.out (i:=2) rfl
  have n3:WX.cell? ⟨w.heap.size,3,none⟩=some (.int .i64 t.f.mx):=aA BN.out (i:=3) rfl
  have n4:WX.cell? ⟨w.heap.size,4,none⟩=some (.slice t.f.rq t.f.rs.length t.f.rc):=aA BN.out (i:=4) rfl
  have n5:WX.cell? ⟨w.heap.size,5,none⟩=some (.slice t.f.kq t.f.kl t.f.kc):=aA BN.out (i:=5) rfl
  go_wp2_with (go_at_call 88;refine HC.out.mono ?_;rintro e w5 ⟨rfl,h5⟩;have F5:=aD h5;clear h5;have R5:Hid (w5.heap[w.heap.size+1+1+1]?=some (.cells #[.string ⟨#[]⟩,.bool false] 80 (0,0))):=(F5.out.block _ (aB BR.out) (fun e=>by omega)).trans BR.out;have z0:=aA R5.out (i:=0) rfl;have z1:=aA R5.out (i:=1) rfl;have fz:=fun z=>aG R5.out z)
  refine aH6 (b:=w.heap.size+1+1+1) (x:=x) (bA R5.out [.string x.1,.bool x.2] rfl) rfl rfl ?_
  exact⟨by rw [HX.out],bC (bC B9.out F5.out lz9 (fun k e=>by rw [e];exact i8 (by omega) l1)) (aV (w.heap.size+1+1+1) [.string x.1,.bool x.2] 0 w5) lz9 (fun k e=>by omega)⟩
 ·have HV:Hid (tvO ρ c o t=(⟨#[]⟩,false)):=if_neg hz
  have HZ:=aD hz
  obtain⟨r,hrr⟩:∃ r,aY c o 0 0 (pp [] t)=r:=⟨_,rfl⟩
  have rz:(r==0)=false:=by rw [<- hrr];simpa using hz
  have rz2:(r != 0)=true:=by rw [bne,rz];rfl
  have HQ:=aD hrr
  clear hz hrr
  go_enter Tryz.func46,Tryz.ntmps46
  go_wp2_with (go_at_call 53;refine(eE c o (HTA.out.kept ((((bz9).alloc (by simp only [a7];omega) _).alloc (by simp only [a7];omega) _).alloc (by simp only [a7];omega) _))).mono ?_;rw [HQ.out];rintro e w1 ⟨rfl,h1⟩;have B1:=aD h1;clear h1;have l1:((((w.alloc (.cells #[.int .i64 t.f.k,.int .i64 t.f.n,.int .i64 t.f.mn,.int .i64 t.f.mx,.slice t.f.rq t.f.rs.length t.f.rc,.slice t.f.kq t.f.kl t.f.kc] 25)).alloc (.cells #[.bool c,.bool o] 27)).alloc (.cells #[.func (.func 47) #[] #[]] 82)).alloc (.cells #[.string ⟨#[]⟩,.bool false] 80)).heap.size<=w1.heap.size:=B1.out.size;simp only [a7] at l1;have RA:Hid ((w1.alloc (.cells #[.string ⟨#[]⟩,.bool false] 80)).heap[w.heap.size+1+1+1]?=some (.cells #[.string ⟨#[]⟩,.bool false] 80 (0,0))):=(Below.heap_alloc _ _ _ (by omega)).trans ((B1.out.block _ (by simp only [a7];omega)).trans (by(repeat (first | exact aK _ (by first | rfl | simp only [a7]) | rw [Below.heap_alloc _ _ _ (by first | omega |(simp only [a7];omega))]))));have z0:=aA RA.out (i:=0) rfl;have z1:=aA RA.out (i:=1) rfl;have fz:=fun z=>aG RA.out z)
  refine aH6 (b:=w.heap.size+1+1+1) (x:=(⟨#[]⟩,false)) (bA RA.out [.string ⟨#[]⟩,.bool false] rfl) rfl rfl ?_
  exact⟨by rw [HV.out],bC ((aJ ((((bz9).alloc (by simp only [a7];omega) _).alloc (by simp only [a7];omega) _).alloc (by simp only [a7];omega) _) B1.out lz9).alloc (by have:=(aJ ((((bz9).alloc (by simp only [a7];omega) _).alloc (by simp only [a7];omega) _).alloc (by simp only [a7];omega) _) B1.out lz9).size;omega) _) (aV (w.heap.size+1+1+1) [.string ⟨#[]⟩,.bool false] 0 _) lz9 (fun k e=>by omega)⟩
end Go.Proofs.YtlaimbkenbijeaaGreatDoor
