/-
  Parts of the proof.
-/
import Derived.Test.YtjafnbjipgediaaGreatDoorPartsProofB13
import Derived.Test.YtjafnbjipgediaaGreatDoorPartsProofB12
set_option maxRecDepth 100000
set_option maxHeartbeats 8000000
namespace Go.Proofs.YtjafnbjipgediaaGreatDoor
open Go Go.RowKit
attribute [local go_sem] Oper.semAt_some
theorem aM7{R:Ending->World->Prop}{a:Act}{W:World}{b:Nat}{x:Int × Int}(h:W.heap[b]?=some (.cells #[.int .i64 x.1,.int .i64 x.2] 68 (0,0)))(ha:a.tmps[3]?.getD undef=.pointer (some ⟨b,0,none⟩))(hd:a.defers=[])(hR:R (.returned (enW x)) W):bodyPost Tryz.prog Tryz.f73 R .ret a W:=by
 refine bodyPost_ret (v:=enW x) ?_ hd hR
 have z0:=aA h (i:=0) rfl;have z1:=aA h (i:=1) rfl
 simp [results,Tryz.results73,go_sem,ha,enW,z0,z1]
theorem xQ{R:Ending->World->Prop}{a:Act}{W:World}{b:Nat}{x:Int × Int}(h:W.heap[b]?=some (.cells #[.int .i64 x.1,.int .i64 x.2] 68 (0,0)))(ha:a.tmps[6]?.getD undef=.pointer (some ⟨b,0,none⟩))(hd:a.defers=[])(hR:R (.returned (enW x)) W):bodyPost Tryz.prog Tryz.f40 R .ret a W:=by
 refine bodyPost_ret (v:=enW x) ?_ hd hR
 have z0:=aA h (i:=0) rfl;have z1:=aA h (i:=1) rfl
 simp [results,Tryz.results40,go_sem,ha,enW,z0,z1]
theorem aQ6(w:World):(zeroValue 68).run Tryz.prog w=.ok (.agg #[.int .i64 0,.int .i64 0]) w:=by kernel_rfl
theorem aV2{w:World}{bp bb n:Nat}{g:Int->Int × Int}(hp:w.heap[bp]?=some (.cells #[.map (some bb)] 118 (0,0)))(hm:MapV w (.agg #[.int .i64 0,.int .i64 0]) bb n (fun i=>enW (g i)))(i:Int)(hi:(Lit.int .i64 i).wf=true) :
  Calls Tryz.prog 73 #[.int .i64 i,bx bp] w fun e w'=>e=.returned (enW (g i))/\Below w.heap.size w w':=by
 have HM:=aD hm
 have HI:=aD hi
 have HP:=aD hp
 have lp:=aB hp
 have p0:w.cell? ⟨bp,0,none⟩=some (.map (some bb)):=aA hp (i:=0) rfl
 clear hm hi hp
 obtain⟨x,hx⟩:∃ x,g i=x:=⟨_,rfl⟩
 have HX:=aD hx
 clear hx
 have A1:Hid (Below w.heap.size w (w.alloc (.cells #[.int .i64 0,.int .i64 0] 68))):=bz9
 go_enter Tryz.func73,Tryz.ntmps73
 go_wp2_with (at_lookup;refine kL _ rfl _ _ 118 rfl 68 aD8 (.agg #[.int .i64 0,.int .i64 0]) bb n (fun i=>enW (g i)) rfl (HM.out.kept A1.out) (aQ6 _) i rfl HI.out ?_;rw [HX.out];simp only [enW])
 refine aM7 (b:=w.heap.size) (x:=x) (aE w _) rfl rfl ?_
 exact⟨by rw [HX.out],bz9⟩
noncomputable def tvW (ρ:cQ (Int × Int)) (c o:Bool) (t:Tr):Int × Int:=if aS c o 0 0 (pp [] t)=0 then (ev ρ (fun _=>(0,0)) t).1 else (0,0)
theorem aR5{Glo:World->Prop}(hglo:∀ {A B:World},CK A B->Glo A->Glo B){w:World}(hgw:Glo w){t:Tr}{Good:Int × Int->Prop}{ρ:cQ (Int × Int)}{c o:Bool}(hta:TB w t)(hr:RuW Glo (NP c o) Good ρ c o)(hg:∀ t xs g,NP c o t->xs.length=t.ks.length->(∀ x∈xs,Good x)->(∀ i,Good (g i))->Good (ρ t.f t.ks xs g))(h0:Good (0,0)) :
  Calls Tryz.prog 40 #[.agg #[.int .i64 t.f.k,.int .i64 t.f.n,.int .i64 t.f.mn,.int .i64 t.f.mx,.slice t.f.rq t.f.rs.length t.f.rc,.slice t.f.kq t.f.kl t.f.kc],.agg #[.bool c,.bool o],.func (.func 41) #[] #[]] w fun e w'=>e=.returned (enW (tvW ρ c o t))/\Below w.heap.size w w':=by
 have HTA:=aD hta
 have HGW:=aD hgw
 have HR:=aD hr
 clear hgw
 have HG:=aD hg
 have H0:=aD h0
 clear hta hr hg h0
 by_cases hz:aS c o 0 0 (pp [] t)=0
 ·have HV:Hid (tvW ρ c o t=(ev ρ (fun _=>(0,0)) t).1):=if_pos hz
  have HZ:=aD hz
  clear hz
  have hmm:=@run_makeMap Tryz.prog
  go_enter Tryz.func40,Tryz.ntmps40
  go_upto_region 8 with (go_at_call 53;refine(cZ c o (HTA.out.kept ((((bz9).alloc (by simp only [World.size_alloc];omega) _).alloc (by simp only [World.size_alloc];omega) _).alloc (by simp only [World.size_alloc];omega) _))).mono ?_;rintro e w1 ⟨rfl,h1⟩;have B1:=aD h1;clear h1;have rz:=HZ.out)
  have l1:((((w.alloc (.cells #[.int .i64 t.f.k,.int .i64 t.f.n,.int .i64 t.f.mn,.int .i64 t.f.mx,.slice t.f.rq t.f.rs.length t.f.rc,.slice t.f.kq t.f.kl t.f.kc] 25)).alloc (.cells #[.bool c,.bool o] 27)).alloc (.cells #[.func (.func 41) #[] #[]] 70)).alloc (.cells #[.int .i64 0,.int .i64 0] 68)).heap.size<=w1.heap.size:=B1.out.size
  simp only [World.size_alloc] at l1
  have b1:w1.heap[w.heap.size]?=some (.cells #[.int .i64 t.f.k,.int .i64 t.f.n,.int .i64 t.f.mn,.int .i64 t.f.mx,.slice t.f.rq t.f.rs.length t.f.rc,.slice t.f.kq t.f.kl t.f.kc] 25 (0,0)):=(B1.out.block _ (by simp only [World.size_alloc];omega)).trans (by(repeat (first | exact aI _ (by first | rfl | simp only [World.size_alloc]) | rw [Below.heap_alloc _ _ _ (by first | omega |(simp only [World.size_alloc];omega))])))
  have b2:w1.heap[w.heap.size+1]?=some (.cells #[.bool c,.bool o] 27 (0,0)):=(B1.out.block _ (by simp only [World.size_alloc];omega)).trans (by(repeat (first | exact aI _ (by first | rfl | simp only [World.size_alloc]) | rw [Below.heap_alloc _ _ _ (by first | omega |(simp only [World.size_alloc];omega))])))
  have b3:w1.heap[w.heap.size+1+1]?=some (.cells #[.func (.func 41) #[] #[]] 70 (0,0)):=(B1.out.block _ (by simp only [World.size_alloc];omega)).trans (by(repeat (first | exact aI _ (by first | rfl | simp only [World.size_alloc]) | rw [Below.heap_alloc _ _ _ (by first | omega |(simp only [World.size_alloc];omega))])))
  have b4:w1.heap[w.heap.size+1+1+1]?=some (.cells #[.int .i64 0,.int .i64 0] 68 (0,0)):=(B1.out.block _ (by simp only [World.size_alloc];omega)).trans (by(repeat (first | exact aI _ (by first | rfl | simp only [World.size_alloc]) | rw [Below.heap_alloc _ _ _ (by first | omega |(simp only [World.size_alloc];omega))])))
  have TT:Hid (TWW ((((w1.alloc (.map #[] 0)).alloc (.cells #[.map (some w1.heap.size)] 118)).alloc (.cells #[.func (.func 73) #[] #[.pointer (some ⟨w1.heap.size+1,0,none⟩)]] 119)).alloc (.cells #[.func (.func 74) #[] #[.pointer (some ⟨w.heap.size+1,0,none⟩),.pointer (some ⟨w1.heap.size+1+1,0,none⟩),.pointer (some ⟨w1.heap.size+1+1+1,0,none⟩),.pointer (some ⟨w.heap.size+1+1,0,none⟩),.pointer (some ⟨w1.heap.size+1,0,none⟩)]] 120)) (w.heap.size+1) (w1.heap.size+1+1) (w1.heap.size+1+1+1) (w.heap.size+1+1) (w1.heap.size+1) w1.heap.size c o):=⟨by rw [<- b2];(repeat (first | exact aI _ (by first | rfl | simp only [World.size_alloc]) | rw [Below.heap_alloc _ _ _ (by first | omega |(simp only [World.size_alloc];omega))])),by(repeat (first | exact aI _ (by first | rfl | simp only [World.size_alloc]) | rw [Below.heap_alloc _ _ _ (by first | omega |(simp only [World.size_alloc];omega))])),by(repeat (first | exact aI _ (by first | rfl | simp only [World.size_alloc]) | rw [Below.heap_alloc _ _ _ (by first | omega |(simp only [World.size_alloc];omega))])),by rw [<- b3];(repeat (first | exact aI _ (by first | rfl | simp only [World.size_alloc]) | rw [Below.heap_alloc _ _ _ (by first | omega |(simp only [World.size_alloc];omega))])),by(repeat (first | exact aI _ (by first | rfl | simp only [World.size_alloc]) | rw [Below.heap_alloc _ _ _ (by first | omega |(simp only [World.size_alloc];omega))]))⟩
  have BX:Hid (Below w1.heap.size w1 ((((w1.alloc (.map #[] 0)).alloc (.cells #[.map (some w1.heap.size)] 118)).alloc (.cells #[.func (.func 73) #[] #[.pointer (some ⟨w1.heap.size+1,0,none⟩)]] 119)).alloc (.cells #[.func (.func 74) #[] #[.pointer (some ⟨w.heap.size+1,0,none⟩),.pointer (some ⟨w1.heap.size+1+1,0,none⟩),.pointer (some ⟨w1.heap.size+1+1+1,0,none⟩),.pointer (some ⟨w.heap.size+1+1,0,none⟩),.pointer (some ⟨w1.heap.size+1,0,none⟩)]] 120))):=(((bz9).alloc (by simp only [World.size_alloc];omega) _).alloc (by simp only [World.size_alloc];omega) _).alloc (by simp only [World.size_alloc];omega) _
  have MM:Hid (MapV ((((w1.alloc (.map #[] 0)).alloc (.cells #[.map (some w1.heap.size)] 118)).alloc (.cells #[.func (.func 73) #[] #[.pointer (some ⟨w1.heap.size+1,0,none⟩)]] 119)).alloc (.cells #[.func (.func 74) #[] #[.pointer (some ⟨w.heap.size+1,0,none⟩),.pointer (some ⟨w1.heap.size+1+1,0,none⟩),.pointer (some ⟨w1.heap.size+1+1+1,0,none⟩),.pointer (some ⟨w.heap.size+1+1,0,none⟩),.pointer (some ⟨w1.heap.size+1,0,none⟩)]] 120)) (.agg #[.int .i64 0,.int .i64 0]) w1.heap.size 0 (fun _=>enW (0,0))):=(((MapV.made w1 (.agg #[.int .i64 0,.int .i64 0])).kept (bz9)).kept (bz9)).kept (bz9)
  have BN:=aD ((BX.out.block _ (aB b1)).trans b1)
  have BR:=aD ((BX.out.block _ (aB b4)).trans b4)
  generalize hWX:((((w1.alloc (.map #[] 0)).alloc (.cells #[.map (some w1.heap.size)] 118)).alloc (.cells #[.func (.func 73) #[] #[.pointer (some ⟨w1.heap.size+1,0,none⟩)]] 119)).alloc (.cells #[.func (.func 74) #[] #[.pointer (some ⟨w.heap.size+1,0,none⟩),.pointer (some ⟨w1.heap.size+1+1,0,none⟩),.pointer (some ⟨w1.heap.size+1+1+1,0,none⟩),.pointer (some ⟨w.heap.size+1+1,0,none⟩),.pointer (some ⟨w1.heap.size+1,0,none⟩)]] 120))=WX at TT BX MM BN BR ⊢
  clear hWX b1 b2 b3 b4
  have B9:Hid (Below w.heap.size w WX):=aK (aK ((((bz9).alloc (by simp only [World.size_alloc];omega) _).alloc (by simp only [World.size_alloc];omega) _).alloc (by simp only [World.size_alloc];omega) _) B1.out lz9) BX.out lz9
  have hO:=aW4 hglo HR.out (fun t h k=>h.wf k) HG.out (w.heap.size+1) (w1.heap.size+1+1) (w1.heap.size+1+1+1) (w.heap.size+1+1) (w1.heap.size+1) w1.heap.size t.sz t WX 0 (fun _=>(0,0)) lz9 (by have:=fJ HZ.out;omega) (hglo (CK.of_below B9.out) HGW.out) (HTA.out.kept B9.out) (fK HZ.out) (fun _=>H0.out) TT.out MM.out
  obtain⟨x,hx⟩:∃ x,tvW ρ c o t=x:=⟨_,rfl⟩
  have HC:Hid (Calls Tryz.prog 74 #[.agg #[.int .i64 t.f.k,.int .i64 t.f.n,.int .i64 t.f.mn,.int .i64 t.f.mx,.slice t.f.rq t.f.rs.length t.f.rc,.slice t.f.kq t.f.kl t.f.kc],.pointer (some ⟨w.heap.size+1,0,none⟩),.pointer (some ⟨w1.heap.size+1+1,0,none⟩),.pointer (some ⟨w1.heap.size+1+1+1,0,none⟩),.pointer (some ⟨w.heap.size+1+1,0,none⟩),.pointer (some ⟨w1.heap.size+1,0,none⟩)] WX (fun e w'=>e=.returned (.agg #[.int .i64 x.1,.int .i64 x.2])/\Fr (fun k=>k=w1.heap.size) WX w')):=aD (hO.mono fun e w' h=>⟨by rw [h.1,<- HV.out,hx];rfl,h.2.2⟩)
  have HX:=aD hx
  clear hO hx
  have o0:WX.cell? ⟨w1.heap.size+1+1+1,0,none⟩=some (.func (.func 74) #[] #[.pointer (some ⟨w.heap.size+1,0,none⟩),.pointer (some ⟨w1.heap.size+1+1,0,none⟩),.pointer (some ⟨w1.heap.size+1+1+1,0,none⟩),.pointer (some ⟨w.heap.size+1+1,0,none⟩),.pointer (some ⟨w1.heap.size+1,0,none⟩)]):=aA TT.out.o (i:=0) rfl
  have n0:WX.cell? ⟨w.heap.size,0,none⟩=some (.int .i64 t.f.k):=aA BN.out (i:=0) rfl
  have n1:WX.cell? ⟨w.heap.size,1,none⟩=some (.int .i64 t.f.n):=aA BN.out (i:=1) rfl
  have n2:WX.cell? ⟨w.heap.size,2,none⟩=some (.int .i64 t.f.mn):=aA BN.out (i:=2) rfl
  have n3:WX.cell? ⟨w.heap.size,3,none⟩=some (.int .i64 t.f.mx):=aA BN.out (i:=3) rfl
  have n4:WX.cell? ⟨w.heap.size,4,none⟩=some (.slice t.f.rq t.f.rs.length t.f.rc):=aA BN.out (i:=4) rfl
  have n5:WX.cell? ⟨w.heap.size,5,none⟩=some (.slice t.f.kq t.f.kl t.f.kc):=aA BN.out (i:=5) rfl
  go_wp2_with (go_at_call 74;refine HC.out.mono ?_;rintro e w5 ⟨rfl,h5⟩;have F5:=aD h5;clear h5;have R5:Hid (w5.heap[w.heap.size+1+1+1]?=some (.cells #[.int .i64 0,.int .i64 0] 68 (0,0))):=(F5.out.block _ (aB BR.out) (fun e=>by omega)).trans BR.out;have z0:=aA R5.out (i:=0) rfl;have z1:=aA R5.out (i:=1) rfl;have fz:=fun z=>aF R5.out z)
  refine xQ (b:=w.heap.size+1+1+1) (x:=x) (aW R5.out [.int .i64 x.1,.int .i64 x.2] rfl) rfl rfl ?_
  exact⟨by rw [HX.out],bB (bB B9.out F5.out lz9 (fun k e=>by rw [e];exact Nat.le_trans (by omega) l1)) (aT (w.heap.size+1+1+1) [.int .i64 x.1,.int .i64 x.2] 0 w5) lz9 (fun k e=>by omega)⟩
 ·have HV:Hid (tvW ρ c o t=(0,0)):=if_neg hz
  have HZ:=aD hz
  obtain⟨r,hrr⟩:∃ r,aS c o 0 0 (pp [] t)=r:=⟨_,rfl⟩
  have rz:(r==0)=false:=by rw [<- hrr];simpa using hz
  have rz2:(r != 0)=true:=by rw [bne,rz];rfl
  have HQ:=aD hrr
  clear hz hrr
  go_enter Tryz.func40,Tryz.ntmps40
  go_wp2_with (go_at_call 53;refine(cZ c o (HTA.out.kept ((((bz9).alloc (by simp only [World.size_alloc];omega) _).alloc (by simp only [World.size_alloc];omega) _).alloc (by simp only [World.size_alloc];omega) _))).mono ?_;rw [HQ.out];rintro e w1 ⟨rfl,h1⟩;have B1:=aD h1;clear h1;have l1:((((w.alloc (.cells #[.int .i64 t.f.k,.int .i64 t.f.n,.int .i64 t.f.mn,.int .i64 t.f.mx,.slice t.f.rq t.f.rs.length t.f.rc,.slice t.f.kq t.f.kl t.f.kc] 25)).alloc (.cells #[.bool c,.bool o] 27)).alloc (.cells #[.func (.func 41) #[] #[]] 70)).alloc (.cells #[.int .i64 0,.int .i64 0] 68)).heap.size<=w1.heap.size:=B1.out.size;simp only [World.size_alloc] at l1;have RA:Hid ((w1.alloc (.cells #[.int .i64 0,.int .i64 0] 68)).heap[w.heap.size+1+1+1]?=some (.cells #[.int .i64 0,.int .i64 0] 68 (0,0))):=(Below.heap_alloc _ _ _ (by omega)).trans ((B1.out.block _ (by simp only [World.size_alloc];omega)).trans (by(repeat (first | exact aI _ (by first | rfl | simp only [World.size_alloc]) | rw [Below.heap_alloc _ _ _ (by first | omega |(simp only [World.size_alloc];omega))]))));have z0:=aA RA.out (i:=0) rfl;have z1:=aA RA.out (i:=1) rfl;have fz:=fun z=>aF RA.out z)
  refine xQ (b:=w.heap.size+1+1+1) (x:=(0,0)) (aW RA.out [.int .i64 0,.int .i64 0] rfl) rfl rfl ?_
  exact⟨by rw [HV.out],bB ((aK ((((bz9).alloc (by simp only [World.size_alloc];omega) _).alloc (by simp only [World.size_alloc];omega) _).alloc (by simp only [World.size_alloc];omega) _) B1.out lz9).alloc (by have:=(aK ((((bz9).alloc (by simp only [World.size_alloc];omega) _).alloc (by simp only [World.size_alloc];omega) _).alloc (by simp only [World.size_alloc];omega) _) B1.out lz9).size;omega) _) (aT (w.heap.size+1+1+1) [.int .i64 0,.int .i64 0] 0 _) lz9 (fun k e=>by omega)⟩
end Go.Proofs.YtjafnbjipgediaaGreatDoor
