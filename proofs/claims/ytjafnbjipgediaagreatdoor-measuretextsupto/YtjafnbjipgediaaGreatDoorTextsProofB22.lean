/-
  Parts of the proof.
-/
import Derived.Test.YtjafnbjipgediaaGreatDoorTextsProofB21
import Derived.Test.YtjafnbjipgediaaGreatDoorTextsProofB17
import Derived.Test.YtjafnbjipgediaaGreatDoorTextsProofB18
import Derived.Test.YtjafnbjipgediaaGreatDoorTextsProofB3
import Derived.Test.YtjafnbjipgediaaGreatDoorTextsProofB0
set_option maxRecDepth 100000
set_option maxHeartbeats 8000000
namespace Go.Proofs.YtjafnbjipgediaaGreatDoor
open Go Go.RowKit
section
attribute [local go_sem] Oper.semAt_some
theorem bC8{R:Ending->World->Prop}{a:Act}{W:World}{b:Nat}{x:BitVec 256 × Bool}(h:W.heap[b]?=some (.cells #[.int .u64 (aC x.1 0),.int .u64 (aC x.1 1),.int .u64 (aC x.1 2),.int .u64 (aC x.1 3),.bool x.2] 76 (0,0)))(ha:a.tmps[3]?.getD undef=.pointer (some ⟨b,0,none⟩))(hd:a.defers=[])(hR:R (.returned (enS x)) W):bodyPost Tryz.prog Tryz.f82 R .ret a W:=by
 refine bodyPost_ret (v:=enS x) ?_ hd hR
 have z0:=aA h (i:=0) rfl;have z1:=aA h (i:=1) rfl;have z2:=aA h (i:=2) rfl;have z3:=aA h (i:=3) rfl;have z4:=aA h (i:=4) rfl
 simp [results,Tryz.results82,go_sem,ha,enS,z0,z1,z2,z3,z4]
theorem aH5{R:Ending->World->Prop}{a:Act}{W:World}{b:Nat}{x:BitVec 256 × Bool}(h:W.heap[b]?=some (.cells #[.int .u64 (aC x.1 0),.int .u64 (aC x.1 1),.int .u64 (aC x.1 2),.int .u64 (aC x.1 3),.bool x.2] 76 (0,0)))(ha:a.tmps[6]?.getD undef=.pointer (some ⟨b,0,none⟩))(hd:a.defers=[])(hR:R (.returned (enS x)) W):bodyPost Tryz.prog Tryz.f44 R .ret a W:=by
 refine bodyPost_ret (v:=enS x) ?_ hd hR
 have z0:=aA h (i:=0) rfl;have z1:=aA h (i:=1) rfl;have z2:=aA h (i:=2) rfl;have z3:=aA h (i:=3) rfl;have z4:=aA h (i:=4) rfl
 simp [results,Tryz.results44,go_sem,ha,enS,z0,z1,z2,z3,z4]
theorem bI5(w:World):(zeroValue 76).run Tryz.prog w=.ok (.agg #[.int .u64 0,.int .u64 0,.int .u64 0,.int .u64 0,.bool false]) w:=by kernel_rfl
theorem bO3{w:World}{bp bb n:Nat}{g:Int->BitVec 256 × Bool}(hp:w.heap[bp]?=some (.cells #[.map (some bb)] 133 (0,0)))(hm:MapV w (.agg #[.int .u64 0,.int .u64 0,.int .u64 0,.int .u64 0,.bool false]) bb n (fun i=>enS (g i)))(i:Int)(hi:(Lit.int .i64 i).wf=true) :
  Calls Tryz.prog 82 #[.int .i64 i,bx bp] w fun e w'=>e=.returned (enS (g i))/\Below w.heap.size w w':=by
 have HM:=aD hm
 have HI:=aD hi
 have HP:=aD hp
 have lp:=aB hp
 have p0:w.cell? ⟨bp,0,none⟩=some (.map (some bb)):=aA hp (i:=0) rfl
 clear hm hi hp
 obtain⟨x,hx⟩:∃ x,g i=x:=⟨_,rfl⟩
 have HX:=aD hx
 clear hx
 have A1:Hid (Below w.heap.size w (w.alloc (.cells #[.int .u64 0,.int .u64 0,.int .u64 0,.int .u64 0,.bool false] 76))):=bz9
 go_enter Tryz.func82,Tryz.ntmps82
 go_wp2_with (at_lookup;refine nJ _ rfl _ _ 133 rfl 76 aS3 (.agg #[.int .u64 0,.int .u64 0,.int .u64 0,.int .u64 0,.bool false]) bb n (fun i=>enS (g i)) rfl (HM.out.kept A1.out) (bI5 _) i rfl HI.out ?_;rw [HX.out];simp only [enS])
 refine bC8 (b:=w.heap.size) (x:=x) (aE w _) rfl rfl ?_
 exact⟨by rw [HX.out],bz9⟩
noncomputable def tvS (ρ:dH (BitVec 256 × Bool)) (c o:Bool) (t:Tr):BitVec 256 × Bool:=if aY c o 0 0 (pp [] t)=0 then (ev ρ (fun _=>(0#256,false)) t).1 else (0#256,false)
theorem bJ3{Glo:World->Prop}(hglo:∀ {A B:World},CK A B->Glo A->Glo B){w:World}(hgw:Glo w){t:Tr}{Good:BitVec 256 × Bool->Prop}{ρ:dH (BitVec 256 × Bool)}{c o:Bool}(hta:TB w t)(hr:RuS Glo (NP c o) Good ρ c o)(hg:∀ t xs g,NP c o t->xs.length=t.ks.length->(∀ x∈xs,Good x)->(∀ i,Good (g i))->Good (ρ t.f t.ks xs g))(h0:Good (0#256,false)) :
  Calls Tryz.prog 44 #[.agg #[.int .i64 t.f.k,.int .i64 t.f.n,.int .i64 t.f.mn,.int .i64 t.f.mx,.slice t.f.rq t.f.rs.length t.f.rc,.slice t.f.kq t.f.kl t.f.kc],.agg #[.bool c,.bool o],.func (.func 45) #[] #[]] w fun e w'=>e=.returned (enS (tvS ρ c o t))/\Below w.heap.size w w':=by
 have HTA:=aD hta
 have HGW:=aD hgw
 have HR:=aD hr
 clear hgw
 have HG:=aD hg
 have H0:=aD h0
 clear hta hr hg h0
 by_cases hz:aY c o 0 0 (pp [] t)=0
 ·have HV:Hid (tvS ρ c o t=(ev ρ (fun _=>(0#256,false)) t).1):=if_pos hz
  have HZ:=aD hz
  clear hz
  have hmm:=@run_makeMap Tryz.prog
  go_enter Tryz.func44,Tryz.ntmps44
  go_upto_region 8 with (go_at_call 53;refine(eE c o (HTA.out.kept ((((bz9).alloc (by simp only [World.size_alloc];omega) _).alloc (by simp only [World.size_alloc];omega) _).alloc (by simp only [World.size_alloc];omega) _))).mono ?_;rintro e w1 ⟨rfl,h1⟩;have B1:=aD h1;clear h1;have rz:=HZ.out)
  have l1:((((w.alloc (.cells #[.int .i64 t.f.k,.int .i64 t.f.n,.int .i64 t.f.mn,.int .i64 t.f.mx,.slice t.f.rq t.f.rs.length t.f.rc,.slice t.f.kq t.f.kl t.f.kc] 25)).alloc (.cells #[.bool c,.bool o] 27)).alloc (.cells #[.func (.func 45) #[] #[]] 78)).alloc (.cells #[.int .u64 0,.int .u64 0,.int .u64 0,.int .u64 0,.bool false] 76)).heap.size<=w1.heap.size:=B1.out.size
  simp only [World.size_alloc] at l1
  have b1:w1.heap[w.heap.size]?=some (.cells #[.int .i64 t.f.k,.int .i64 t.f.n,.int .i64 t.f.mn,.int .i64 t.f.mx,.slice t.f.rq t.f.rs.length t.f.rc,.slice t.f.kq t.f.kl t.f.kc] 25 (0,0)):=(B1.out.block _ (by simp only [World.size_alloc];omega)).trans (by(repeat (first | exact aK _ (by first | rfl | simp only [World.size_alloc]) | rw [Below.heap_alloc _ _ _ (by first | omega |(simp only [World.size_alloc];omega))])))
  have b2:w1.heap[w.heap.size+1]?=some (.cells #[.bool c,.bool o] 27 (0,0)):=(B1.out.block _ (by simp only [World.size_alloc];omega)).trans (by(repeat (first | exact aK _ (by first | rfl | simp only [World.size_alloc]) | rw [Below.heap_alloc _ _ _ (by first | omega |(simp only [World.size_alloc];omega))])))
  have b3:w1.heap[w.heap.size+1+1]?=some (.cells #[.func (.func 45) #[] #[]] 78 (0,0)):=(B1.out.block _ (by simp only [World.size_alloc];omega)).trans (by(repeat (first | exact aK _ (by first | rfl | simp only [World.size_alloc]) | rw [Below.heap_alloc _ _ _ (by first | omega |(simp only [World.size_alloc];omega))])))
  have b4:w1.heap[w.heap.size+1+1+1]?=some (.cells #[.int .u64 0,.int .u64 0,.int .u64 0,.int .u64 0,.bool false] 76 (0,0)):=(B1.out.block _ (by simp only [World.size_alloc];omega)).trans (by(repeat (first | exact aK _ (by first | rfl | simp only [World.size_alloc]) | rw [Below.heap_alloc _ _ _ (by first | omega |(simp only [World.size_alloc];omega))])))
  have TT:Hid (TWS ((((w1.alloc (.map #[] 0)).alloc (.cells #[.map (some w1.heap.size)] 133)).alloc (.cells #[.func (.func 82) #[] #[.pointer (some ⟨w1.heap.size+1,0,none⟩)]] 134)).alloc (.cells #[.func (.func 83) #[] #[.pointer (some ⟨w.heap.size+1,0,none⟩),.pointer (some ⟨w1.heap.size+1+1,0,none⟩),.pointer (some ⟨w1.heap.size+1+1+1,0,none⟩),.pointer (some ⟨w.heap.size+1+1,0,none⟩),.pointer (some ⟨w1.heap.size+1,0,none⟩)]] 135)) (w.heap.size+1) (w1.heap.size+1+1) (w1.heap.size+1+1+1) (w.heap.size+1+1) (w1.heap.size+1) w1.heap.size c o):=⟨by rw [<- b2];(repeat (first | exact aK _ (by first | rfl | simp only [World.size_alloc]) | rw [Below.heap_alloc _ _ _ (by first | omega |(simp only [World.size_alloc];omega))])),by(repeat (first | exact aK _ (by first | rfl | simp only [World.size_alloc]) | rw [Below.heap_alloc _ _ _ (by first | omega |(simp only [World.size_alloc];omega))])),by(repeat (first | exact aK _ (by first | rfl | simp only [World.size_alloc]) | rw [Below.heap_alloc _ _ _ (by first | omega |(simp only [World.size_alloc];omega))])),by rw [<- b3];(repeat (first | exact aK _ (by first | rfl | simp only [World.size_alloc]) | rw [Below.heap_alloc _ _ _ (by first | omega |(simp only [World.size_alloc];omega))])),by(repeat (first | exact aK _ (by first | rfl | simp only [World.size_alloc]) | rw [Below.heap_alloc _ _ _ (by first | omega |(simp only [World.size_alloc];omega))]))⟩
  have BX:Hid (Below w1.heap.size w1 ((((w1.alloc (.map #[] 0)).alloc (.cells #[.map (some w1.heap.size)] 133)).alloc (.cells #[.func (.func 82) #[] #[.pointer (some ⟨w1.heap.size+1,0,none⟩)]] 134)).alloc (.cells #[.func (.func 83) #[] #[.pointer (some ⟨w.heap.size+1,0,none⟩),.pointer (some ⟨w1.heap.size+1+1,0,none⟩),.pointer (some ⟨w1.heap.size+1+1+1,0,none⟩),.pointer (some ⟨w.heap.size+1+1,0,none⟩),.pointer (some ⟨w1.heap.size+1,0,none⟩)]] 135))):=(((bz9).alloc (by simp only [World.size_alloc];omega) _).alloc (by simp only [World.size_alloc];omega) _).alloc (by simp only [World.size_alloc];omega) _
  have MM:Hid (MapV ((((w1.alloc (.map #[] 0)).alloc (.cells #[.map (some w1.heap.size)] 133)).alloc (.cells #[.func (.func 82) #[] #[.pointer (some ⟨w1.heap.size+1,0,none⟩)]] 134)).alloc (.cells #[.func (.func 83) #[] #[.pointer (some ⟨w.heap.size+1,0,none⟩),.pointer (some ⟨w1.heap.size+1+1,0,none⟩),.pointer (some ⟨w1.heap.size+1+1+1,0,none⟩),.pointer (some ⟨w.heap.size+1+1,0,none⟩),.pointer (some ⟨w1.heap.size+1,0,none⟩)]] 135)) (.agg #[.int .u64 0,.int .u64 0,.int .u64 0,.int .u64 0,.bool false]) w1.heap.size 0 (fun _=>enS (0#256,false))):=(((MapV.made w1 (.agg #[.int .u64 0,.int .u64 0,.int .u64 0,.int .u64 0,.bool false])).kept (bz9)).kept (bz9)).kept (bz9)
  have BN:=aD ((BX.out.block _ (aB b1)).trans b1)
  have BR:=aD ((BX.out.block _ (aB b4)).trans b4)
  generalize hWX:((((w1.alloc (.map #[] 0)).alloc (.cells #[.map (some w1.heap.size)] 133)).alloc (.cells #[.func (.func 82) #[] #[.pointer (some ⟨w1.heap.size+1,0,none⟩)]] 134)).alloc (.cells #[.func (.func 83) #[] #[.pointer (some ⟨w.heap.size+1,0,none⟩),.pointer (some ⟨w1.heap.size+1+1,0,none⟩),.pointer (some ⟨w1.heap.size+1+1+1,0,none⟩),.pointer (some ⟨w.heap.size+1+1,0,none⟩),.pointer (some ⟨w1.heap.size+1,0,none⟩)]] 135))=WX at TT BX MM BN BR ⊢
  clear hWX b1 b2 b3 b4
  have B9:Hid (Below w.heap.size w WX):=aJ (aJ ((((bz9).alloc (by simp only [World.size_alloc];omega) _).alloc (by simp only [World.size_alloc];omega) _).alloc (by simp only [World.size_alloc];omega) _) B1.out lz9) BX.out lz9
  have hO:=bP3 hglo HR.out (fun t h k=>h.wf k) HG.out (w.heap.size+1) (w1.heap.size+1+1) (w1.heap.size+1+1+1) (w.heap.size+1+1) (w1.heap.size+1) w1.heap.size t.sz t WX 0 (fun _=>(0#256,false)) lz9 (by have:=iQ HZ.out;omega) (hglo (CK.of_below B9.out) HGW.out) (HTA.out.kept B9.out) (gC HZ.out) (fun _=>H0.out) TT.out MM.out
  obtain⟨x,hx⟩:∃ x,tvS ρ c o t=x:=⟨_,rfl⟩
  have HC:Hid (Calls Tryz.prog 83 #[.agg #[.int .i64 t.f.k,.int .i64 t.f.n,.int .i64 t.f.mn,.int .i64 t.f.mx,.slice t.f.rq t.f.rs.length t.f.rc,.slice t.f.kq t.f.kl t.f.kc],.pointer (some ⟨w.heap.size+1,0,none⟩),.pointer (some ⟨w1.heap.size+1+1,0,none⟩),.pointer (some ⟨w1.heap.size+1+1+1,0,none⟩),.pointer (some ⟨w.heap.size+1+1,0,none⟩),.pointer (some ⟨w1.heap.size+1,0,none⟩)] WX (fun e w'=>e=.returned (.agg #[.int .u64 (aC x.1 0),.int .u64 (aC x.1 1),.int .u64 (aC x.1 2),.int .u64 (aC x.1 3),.bool x.2])/\Fr (fun k=>k=w1.heap.size) WX w')):=aD (hO.mono fun e w' h=>⟨by rw [h.1,<- HV.out,hx];rfl,h.2.2⟩)
  have HX:=aD hx
  clear hO hx
  have o0:WX.cell? ⟨w1.heap.size+1+1+1,0,none⟩=some (.func (.func 83) #[] #[.pointer (some ⟨w.heap.size+1,0,none⟩),.pointer (some ⟨w1.heap.size+1+1,0,none⟩),.pointer (some ⟨w1.heap.size+1+1+1,0,none⟩),.pointer (some ⟨w.heap.size+1+1,0,none⟩),.pointer (some ⟨w1.heap.size+1,0,none⟩)]):=aA TT.out.o (i:=0) rfl
  have n0:WX.cell? ⟨w.heap.size,0,none⟩=some (.int .i64 t.f.k):=aA BN.out (i:=0) rfl
  have n1:WX.cell? ⟨w.heap.size,1,none⟩=some (.int .i64 t.f.n):=aA BN.out (i:=1) rfl
  have n2:WX.cell? ⟨w.heap.size,2,none⟩=some (.int .i64 t.f.mn):=aA BN.out (i:=2) rfl
  have n3:WX.cell? ⟨w.heap.size,3,none⟩=some (.int .i64 t.f.mx):=aA BN.out (i:=3) rfl
  have n4:WX.cell? ⟨w.heap.size,4,none⟩=some (.slice t.f.rq t.f.rs.length t.f.rc):=aA BN.out (i:=4) rfl
  have n5:WX.cell? ⟨w.heap.size,5,none⟩=some (.slice t.f.kq t.f.kl t.f.kc):=aA BN.out (i:=5) rfl
  go_wp2_with (go_at_call 83;refine HC.out.mono ?_;rintro e w5 ⟨rfl,h5⟩;have F5:=aD h5;clear h5;have R5:Hid (w5.heap[w.heap.size+1+1+1]?=some (.cells #[.int .u64 0,.int .u64 0,.int .u64 0,.int .u64 0,.bool false] 76 (0,0))):=(F5.out.block _ (aB BR.out) (fun e=>by omega)).trans BR.out;have z0:=aA R5.out (i:=0) rfl;have z1:=aA R5.out (i:=1) rfl;have z2:=aA R5.out (i:=2) rfl;have z3:=aA R5.out (i:=3) rfl;have z4:=aA R5.out (i:=4) rfl;have fz:=fun z=>aG R5.out z)
  refine aH5 (b:=w.heap.size+1+1+1) (x:=x) (bA R5.out [.int .u64 (aC x.1 0),.int .u64 (aC x.1 1),.int .u64 (aC x.1 2),.int .u64 (aC x.1 3),.bool x.2] rfl) rfl rfl ?_
  exact⟨by rw [HX.out],bC (bC B9.out F5.out lz9 (fun k e=>by rw [e];exact Nat.le_trans (by omega) l1)) (aV (w.heap.size+1+1+1) [.int .u64 (aC x.1 0),.int .u64 (aC x.1 1),.int .u64 (aC x.1 2),.int .u64 (aC x.1 3),.bool x.2] 0 w5) lz9 (fun k e=>by omega)⟩
 ·have HV:Hid (tvS ρ c o t=(0#256,false)):=if_neg hz
  have HZ:=aD hz
  obtain⟨r,hrr⟩:∃ r,aY c o 0 0 (pp [] t)=r:=⟨_,rfl⟩
  have rz:(r==0)=false:=by rw [<- hrr];simpa using hz
  have rz2:(r != 0)=true:=by rw [bne,rz];rfl
  have HQ:=aD hrr
  clear hz hrr
  go_enter Tryz.func44,Tryz.ntmps44
  go_wp2_with (go_at_call 53;refine(eE c o (HTA.out.kept ((((bz9).alloc (by simp only [World.size_alloc];omega) _).alloc (by simp only [World.size_alloc];omega) _).alloc (by simp only [World.size_alloc];omega) _))).mono ?_;rw [HQ.out];rintro e w1 ⟨rfl,h1⟩;have B1:=aD h1;clear h1;have l1:((((w.alloc (.cells #[.int .i64 t.f.k,.int .i64 t.f.n,.int .i64 t.f.mn,.int .i64 t.f.mx,.slice t.f.rq t.f.rs.length t.f.rc,.slice t.f.kq t.f.kl t.f.kc] 25)).alloc (.cells #[.bool c,.bool o] 27)).alloc (.cells #[.func (.func 45) #[] #[]] 78)).alloc (.cells #[.int .u64 0,.int .u64 0,.int .u64 0,.int .u64 0,.bool false] 76)).heap.size<=w1.heap.size:=B1.out.size;simp only [World.size_alloc] at l1;have RA:Hid ((w1.alloc (.cells #[.int .u64 0,.int .u64 0,.int .u64 0,.int .u64 0,.bool false] 76)).heap[w.heap.size+1+1+1]?=some (.cells #[.int .u64 0,.int .u64 0,.int .u64 0,.int .u64 0,.bool false] 76 (0,0))):=(Below.heap_alloc _ _ _ (by omega)).trans ((B1.out.block _ (by simp only [World.size_alloc];omega)).trans (by(repeat (first | exact aK _ (by first | rfl | simp only [World.size_alloc]) | rw [Below.heap_alloc _ _ _ (by first | omega |(simp only [World.size_alloc];omega))]))));have z0:=aA RA.out (i:=0) rfl;have z1:=aA RA.out (i:=1) rfl;have z2:=aA RA.out (i:=2) rfl;have z3:=aA RA.out (i:=3) rfl;have z4:=aA RA.out (i:=4) rfl;have fz:=fun z=>aG RA.out z)
  refine aH5 (b:=w.heap.size+1+1+1) (x:=(0#256,false)) (bA RA.out [.int .u64 0,.int .u64 0,.int .u64 0,.int .u64 0,.bool false] rfl) rfl rfl ?_
  exact⟨by rw [HV.out],bC ((aJ ((((bz9).alloc (by simp only [World.size_alloc];omega) _).alloc (by simp only [World.size_alloc];omega) _).alloc (by simp only [World.size_alloc];omega) _) B1.out lz9).alloc (by have:=(aJ ((((bz9).alloc (by simp only [World.size_alloc];omega) _).alloc (by simp only [World.size_alloc];omega) _).alloc (by simp only [World.size_alloc];omega) _) B1.out lz9).size;omega) _) (aV (w.heap.size+1+1+1) [.int .u64 0,.int .u64 0,.int .u64 0,.int .u64 0,.bool false] 0 _) lz9 (fun k e=>by omega)⟩
end
section
attribute [local go_sem] Oper.semAt_some bB
def TwoS(bR bW:Nat)(W V:World)(x:BitVec 256 × Bool):Prop:=V.heap[bR]?=some (.cells #[.int .u64 0,.int .u64 0,.int .u64 0,.int .u64 0,.bool false] 76 (0,0))/\V.heap[bW]?=some (.cells #[.int .u64 (aC x.1 0),.int .u64 (aC x.1 1),.int .u64 (aC x.1 2),.int .u64 (aC x.1 3),.bool x.2] 76 (0,0))/\Below W.heap.size W V
theorem TwoS.put{bR bW:Nat}{W V:World}{x:BitVec 256 × Bool}(h:TwoS bR bW W V x)(hne:bR≠bW)(hW:W.heap.size<=bW)(y:BitVec 256 × Bool):TwoS bR bW W (bD V bW 0 [.int .u64 (aC y.1 0),.int .u64 (aC y.1 1),.int .u64 (aC y.1 2),.int .u64 (aC y.1 3),.bool y.2]) y:=
 ⟨((aV _ _ 0 V).block _ (aB h.1) hne).trans h.1,bA h.2.1 [.int .u64 (aC y.1 0),.int .u64 (aC y.1 1),.int .u64 (aC y.1 2),.int .u64 (aC y.1 3),.bool y.2] rfl,bC h.2.2 (aV _ _ 0 V) lz9 (fun _ e=>e ▸ hW)⟩
theorem TwoS.kept{bR bW:Nat}{W V V':World}{x:BitVec 256 × Bool}(h:TwoS bR bW W V x)(hb:Below V.heap.size V V'):TwoS bR bW W V' x:=
 ⟨(hb.block _ (aB h.1)).trans h.1,(hb.block _ (aB h.2.1)).trans h.2.1,aJ h.2.2 hb lz9⟩
theorem TwoS.end{bR bW:Nat}{W V:World}{x:BitVec 256 × Bool}(h:TwoS bR bW W V x)(hR:W.heap.size<=bR):(bD V bR 0 [.int .u64 (aC x.1 0),.int .u64 (aC x.1 1),.int .u64 (aC x.1 2),.int .u64 (aC x.1 3),.bool x.2]).heap[bR]?=some (.cells #[.int .u64 (aC x.1 0),.int .u64 (aC x.1 1),.int .u64 (aC x.1 2),.int .u64 (aC x.1 3),.bool x.2] 76 (0,0))/\Below W.heap.size W (bD V bR 0 [.int .u64 (aC x.1 0),.int .u64 (aC x.1 1),.int .u64 (aC x.1 2),.int .u64 (aC x.1 3),.bool x.2]):=
 ⟨bA h.1 [.int .u64 (aC x.1 0),.int .u64 (aC x.1 1),.int .u64 (aC x.1 2),.int .u64 (aC x.1 3),.bool x.2] rfl,bC h.2.2 (aV _ _ 0 V) lz9 (fun _ e=>e ▸ hR)⟩
def lP:BitVec 256->List (BitVec 256 × Bool)->BitVec 256 × Bool
 | a,[]=>(a,true)
 | a,x :: r=>if x.2 then lP (aN a x.1) r else (aN a x.1,false)
theorem bZ(i:Nat):aC (0#256) i=0:=by simp [aC]
theorem aH8{R:Ending->World->Prop}{a:Act}{W:World}{b:Nat}{x:BitVec 256 × Bool}(h:W.heap[b]?=some (.cells #[.int .u64 (aC x.1 0),.int .u64 (aC x.1 1),.int .u64 (aC x.1 2),.int .u64 (aC x.1 3),.bool x.2] 76 (0,0)))(ha:a.tmps[2]?.getD undef=.pointer (some ⟨b,0,none⟩))(hd:a.defers=[])(hR:R (.returned (enS x)) W):bodyPost Tryz.prog Tryz.f85 R .ret a W:=by
 refine bodyPost_ret (v:=enS x) ?_ hd hR
 have z0:=aA h (i:=0) rfl;have z1:=aA h (i:=1) rfl;have z2:=aA h (i:=2) rfl;have z3:=aA h (i:=3) rfl;have z4:=aA h (i:=4) rfl
 simp [results,Tryz.results85,go_sem,ha,enS,z0,z1,z2,z3,z4]
def RowS(W:World)(q:Option Addr)(xs:List (BitVec 256 × Bool)):Prop:=∀ (i:Nat) (x:BitVec 256 × Bool),xs[i]?=some x->∃ gb,q=some ⟨gb,0,none⟩/\gb < W.heap.size/\W.cell? ⟨gb,i * 5,none⟩=some (.int .u64 (aC x.1 0))/\W.cell? ⟨gb,i * 5+1,none⟩=some (.int .u64 (aC x.1 1))/\W.cell? ⟨gb,i * 5+2,none⟩=some (.int .u64 (aC x.1 2))/\W.cell? ⟨gb,i * 5+3,none⟩=some (.int .u64 (aC x.1 3))/\W.cell? ⟨gb,i * 5+4,none⟩=some (.bool x.2)
theorem RowS.of{W:World}{base:Nat}{q:Option Addr}{c:Nat}{xs:List (BitVec 256 × Bool)}(h:W.ownsRow base 76 5 (.slice q xs.length c) xs.length (ceS xs)):RowS W q xs:=fun i x hx=>by
 have hi:=(List.getElem?_eq_some_iff.1 hx).1
 obtain⟨gb,cb,e⟩:=aL h (by omega)
 injection e with e1 e2 e3
 subst e1 e3
 have p:=fun j hj=>kW (fun x:BitVec 256 × Bool=>[Value.int .u64 (aC x.1 0),.int .u64 (aC x.1 1),.int .u64 (aC x.1 2),.int .u64 (aC x.1 3),.bool x.2]) 5 (fun _=>rfl) xs i x hx j hj
 exact⟨gb,rfl,(aH h rfl).2.1,aU h (p 0 (by decide)),aU h (p 1 (by decide)),aU h (p 2 (by decide)),aU h (p 3 (by decide)),aU h (p 4 (by decide))⟩
theorem RowS.kept{W W':World}{q:Option Addr}{xs:List (BitVec 256 × Bool)}(h:RowS W q xs)(hb:Below W.heap.size W W'):RowS W' q xs:=fun i x hx=>by
 obtain⟨gb,h1,h2,a,b,c,d,e⟩:=h i x hx
 exact⟨gb,h1,Nat.lt_of_lt_of_le h2 hb.size,(hb.cell (p:=⟨gb,i * 5,none⟩) h2).trans a,(hb.cell (p:=⟨gb,i * 5+1,none⟩) h2).trans b,(hb.cell (p:=⟨gb,i * 5+2,none⟩) h2).trans c,(hb.cell (p:=⟨gb,i * 5+3,none⟩) h2).trans d,(hb.cell (p:=⟨gb,i * 5+4,none⟩) h2).trans e⟩
theorem wR{w:World}{q:Option Addr}{k:Nat}{xs:List (BitVec 256 × Bool)}(h:RowS w q xs)(hl:xs.length<=1000000) :
  Calls Tryz.prog 85 #[.slice q xs.length k] w fun e w'=>e=.returned (enS (lP 0#256 xs))/\Below w.heap.size w w':=by
 have T0:Hid (TwoS w.heap.size (w.heap.size+1) w ((w.alloc (.cells #[.int .u64 0,.int .u64 0,.int .u64 0,.int .u64 0,.bool false] 76)).alloc (.cells #[.int .u64 0,.int .u64 0,.int .u64 0,.int .u64 0,.bool true] 76)) (0#256,true)):=⟨(Below.heap_alloc _ _ _ (by simp only [World.size_alloc];omega)).trans (aE w _),(aK _ (by simp only [World.size_alloc])).trans (by simp only [bZ]),(bz9).alloc (by simp only [World.size_alloc];omega) _⟩
 have HR:=aD h
 clear h
 go_enter Tryz.func85,Tryz.ntmps85
 go_upto_region 3 with fail
 generalize hW0:(w.alloc (.cells #[.int .u64 0,.int .u64 0,.int .u64 0,.int .u64 0,.bool false] 76)).alloc (.cells #[.int .u64 0,.int .u64 0,.int .u64 0,.int .u64 0,.bool true] 76)=W0 at T0 ⊢
 clear hW0
 go_loopw [9] (fun i wr=>∃ (j:Nat) (a:BitVec 256),j<=xs.length/\i=.int .i64 (j:Int)/\TwoS w.heap.size (w.heap.size+1) w wr (a,true)/\lP 0#256 xs=lP a (xs.drop j)) (fun i _=>xs.length - (intOf i).toNat)
 case atStart=>exact⟨0,0#256,Nat.zero_le _,rfl,T0.out,rfl⟩
 case round=>
  obtain⟨j,ya,hj,rfl,ht,hrw⟩:=hrel
  have TT:=aD ht
  have RW:=aD hrw
  clear ht hrw
  by_cases hjl:j < xs.length
  ·obtain⟨⟨xa,xb⟩,hx⟩:∃ x,xs[j]?=some x:=⟨_,List.getElem?_eq_getElem hjl⟩
   have DN:=aD (show lP 0#256 xs=if xb then lP (aN ya xa) (xs.drop (j+1)) else (aN ya xa,false) by
    rw [RW.out,List.drop_eq_getElem_cons hjl,show xs[j]=(xa,xb) from (List.getElem?_eq_some_iff.1 hx).2];rfl)
   have e1:(j:Int) < (xs.length:Int):=by omega
   obtain⟨gb,rfl,hg,c0,c1,c2,c3,c4⟩:=(HR.out.kept TT.out.2.2) j _ hx
   simp only at c0 c1 c2 c3 c4
   have T1:Hid (TwoS w.heap.size (w.heap.size+1) w (wr.alloc (.cells #[.int .u64 (aC xa 0),.int .u64 (aC xa 1),.int .u64 (aC xa 2),.int .u64 (aC xa 3),.bool xb] 76)) (ya,true)):=TT.out.kept (bz9)
   have k0:(wr.alloc (.cells #[.int .u64 (aC xa 0),.int .u64 (aC xa 1),.int .u64 (aC xa 2),.int .u64 (aC xa 3),.bool xb] 76)).cell? ⟨wr.heap.size,0,none⟩=some (.int .u64 (aC xa 0)):=aA (aE wr _) (i:=0) rfl
   have k1:(wr.alloc (.cells #[.int .u64 (aC xa 0),.int .u64 (aC xa 1),.int .u64 (aC xa 2),.int .u64 (aC xa 3),.bool xb] 76)).cell? ⟨wr.heap.size,1,none⟩=some (.int .u64 (aC xa 1)):=aA (aE wr _) (i:=1) rfl
   have k2:(wr.alloc (.cells #[.int .u64 (aC xa 0),.int .u64 (aC xa 1),.int .u64 (aC xa 2),.int .u64 (aC xa 3),.bool xb] 76)).cell? ⟨wr.heap.size,2,none⟩=some (.int .u64 (aC xa 2)):=aA (aE wr _) (i:=2) rfl
   have k3:(wr.alloc (.cells #[.int .u64 (aC xa 0),.int .u64 (aC xa 1),.int .u64 (aC xa 2),.int .u64 (aC xa 3),.bool xb] 76)).cell? ⟨wr.heap.size,3,none⟩=some (.int .u64 (aC xa 3)):=aA (aE wr _) (i:=3) rfl
   have k4:(wr.alloc (.cells #[.int .u64 (aC xa 0),.int .u64 (aC xa 1),.int .u64 (aC xa 2),.int .u64 (aC xa 3),.bool xb] 76)).cell? ⟨wr.heap.size,4,none⟩=some (.bool xb):=aA (aE wr _) (i:=4) rfl
   have y0:(wr.alloc (.cells #[.int .u64 (aC xa 0),.int .u64 (aC xa 1),.int .u64 (aC xa 2),.int .u64 (aC xa 3),.bool xb] 76)).cell? ⟨w.heap.size+1,0,none⟩=some (.int .u64 (aC ya 0)):=aA T1.out.2.1 (i:=0) rfl
   have y1:(wr.alloc (.cells #[.int .u64 (aC xa 0),.int .u64 (aC xa 1),.int .u64 (aC xa 2),.int .u64 (aC xa 3),.bool xb] 76)).cell? ⟨w.heap.size+1,1,none⟩=some (.int .u64 (aC ya 1)):=aA T1.out.2.1 (i:=1) rfl
   have y2:(wr.alloc (.cells #[.int .u64 (aC xa 0),.int .u64 (aC xa 1),.int .u64 (aC xa 2),.int .u64 (aC xa 3),.bool xb] 76)).cell? ⟨w.heap.size+1,2,none⟩=some (.int .u64 (aC ya 2)):=aA T1.out.2.1 (i:=2) rfl
   have y3:(wr.alloc (.cells #[.int .u64 (aC xa 0),.int .u64 (aC xa 1),.int .u64 (aC xa 2),.int .u64 (aC xa 3),.bool xb] 76)).cell? ⟨w.heap.size+1,3,none⟩=some (.int .u64 (aC ya 3)):=aA T1.out.2.1 (i:=3) rfl
   have y4:(wr.alloc (.cells #[.int .u64 (aC xa 0),.int .u64 (aC xa 1),.int .u64 (aC xa 2),.int .u64 (aC xa 3),.bool xb] 76)).cell? ⟨w.heap.size+1,4,none⟩=some (.bool true):=aA T1.out.2.1 (i:=4) rfl
   have l6:w.heap.size+1 < (wr.alloc (.cells #[.int .u64 (aC xa 0),.int .u64 (aC xa 1),.int .u64 (aC xa 2),.int .u64 (aC xa 3),.bool xb] 76)).heap.size:=aB T1.out.2.1
   have l7:wr.heap.size < (wr.alloc (.cells #[.int .u64 (aC xa 0),.int .u64 (aC xa 1),.int .u64 (aC xa 2),.int .u64 (aC xa 3),.bool xb] 76)).heap.size:=by rw [World.size_alloc];omega
   have KN:=aE wr (.cells #[.int .u64 (aC xa 0),.int .u64 (aC xa 1),.int .u64 (aC xa 2),.int .u64 (aC xa 3),.bool xb] 76)
   have HKN:=aD KN
   clear hx KN
   go_wp2
   generalize hW1:wr.alloc (.cells #[.int .u64 (aC xa 0),.int .u64 (aC xa 1),.int .u64 (aC xa 2),.int .u64 (aC xa 3),.bool xb] 76)=W1 at T1 l6 l7 y0 y1 y2 y3 y4 k0 k1 k2 k3 k4 HKN ⊢
   clear hW1
   refine aW (List.cons_ne_nil _ _) (by kernel_rfl) (by kernel_rfl) (by kernel_rfl) ?_
   dsimp only [List.dropLast,List.getLast]
   repeat (go_big_quiet_step (first | exact rfl |(go_at_call 86;exact bN (mK ya xa _))))
   refine wpQuiet_nil ?_
   intro w3 hw
   have B3:=aD (aQ hw)
   have T3:Hid (TwoS w.heap.size (w.heap.size+1) w w3 (ya,true)):=T1.out.kept B3.out
   have K3:Hid (w3.heap[wr.heap.size]?=some (.cells #[.int .u64 (aC xa 0),.int .u64 (aC xa 1),.int .u64 (aC xa 2),.int .u64 (aC xa 3),.bool xb] 76 (0,0))):=(B3.out.block _ l7).trans HKN.out
   clear hw y0 y1 y2 y3 y4 k0 k1 k2 k3 k4 c0 c1 c2 c3 c4
   have y0:=aA T3.out.2.1 (i:=0) rfl
   have y1:=aA T3.out.2.1 (i:=1) rfl
   have y2:=aA T3.out.2.1 (i:=2) rfl
   have y3:=aA T3.out.2.1 (i:=3) rfl
   have y4:=aA T3.out.2.1 (i:=4) rfl
   have fy:=fun z=>aG T3.out.2.1 z
   have kk:w3.cell? ⟨wr.heap.size,4,none⟩=some (.bool xb):=aA K3.out (i:=4) rfl
   have nn:wr.heap.size≠w.heap.size+1:=by have:=aB TT.out.2.1;omega
   have T6:Hid (TwoS w.heap.size (w.heap.size+1) w (bD w3 (w.heap.size+1) 0 [.int .u64 (aC (aN ya xa) 0),.int .u64 (aC (aN ya xa) 1),.int .u64 (aC (aN ya xa) 2),.int .u64 (aC (aN ya xa) 3),.bool xb]) (aN ya xa,xb)):=T3.out.put (Nat.ne_of_lt (Nat.lt_succ_self _)) (Nat.le_succ _) (aN ya xa,xb)
   cases xb with
   | true=>
    rw [if_pos rfl] at DN
    go_wp2
    go_roundw
    case rel=>exact⟨j+1,aN ya xa,by omega,by go_num,T6.out,DN.out⟩
    case measure=>simp only [intOf];omega
   | false=>
    rw [if_neg (by simp)] at DN
    go_upto_region 8 with fail
    change Code.wp _ _ _ _ (bD w3 (w.heap.size+1) 0 [.int .u64 (aC (aN ya xa) 0),.int .u64 (aC (aN ya xa) 1),.int .u64 (aC (aN ya xa) 2),.int .u64 (aC (aN ya xa) 3),.bool false])
    generalize bD w3 (w.heap.size+1) 0 [.int .u64 (aC (aN ya xa) 0),.int .u64 (aC (aN ya xa) 1),.int .u64 (aC (aN ya xa) 2),.int .u64 (aC (aN ya xa) 3),.bool false]=W9 at T6 ⊢
    generalize aN ya xa=X at T6 DN ⊢
    clear y0 y1 y2 y3 y4 fy kk
    have y0:=aA T6.out.2.1 (i:=0) rfl
    have y1:=aA T6.out.2.1 (i:=1) rfl
    have y2:=aA T6.out.2.1 (i:=2) rfl
    have y3:=aA T6.out.2.1 (i:=3) rfl
    have y4:=aA T6.out.2.1 (i:=4) rfl
    have z0:=aA T6.out.1 (i:=0) rfl
    have z1:=aA T6.out.1 (i:=1) rfl
    have z2:=aA T6.out.1 (i:=2) rfl
    have z3:=aA T6.out.1 (i:=3) rfl
    have z4:=aA T6.out.1 (i:=4) rfl
    have fz:=fun z=>aG T6.out.1 z
    go_wp2
    have T9:=T6.out.end lz9
    simp only [bD] at T9
    refine aH8 (b:=w.heap.size) (x:=(X,false)) T9.1 rfl rfl ?_
    exact⟨by rw [DN.out],T9.2⟩
  ·have e1:¬ (j:Int) < (xs.length:Int):=by omega
   have RW2:=aD (show lP 0#256 xs=(ya,true) by rw [RW.out,List.drop_of_length_le (by omega)];rfl)
   have y0:=aA TT.out.2.1 (i:=0) rfl
   have y1:=aA TT.out.2.1 (i:=1) rfl
   have y2:=aA TT.out.2.1 (i:=2) rfl
   have y3:=aA TT.out.2.1 (i:=3) rfl
   have y4:=aA TT.out.2.1 (i:=4) rfl
   have z0:=aA TT.out.1 (i:=0) rfl
   have z1:=aA TT.out.1 (i:=1) rfl
   have z2:=aA TT.out.1 (i:=2) rfl
   have z3:=aA TT.out.1 (i:=3) rfl
   have z4:=aA TT.out.1 (i:=4) rfl
   have fz:=fun z=>aG TT.out.1 z
   go_wp2
   have T9:=TT.out.end lz9
   simp only [bD] at T9
   refine aH8 (b:=w.heap.size) (x:=(ya,true)) T9.1 rfl rfl ?_
   exact⟨by rw [RW2.out],T9.2⟩
end
section
attribute [local go_sem] Oper.semAt_some bB
def bP0(_:BitVec 256 × Bool):Prop:=True
def jY(xs:List (BitVec 256 × Bool)):BitVec 256:=xs.foldl (fun a x=>aN a x.1) 0#256
noncomputable def bJ (c:Bool):dH (BitVec 256 × Bool):=fun f _ xs g=>
 if f.k=2 then (fB c f.rs,false) else if f.k=5 then lP 0#256 xs else if f.k=6 then (jY xs,xs.any (·.2)) else if f.k=7 then xs.headD (0#256,false)
 else if f.k=8 then g f.n else if f.k=9/\f.mx≠0 then ((xs.headD (0#256,false)).1,f.mn==0 ||(xs.headD (0#256,false)).2) else (0#256,true)
theorem aD9(c:Bool):bA0 (bJ c):=fun f ks xs g g' h=>by
 unfold bJ
 by_cases hk:f.k=8
 ·rw [h hk]
 ·simp [hk]
def GloS(W:World):Prop:=z5_Spans W/\0 < W.heap.size
theorem GloS.ck{A B:World}(h:CK A B)(k:GloS A):GloS B:=⟨fun i v hv=>dP h (p:=⟨0,i,none⟩) k.2 (k.1 i v hv),Nat.lt_of_lt_of_le k.2 h.size⟩
theorem fD{R:Ending->World->Prop}{a:Act}{W:World}{b:Nat}{x:BitVec 256 × Bool}(h:W.heap[b]?=some (.cells #[.int .u64 (aC x.1 0),.int .u64 (aC x.1 1),.int .u64 (aC x.1 2),.int .u64 (aC x.1 3),.bool x.2] 76 (0,0)))(ha:a.tmps[2]?.getD undef=.pointer (some ⟨b,0,none⟩))(hd:a.defers=[])(hR:R (.returned (enS x)) W):bodyPost Tryz.prog Tryz.f45 R .ret a W:=by
 refine bodyPost_ret (v:=enS x) ?_ hd hR
 have z0:=aA h (i:=0) rfl;have z1:=aA h (i:=1) rfl;have z2:=aA h (i:=2) rfl;have z3:=aA h (i:=3) rfl;have z4:=aA h (i:=4) rfl
 simp [results,Tryz.results45,go_sem,ha,enS,z0,z1,z2,z3,z4]
def OneS(W V:World):Prop:=V.heap[W.heap.size+1]?=some (.cells #[.int .u64 0,.int .u64 0,.int .u64 0,.int .u64 0,.bool false] 76 (0,0))/\Below W.heap.size W V
theorem OneS.kept{W V V':World}(h:OneS W V)(hb:Below V.heap.size V V'):OneS W V':=⟨(hb.block _ (aB h.1)).trans h.1,aJ h.2 hb lz9⟩
theorem OneS.end{W V:World}(h:OneS W V)(a:BitVec 256)(b:Bool):(bD V (W.heap.size+1) 0 [.int .u64 (aC a 0),.int .u64 (aC a 1),.int .u64 (aC a 2),.int .u64 (aC a 3),.bool b]).heap[W.heap.size+1]?=some (.cells #[.int .u64 (aC a 0),.int .u64 (aC a 1),.int .u64 (aC a 2),.int .u64 (aC a 3),.bool b] 76 (0,0))/\Below W.heap.size W (bD V (W.heap.size+1) 0 [.int .u64 (aC a 0),.int .u64 (aC a 1),.int .u64 (aC a 2),.int .u64 (aC a 3),.bool b]):=
 ⟨bA h.1 [.int .u64 (aC a 0),.int .u64 (aC a 1),.int .u64 (aC a 2),.int .u64 (aC a 3),.bool b] rfl,bC h.2 (aV _ _ 0 V) lz9 (fun _ e=>e ▸ Nat.le_succ _)⟩
theorem bF1(c o:Bool):RuS GloS (NP c o) bP0 (bJ c) c o:=by
 intro t xs g W v bp bb n base hgl hnp hsz hnb hlen _ _ hown hp hm
 obtain⟨qv,cv,rfl⟩:=aZ hown
 have HLEN:=aD hlen
 have HGL:=aD hgl
 have HNB:=aD hnb
 have HP:=aD hp
 have HM:=aD hm
 have hxl:xs.length<=1000000:=by rw [hlen];exact hsz
 have HRW:=aD (RowS.of hown)
 clear hown hnb hp hm hlen hsz hgl
 unfold dE
 go_enter Tryz.func45,Tryz.ntmps45
 go_upto_region 2 with fail
 have S0:Hid (((W.alloc (.cells #[.int .i64 t.f.k,.int .i64 t.f.n,.int .i64 t.f.mn,.int .i64 t.f.mx,.slice t.f.rq t.f.rs.length t.f.rc,.slice t.f.kq t.f.kl t.f.kc,.bool c,.bool o,.slice qv xs.length cv,.func (.func 82) #[] #[bx bp]] 138)).alloc (.cells #[.int .u64 0,.int .u64 0,.int .u64 0,.int .u64 0,.bool false] 76)).heap[W.heap.size]?=some (.cells #[.int .i64 t.f.k,.int .i64 t.f.n,.int .i64 t.f.mn,.int .i64 t.f.mx,.slice t.f.rq t.f.rs.length t.f.rc,.slice t.f.kq t.f.kl t.f.kc,.bool c,.bool o,.slice qv xs.length cv,.func (.func 82) #[] #[bx bp]] 138 (0,0))):=(Below.heap_alloc _ _ _ (by simp only [World.size_alloc];omega)).trans (aE W _)
 have T0:Hid (OneS W ((W.alloc (.cells #[.int .i64 t.f.k,.int .i64 t.f.n,.int .i64 t.f.mn,.int .i64 t.f.mx,.slice t.f.rq t.f.rs.length t.f.rc,.slice t.f.kq t.f.kl t.f.kc,.bool c,.bool o,.slice qv xs.length cv,.func (.func 82) #[] #[bx bp]] 138)).alloc (.cells #[.int .u64 0,.int .u64 0,.int .u64 0,.int .u64 0,.bool false] 76))):=⟨aK _ (by simp only [World.size_alloc]),(bz9).alloc (by simp only [World.size_alloc];omega) _⟩
 have l0:W.heap.size < ((W.alloc (.cells #[.int .i64 t.f.k,.int .i64 t.f.n,.int .i64 t.f.mn,.int .i64 t.f.mx,.slice t.f.rq t.f.rs.length t.f.rc,.slice t.f.kq t.f.kl t.f.kc,.bool c,.bool o,.slice qv xs.length cv,.func (.func 82) #[] #[bx bp]] 138)).alloc (.cells #[.int .u64 0,.int .u64 0,.int .u64 0,.int .u64 0,.bool false] 76)).heap.size:=by simp only [World.size_alloc];omega
 have l1:W.heap.size+1 < ((W.alloc (.cells #[.int .i64 t.f.k,.int .i64 t.f.n,.int .i64 t.f.mn,.int .i64 t.f.mx,.slice t.f.rq t.f.rs.length t.f.rc,.slice t.f.kq t.f.kl t.f.kc,.bool c,.bool o,.slice qv xs.length cv,.func (.func 82) #[] #[bx bp]] 138)).alloc (.cells #[.int .u64 0,.int .u64 0,.int .u64 0,.int .u64 0,.bool false] 76)).heap.size:=by simp only [World.size_alloc];omega
 generalize hW0:((W.alloc (.cells #[.int .i64 t.f.k,.int .i64 t.f.n,.int .i64 t.f.mn,.int .i64 t.f.mx,.slice t.f.rq t.f.rs.length t.f.rc,.slice t.f.kq t.f.kl t.f.kc,.bool c,.bool o,.slice qv xs.length cv,.func (.func 82) #[] #[bx bp]] 138)).alloc (.cells #[.int .u64 0,.int .u64 0,.int .u64 0,.int .u64 0,.bool false] 76))=W0 at S0 T0 l0 l1 ⊢
 clear hW0
 have RW0:=aD (HRW.out.kept T0.out.2)
 have s0:W0.cell? ⟨W.heap.size,0,none⟩=some (.int .i64 t.f.k):=aA S0.out (i:=0) rfl
 have s1:W0.cell? ⟨W.heap.size,1,none⟩=some (.int .i64 t.f.n):=aA S0.out (i:=1) rfl
 have s2:W0.cell? ⟨W.heap.size,2,none⟩=some (.int .i64 t.f.mn):=aA S0.out (i:=2) rfl
 have s3:W0.cell? ⟨W.heap.size,3,none⟩=some (.int .i64 t.f.mx):=aA S0.out (i:=3) rfl
 have s4:W0.cell? ⟨W.heap.size,4,none⟩=some (.slice t.f.rq t.f.rs.length t.f.rc):=aA S0.out (i:=4) rfl
 have s5:W0.cell? ⟨W.heap.size,5,none⟩=some (.slice t.f.kq t.f.kl t.f.kc):=aA S0.out (i:=5) rfl
 have s6:W0.cell? ⟨W.heap.size,6,none⟩=some (.bool c):=aA S0.out (i:=6) rfl
 have s7:W0.cell? ⟨W.heap.size,7,none⟩=some (.bool o):=aA S0.out (i:=7) rfl
 have s8:W0.cell? ⟨W.heap.size,8,none⟩=some (.slice qv xs.length cv):=aA S0.out (i:=8) rfl
 have s9:W0.cell? ⟨W.heap.size,9,none⟩=some (.func (.func 82) #[] #[bx bp]):=aA S0.out (i:=9) rfl
 rcases hQ hnp with hk | hk | hk | hk | hk | hk | hk | hk | hk
 ·have hv:Hid (bJ c t.f t.ks xs g=(0#256,true)):=(by unfold bJ;rw [hk];rfl)
  have e2:(t.f.k==2)=false:=by rw [hk];rfl
  have e5:(t.f.k==5)=false:=by rw [hk];rfl
  have e6:(t.f.k==6)=false:=by rw [hk];rfl
  have e7:(t.f.k==7)=false:=by rw [hk];rfl
  have e8:(t.f.k==8)=false:=by rw [hk];rfl
  have e9:(t.f.k==9)=false:=by rw [hk];rfl
  clear hk hnp
  have z0:=aA T0.out.1 (i:=0) rfl
  have z1:=aA T0.out.1 (i:=1) rfl
  have z2:=aA T0.out.1 (i:=2) rfl
  have z3:=aA T0.out.1 (i:=3) rfl
  have z4:=aA T0.out.1 (i:=4) rfl
  have fz:=fun z=>aG T0.out.1 z
  go_wp2
  have T9:=T0.out.end 0#256 true
  simp only [bD,bZ] at T9
  refine fD (b:=W.heap.size+1) (x:=(0#256,true)) (by simp only [bZ];exact T9.1) rfl rfl ?_
  exact⟨by rw [hv.out],T9.2⟩
 ·obtain⟨X,hX⟩:∃ X,fB c t.f.rs=X:=⟨_,rfl⟩
  have hv:Hid (bJ c t.f t.ks xs g=(X,false)):=(by unfold bJ;rw [hk,<- hX];rfl)
  have HD:=aD (wS (w:=W0) (q:=t.f.rq) (k:=t.f.rc) (L:=t.f.rs) c o (HNB.out.r.kept T0.out.2) (pT hnp hk) (GloS.ck (CK.of_below T0.out.2) HGL.out).1 (GloS.ck (CK.of_below T0.out.2) HGL.out).2 hX)
  have e2:(t.f.k==2)=true:=by rw [hk];rfl
  have e5:(t.f.k==5)=false:=by rw [hk];rfl
  have e6:(t.f.k==6)=false:=by rw [hk];rfl
  have e7:(t.f.k==7)=false:=by rw [hk];rfl
  have e8:(t.f.k==8)=false:=by rw [hk];rfl
  have e9:(t.f.k==9)=false:=by rw [hk];rfl
  clear hk hnp hX
  go_wp2_with (go_at_call 84;refine HD.out.mono ?_;rintro e w5 ⟨rfl,h5⟩;have T5:Hid (OneS W w5):=T0.out.kept h5;clear h5;have z0:=aA T5.out.1 (i:=0) rfl;have z1:=aA T5.out.1 (i:=1) rfl;have z2:=aA T5.out.1 (i:=2) rfl;have z3:=aA T5.out.1 (i:=3) rfl;have z4:=aA T5.out.1 (i:=4) rfl;have fz:=fun z=>aG T5.out.1 z)
  have T9:=T5.out.end X false
  simp only [bD] at T9
  refine fD (b:=W.heap.size+1) (x:=(X,false)) T9.1 rfl rfl ?_
  exact⟨by rw [hv.out],T9.2⟩
 ·have hv:Hid (bJ c t.f t.ks xs g=(0#256,true)):=(by unfold bJ;rw [hk];rfl)
  have e2:(t.f.k==2)=false:=by rw [hk];rfl
  have e5:(t.f.k==5)=false:=by rw [hk];rfl
  have e6:(t.f.k==6)=false:=by rw [hk];rfl
  have e7:(t.f.k==7)=false:=by rw [hk];rfl
  have e8:(t.f.k==8)=false:=by rw [hk];rfl
  have e9:(t.f.k==9)=false:=by rw [hk];rfl
  clear hk hnp
  have z0:=aA T0.out.1 (i:=0) rfl
  have z1:=aA T0.out.1 (i:=1) rfl
  have z2:=aA T0.out.1 (i:=2) rfl
  have z3:=aA T0.out.1 (i:=3) rfl
  have z4:=aA T0.out.1 (i:=4) rfl
  have fz:=fun z=>aG T0.out.1 z
  go_wp2
  have T9:=T0.out.end 0#256 true
  simp only [bD,bZ] at T9
  refine fD (b:=W.heap.size+1) (x:=(0#256,true)) (by simp only [bZ];exact T9.1) rfl rfl ?_
  exact⟨by rw [hv.out],T9.2⟩
 ·have hv:Hid (bJ c t.f t.ks xs g=(0#256,true)):=(by unfold bJ;rw [hk];rfl)
  have e2:(t.f.k==2)=false:=by rw [hk];rfl
  have e5:(t.f.k==5)=false:=by rw [hk];rfl
  have e6:(t.f.k==6)=false:=by rw [hk];rfl
  have e7:(t.f.k==7)=false:=by rw [hk];rfl
  have e8:(t.f.k==8)=false:=by rw [hk];rfl
  have e9:(t.f.k==9)=false:=by rw [hk];rfl
  clear hk hnp
  have z0:=aA T0.out.1 (i:=0) rfl
  have z1:=aA T0.out.1 (i:=1) rfl
  have z2:=aA T0.out.1 (i:=2) rfl
  have z3:=aA T0.out.1 (i:=3) rfl
  have z4:=aA T0.out.1 (i:=4) rfl
  have fz:=fun z=>aG T0.out.1 z
  go_wp2
  have T9:=T0.out.end 0#256 true
  simp only [bD,bZ] at T9
  refine fD (b:=W.heap.size+1) (x:=(0#256,true)) (by simp only [bZ];exact T9.1) rfl rfl ?_
  exact⟨by rw [hv.out],T9.2⟩
 ·obtain⟨⟨xa,xb⟩,hx⟩:∃ x,lP 0#256 xs=x:=⟨_,rfl⟩
  have hv:Hid (bJ c t.f t.ks xs g=(xa,xb)):=(by unfold bJ;rw [hk,<- hx];rfl)
  have HD:=aD (wR (k:=cv) RW0.out hxl)
  rw [hx] at HD
  simp only [enS] at HD
  have e2:(t.f.k==2)=false:=by rw [hk];rfl
  have e5:(t.f.k==5)=true:=by rw [hk];rfl
  have e6:(t.f.k==6)=false:=by rw [hk];rfl
  have e7:(t.f.k==7)=false:=by rw [hk];rfl
  have e8:(t.f.k==8)=false:=by rw [hk];rfl
  have e9:(t.f.k==9)=false:=by rw [hk];rfl
  clear hk hnp hx
  go_wp2_with (go_at_call 85;refine HD.out.mono ?_;rintro e w5 ⟨rfl,h5⟩;have T5:Hid (OneS W w5):=T0.out.kept h5;clear h5;have z0:=aA T5.out.1 (i:=0) rfl;have z1:=aA T5.out.1 (i:=1) rfl;have z2:=aA T5.out.1 (i:=2) rfl;have z3:=aA T5.out.1 (i:=3) rfl;have z4:=aA T5.out.1 (i:=4) rfl;have fz:=fun z=>aG T5.out.1 z)
  have T9:=T5.out.end xa xb
  simp only [bD] at T9
  refine fD (b:=W.heap.size+1) (x:=(xa,xb)) T9.1 rfl rfl ?_
  exact⟨by rw [hv.out],T9.2⟩
 ·have hv:Hid (bJ c t.f t.ks xs g=(jY xs,xs.any (·.2))):=(by unfold bJ;rw [hk];rfl)
  have e2:(t.f.k==2)=false:=by rw [hk];rfl
  have e5:(t.f.k==5)=false:=by rw [hk];rfl
  have e6:(t.f.k==6)=true:=by rw [hk];rfl
  have e7:(t.f.k==7)=false:=by rw [hk];rfl
  have e8:(t.f.k==8)=false:=by rw [hk];rfl
  have e9:(t.f.k==9)=false:=by rw [hk];rfl
  clear hk hnp
  have TI:Hid (TwoS (W.heap.size+1) W0.heap.size W (W0.alloc (.cells #[.int .u64 0,.int .u64 0,.int .u64 0,.int .u64 0,.bool false] 76)) (jY (xs.take 0),(xs.take 0).any (·.2))):=⟨(Below.heap_alloc _ _ _ l1).trans T0.out.1,(aE W0 _).trans (by simp only [jY,List.take_zero,List.foldl_nil,bZ,List.any_nil]),T0.out.2.alloc T0.out.2.size _⟩
  have q8:(W0.alloc (.cells #[.int .u64 0,.int .u64 0,.int .u64 0,.int .u64 0,.bool false] 76)).cell? ⟨W.heap.size,8,none⟩=some (.slice qv xs.length cv):=aA ((Below.heap_alloc _ _ _ l0).trans S0.out) (i:=8) rfl
  go_upto_region 9 with fail
  generalize hWI:W0.alloc (.cells #[.int .u64 0,.int .u64 0,.int .u64 0,.int .u64 0,.bool false] 76)=WI at TI q8 ⊢
  clear hWI
  go_loopw [28] (fun i wr=>∃ j:Nat,j<=xs.length/\i=.int .i64 (j:Int)/\TwoS (W.heap.size+1) W0.heap.size W wr (jY (xs.take j),(xs.take j).any (·.2))) (fun i _=>xs.length - (intOf i).toNat)
  case atStart=>exact⟨0,Nat.zero_le _,rfl,TI.out⟩
  case round=>
   obtain⟨j,hj,rfl,ht⟩:=hrel
   obtain⟨ya,hya⟩:∃ y,jY (xs.take j)=y:=⟨_,rfl⟩
   obtain⟨yb,hyb⟩:∃ y,(xs.take j).any (·.2)=y:=⟨_,rfl⟩
   rw [hya,hyb] at ht
   have TT:=aD ht
   have HY:=aD (And.intro hya hyb)
   clear ht hya hyb
   by_cases hjl:j < xs.length
   ·obtain⟨⟨xa,xb⟩,hx⟩:∃ x,xs[j]?=some x:=⟨_,List.getElem?_eq_getElem hjl⟩
    have FN:=aD (show jY (xs.take (j+1))=aN ya xa/\(xs.take (j+1)).any (·.2)=(yb || xb) by
     rw [List.take_add_one,hx,Option.toList_some,List.any_append,HY.out.2]
     refine⟨?_,by simp⟩
     have:=HY.out.1
     unfold jY at this ⊢
     rw [List.foldl_append,this]
     rfl)
    have e1:(j:Int) < (xs.length:Int):=by omega
    obtain⟨gb,rfl,hg,c0,c1,c2,c3,c4⟩:=(HRW.out.kept TT.out.2.2) j _ hx
    simp only at c0 c1 c2 c3 c4
    clear hx
    cases yb with
    | true=>
     have T1:Hid (TwoS (W.heap.size+1) (W0.heap.size) W (wr.alloc (.cells #[.int .u64 (aC xa 0),.int .u64 (aC xa 1),.int .u64 (aC xa 2),.int .u64 (aC xa 3),.bool xb] 76)) (ya,true)):=TT.out.kept (bz9)
     have k0:(wr.alloc (.cells #[.int .u64 (aC xa 0),.int .u64 (aC xa 1),.int .u64 (aC xa 2),.int .u64 (aC xa 3),.bool xb] 76)).cell? ⟨wr.heap.size,0,none⟩=some (.int .u64 (aC xa 0)):=aA (aE wr _) (i:=0) rfl
     have k1:(wr.alloc (.cells #[.int .u64 (aC xa 0),.int .u64 (aC xa 1),.int .u64 (aC xa 2),.int .u64 (aC xa 3),.bool xb] 76)).cell? ⟨wr.heap.size,1,none⟩=some (.int .u64 (aC xa 1)):=aA (aE wr _) (i:=1) rfl
     have k2:(wr.alloc (.cells #[.int .u64 (aC xa 0),.int .u64 (aC xa 1),.int .u64 (aC xa 2),.int .u64 (aC xa 3),.bool xb] 76)).cell? ⟨wr.heap.size,2,none⟩=some (.int .u64 (aC xa 2)):=aA (aE wr _) (i:=2) rfl
     have k3:(wr.alloc (.cells #[.int .u64 (aC xa 0),.int .u64 (aC xa 1),.int .u64 (aC xa 2),.int .u64 (aC xa 3),.bool xb] 76)).cell? ⟨wr.heap.size,3,none⟩=some (.int .u64 (aC xa 3)):=aA (aE wr _) (i:=3) rfl
     have k4:(wr.alloc (.cells #[.int .u64 (aC xa 0),.int .u64 (aC xa 1),.int .u64 (aC xa 2),.int .u64 (aC xa 3),.bool xb] 76)).cell? ⟨wr.heap.size,4,none⟩=some (.bool xb):=aA (aE wr _) (i:=4) rfl
     have y0:(wr.alloc (.cells #[.int .u64 (aC xa 0),.int .u64 (aC xa 1),.int .u64 (aC xa 2),.int .u64 (aC xa 3),.bool xb] 76)).cell? ⟨W0.heap.size,0,none⟩=some (.int .u64 (aC ya 0)):=aA T1.out.2.1 (i:=0) rfl
     have y1:(wr.alloc (.cells #[.int .u64 (aC xa 0),.int .u64 (aC xa 1),.int .u64 (aC xa 2),.int .u64 (aC xa 3),.bool xb] 76)).cell? ⟨W0.heap.size,1,none⟩=some (.int .u64 (aC ya 1)):=aA T1.out.2.1 (i:=1) rfl
     have y2:(wr.alloc (.cells #[.int .u64 (aC xa 0),.int .u64 (aC xa 1),.int .u64 (aC xa 2),.int .u64 (aC xa 3),.bool xb] 76)).cell? ⟨W0.heap.size,2,none⟩=some (.int .u64 (aC ya 2)):=aA T1.out.2.1 (i:=2) rfl
     have y3:(wr.alloc (.cells #[.int .u64 (aC xa 0),.int .u64 (aC xa 1),.int .u64 (aC xa 2),.int .u64 (aC xa 3),.bool xb] 76)).cell? ⟨W0.heap.size,3,none⟩=some (.int .u64 (aC ya 3)):=aA T1.out.2.1 (i:=3) rfl
     have y4:(wr.alloc (.cells #[.int .u64 (aC xa 0),.int .u64 (aC xa 1),.int .u64 (aC xa 2),.int .u64 (aC xa 3),.bool xb] 76)).cell? ⟨W0.heap.size,4,none⟩=some (.bool true):=aA T1.out.2.1 (i:=4) rfl
     have l6:W0.heap.size < (wr.alloc (.cells #[.int .u64 (aC xa 0),.int .u64 (aC xa 1),.int .u64 (aC xa 2),.int .u64 (aC xa 3),.bool xb] 76)).heap.size:=aB T1.out.2.1
     have l7:wr.heap.size < (wr.alloc (.cells #[.int .u64 (aC xa 0),.int .u64 (aC xa 1),.int .u64 (aC xa 2),.int .u64 (aC xa 3),.bool xb] 76)).heap.size:=by rw [World.size_alloc];omega
     go_wp2
     generalize hW1:wr.alloc (.cells #[.int .u64 (aC xa 0),.int .u64 (aC xa 1),.int .u64 (aC xa 2),.int .u64 (aC xa 3),.bool xb] 76)=W1 at T1 l6 l7 y0 y1 y2 y3 y4 k0 k1 k2 k3 k4 ⊢
     clear hW1
     refine aW (List.cons_ne_nil _ _) (by kernel_rfl) (by kernel_rfl) (by kernel_rfl) ?_
     dsimp only [List.dropLast,List.getLast]
     repeat (go_big_quiet_step (first | exact rfl |(go_at_call 86;exact bN (mK ya xa _))))
     refine wpQuiet_nil ?_
     intro w3 hw
     have T3:Hid (TwoS (W.heap.size+1) (W0.heap.size) W w3 (ya,true)):=T1.out.kept (aQ hw)
     clear hw y0 y1 y2 y3 y4 k0 k1 k2 k3 k4 c0 c1 c2 c3 c4
     have y0:=aA T3.out.2.1 (i:=0) rfl
     have y1:=aA T3.out.2.1 (i:=1) rfl
     have y2:=aA T3.out.2.1 (i:=2) rfl
     have y3:=aA T3.out.2.1 (i:=3) rfl
     have y4:=aA T3.out.2.1 (i:=4) rfl
     have fy:=fun z=>aG T3.out.2.1 z
     have T6:Hid (TwoS (W.heap.size+1) (W0.heap.size) W (bD w3 (W0.heap.size) 0 [.int .u64 (aC (aN ya xa) 0),.int .u64 (aC (aN ya xa) 1),.int .u64 (aC (aN ya xa) 2),.int .u64 (aC (aN ya xa) 3),.bool true]) (aN ya xa,true)):=T3.out.put (Nat.ne_of_lt l1) (Nat.le_of_lt l0) (aN ya xa,true)
     go_wp2
     go_roundw
     case rel=>exact⟨j+1,by omega,by go_num,by rw [FN.out.1,FN.out.2];exact T6.out⟩
     case measure=>simp only [intOf];omega
    | false=>
     have T1:Hid (TwoS (W.heap.size+1) (W0.heap.size) W (wr.alloc (.cells #[.int .u64 (aC xa 0),.int .u64 (aC xa 1),.int .u64 (aC xa 2),.int .u64 (aC xa 3),.bool xb] 76)) (ya,false)):=TT.out.kept (bz9)
     have k0:(wr.alloc (.cells #[.int .u64 (aC xa 0),.int .u64 (aC xa 1),.int .u64 (aC xa 2),.int .u64 (aC xa 3),.bool xb] 76)).cell? ⟨wr.heap.size,0,none⟩=some (.int .u64 (aC xa 0)):=aA (aE wr _) (i:=0) rfl
     have k1:(wr.alloc (.cells #[.int .u64 (aC xa 0),.int .u64 (aC xa 1),.int .u64 (aC xa 2),.int .u64 (aC xa 3),.bool xb] 76)).cell? ⟨wr.heap.size,1,none⟩=some (.int .u64 (aC xa 1)):=aA (aE wr _) (i:=1) rfl
     have k2:(wr.alloc (.cells #[.int .u64 (aC xa 0),.int .u64 (aC xa 1),.int .u64 (aC xa 2),.int .u64 (aC xa 3),.bool xb] 76)).cell? ⟨wr.heap.size,2,none⟩=some (.int .u64 (aC xa 2)):=aA (aE wr _) (i:=2) rfl
     have k3:(wr.alloc (.cells #[.int .u64 (aC xa 0),.int .u64 (aC xa 1),.int .u64 (aC xa 2),.int .u64 (aC xa 3),.bool xb] 76)).cell? ⟨wr.heap.size,3,none⟩=some (.int .u64 (aC xa 3)):=aA (aE wr _) (i:=3) rfl
     have k4:(wr.alloc (.cells #[.int .u64 (aC xa 0),.int .u64 (aC xa 1),.int .u64 (aC xa 2),.int .u64 (aC xa 3),.bool xb] 76)).cell? ⟨wr.heap.size,4,none⟩=some (.bool xb):=aA (aE wr _) (i:=4) rfl
     have y0:(wr.alloc (.cells #[.int .u64 (aC xa 0),.int .u64 (aC xa 1),.int .u64 (aC xa 2),.int .u64 (aC xa 3),.bool xb] 76)).cell? ⟨W0.heap.size,0,none⟩=some (.int .u64 (aC ya 0)):=aA T1.out.2.1 (i:=0) rfl
     have y1:(wr.alloc (.cells #[.int .u64 (aC xa 0),.int .u64 (aC xa 1),.int .u64 (aC xa 2),.int .u64 (aC xa 3),.bool xb] 76)).cell? ⟨W0.heap.size,1,none⟩=some (.int .u64 (aC ya 1)):=aA T1.out.2.1 (i:=1) rfl
     have y2:(wr.alloc (.cells #[.int .u64 (aC xa 0),.int .u64 (aC xa 1),.int .u64 (aC xa 2),.int .u64 (aC xa 3),.bool xb] 76)).cell? ⟨W0.heap.size,2,none⟩=some (.int .u64 (aC ya 2)):=aA T1.out.2.1 (i:=2) rfl
     have y3:(wr.alloc (.cells #[.int .u64 (aC xa 0),.int .u64 (aC xa 1),.int .u64 (aC xa 2),.int .u64 (aC xa 3),.bool xb] 76)).cell? ⟨W0.heap.size,3,none⟩=some (.int .u64 (aC ya 3)):=aA T1.out.2.1 (i:=3) rfl
     have y4:(wr.alloc (.cells #[.int .u64 (aC xa 0),.int .u64 (aC xa 1),.int .u64 (aC xa 2),.int .u64 (aC xa 3),.bool xb] 76)).cell? ⟨W0.heap.size,4,none⟩=some (.bool false):=aA T1.out.2.1 (i:=4) rfl
     have l6:W0.heap.size < (wr.alloc (.cells #[.int .u64 (aC xa 0),.int .u64 (aC xa 1),.int .u64 (aC xa 2),.int .u64 (aC xa 3),.bool xb] 76)).heap.size:=aB T1.out.2.1
     have l7:wr.heap.size < (wr.alloc (.cells #[.int .u64 (aC xa 0),.int .u64 (aC xa 1),.int .u64 (aC xa 2),.int .u64 (aC xa 3),.bool xb] 76)).heap.size:=by rw [World.size_alloc];omega
     go_wp2
     generalize hW1:wr.alloc (.cells #[.int .u64 (aC xa 0),.int .u64 (aC xa 1),.int .u64 (aC xa 2),.int .u64 (aC xa 3),.bool xb] 76)=W1 at T1 l6 l7 y0 y1 y2 y3 y4 k0 k1 k2 k3 k4 ⊢
     clear hW1
     refine aW (List.cons_ne_nil _ _) (by kernel_rfl) (by kernel_rfl) (by kernel_rfl) ?_
     dsimp only [List.dropLast,List.getLast]
     repeat (go_big_quiet_step (first | exact rfl |(go_at_call 86;exact bN (mK ya xa _))))
     refine wpQuiet_nil ?_
     intro w3 hw
     have T3:Hid (TwoS (W.heap.size+1) (W0.heap.size) W w3 (ya,false)):=T1.out.kept (aQ hw)
     clear hw y0 y1 y2 y3 y4 k0 k1 k2 k3 k4 c0 c1 c2 c3 c4
     have y0:=aA T3.out.2.1 (i:=0) rfl
     have y1:=aA T3.out.2.1 (i:=1) rfl
     have y2:=aA T3.out.2.1 (i:=2) rfl
     have y3:=aA T3.out.2.1 (i:=3) rfl
     have y4:=aA T3.out.2.1 (i:=4) rfl
     have fy:=fun z=>aG T3.out.2.1 z
     have T6:Hid (TwoS (W.heap.size+1) (W0.heap.size) W (bD w3 (W0.heap.size) 0 [.int .u64 (aC (aN ya xa) 0),.int .u64 (aC (aN ya xa) 1),.int .u64 (aC (aN ya xa) 2),.int .u64 (aC (aN ya xa) 3),.bool xb]) (aN ya xa,xb)):=T3.out.put (Nat.ne_of_lt l1) (Nat.le_of_lt l0) (aN ya xa,xb)
     go_wp2
     go_roundw
     case rel=>exact⟨j+1,by omega,by go_num,by rw [FN.out.1,FN.out.2];exact T6.out⟩
     case measure=>simp only [intOf];omega
   ·have e1:¬ (j:Int) < (xs.length:Int):=by omega
    rw [List.take_of_length_le (by omega)] at HY
    rw [HY.out.1,HY.out.2] at hv
    have y0:=aA TT.out.2.1 (i:=0) rfl
    have y1:=aA TT.out.2.1 (i:=1) rfl
    have y2:=aA TT.out.2.1 (i:=2) rfl
    have y3:=aA TT.out.2.1 (i:=3) rfl
    have y4:=aA TT.out.2.1 (i:=4) rfl
    have z0:=aA TT.out.1 (i:=0) rfl
    have z1:=aA TT.out.1 (i:=1) rfl
    have z2:=aA TT.out.1 (i:=2) rfl
    have z3:=aA TT.out.1 (i:=3) rfl
    have z4:=aA TT.out.1 (i:=4) rfl
    have fz:=fun z=>aG TT.out.1 z
    go_wp2
    have T9:=TT.out.end (Nat.le_succ _)
    simp only [bD] at T9
    refine fD (b:=W.heap.size+1) (x:=(ya,yb)) T9.1 rfl rfl ?_
    exact⟨by rw [hv.out],T9.2⟩
 ·obtain⟨x,rfl⟩:∃ x,xs=[x]:=by
   have:=fG hnp (.inl hk)
   match xs,HLEN.out with
   | [x],_=>exact⟨x,rfl⟩
   | [],e=>rw [this] at e;simp at e
   | _ :: _ :: _,e=>rw [this] at e;simp at e
  obtain⟨xa,xb⟩:=x
  obtain⟨gb,rfl,hg,c0,c1,c2,c3,c4⟩:=RW0.out 0 _ rfl
  simp only [Nat.zero_mul,Nat.zero_add] at c0 c1 c2 c3 c4
  have ng1:gb≠W.heap.size+1:=by
   obtain⟨gb',e,h,-⟩:=HRW.out 0 _ rfl
   injection e with e
   injection e with e
   omega
  simp only [List.length_cons,List.length_nil,Nat.zero_add] at s8 ⊢
  have hv:Hid (bJ c t.f t.ks [(xa,xb)] g=(xa,xb)):=(by unfold bJ;rw [hk];rfl)
  have e2:(t.f.k==2)=false:=by rw [hk];rfl
  have e5:(t.f.k==5)=false:=by rw [hk];rfl
  have e6:(t.f.k==6)=false:=by rw [hk];rfl
  have e7:(t.f.k==7)=true:=by rw [hk];rfl
  have e8:(t.f.k==8)=false:=by rw [hk];rfl
  have e9:(t.f.k==9)=false:=by rw [hk];rfl
  clear hk hnp
  have z0:=aA T0.out.1 (i:=0) rfl
  have z1:=aA T0.out.1 (i:=1) rfl
  have z2:=aA T0.out.1 (i:=2) rfl
  have z3:=aA T0.out.1 (i:=3) rfl
  have z4:=aA T0.out.1 (i:=4) rfl
  have fz:=fun z=>aG T0.out.1 z
  go_wp2
  have T9:=T0.out.end xa xb
  simp only [bD] at T9
  refine fD (b:=W.heap.size+1) (x:=(xa,xb)) T9.1 rfl rfl ?_
  exact⟨by rw [hv.out],T9.2⟩
 ·obtain⟨⟨xa,xb⟩,hx⟩:∃ x,g t.f.n=x:=⟨_,rfl⟩
  have hv:Hid (bJ c t.f t.ks xs g=(xa,xb)):=(by unfold bJ;rw [hk,<- hx];rfl)
  have hb:=wM hnp hk
  have hwf:(Lit.int .i64 t.f.n).wf=true:=by simp [Lit.wf,IntKind.min,IntKind.max,IntKind.signed,IntKind.bits];omega
  have HD:=aD (bO3 (g:=g) ((T0.out.2.block _ (aB HP.out)).trans HP.out) (HM.out.kept T0.out.2) t.f.n hwf)
  rw [hx] at HD
  simp only [enS] at HD
  have e2:(t.f.k==2)=false:=by rw [hk];rfl
  have e5:(t.f.k==5)=false:=by rw [hk];rfl
  have e6:(t.f.k==6)=false:=by rw [hk];rfl
  have e7:(t.f.k==7)=false:=by rw [hk];rfl
  have e8:(t.f.k==8)=true:=by rw [hk];rfl
  have e9:(t.f.k==9)=false:=by rw [hk];rfl
  clear hk hnp hx hb hwf
  go_wp2_with (go_at_call 82;refine HD.out.mono ?_;rintro e w5 ⟨rfl,h5⟩;have T5:Hid (OneS W w5):=T0.out.kept h5;clear h5;have z0:=aA T5.out.1 (i:=0) rfl;have z1:=aA T5.out.1 (i:=1) rfl;have z2:=aA T5.out.1 (i:=2) rfl;have z3:=aA T5.out.1 (i:=3) rfl;have z4:=aA T5.out.1 (i:=4) rfl;have fz:=fun z=>aG T5.out.1 z)
  have T9:=T5.out.end xa xb
  simp only [bD] at T9
  refine fD (b:=W.heap.size+1) (x:=(xa,xb)) T9.1 rfl rfl ?_
  exact⟨by rw [hv.out],T9.2⟩
 ·obtain⟨x,rfl⟩:∃ x,xs=[x]:=by
   have:=fG hnp (.inr hk)
   match xs,HLEN.out with
   | [x],_=>exact⟨x,rfl⟩
   | [],e=>rw [this] at e;simp at e
   | _ :: _ :: _,e=>rw [this] at e;simp at e
  obtain⟨xa,xb⟩:=x
  obtain⟨gb,rfl,hg,c0,c1,c2,c3,c4⟩:=RW0.out 0 _ rfl
  simp only [Nat.zero_mul,Nat.zero_add] at c0 c1 c2 c3 c4
  have ng1:gb≠W.heap.size+1:=by
   obtain⟨gb',e,h,-⟩:=HRW.out 0 _ rfl
   injection e with e
   injection e with e
   omega
  simp only [List.length_cons,List.length_nil,Nat.zero_add] at s8 ⊢
  have hbd:=lT hnp hk
  have hgl0:gb < W0.heap.size:=hg
  have e2:(t.f.k==2)=false:=by rw [hk];rfl
  have e5:(t.f.k==5)=false:=by rw [hk];rfl
  have e6:(t.f.k==6)=false:=by rw [hk];rfl
  have e7:(t.f.k==7)=false:=by rw [hk];rfl
  have e8:(t.f.k==8)=false:=by rw [hk];rfl
  have e9:(t.f.k==9)=true:=by rw [hk];rfl
  by_cases hx0:t.f.mx=0
  ·have hv:=aD (show bJ c t.f t.ks [(xa,xb)] g=(0#256,true) by unfold bJ;rw [hk];simp [hx0])
   have m1:¬ (0:Int) < t.f.mx:=by omega
   have m2:(t.f.mx==-1)=false:=by rw [hx0];rfl
   clear hk hnp hbd hx0
   have z0:=aA T0.out.1 (i:=0) rfl
   have z1:=aA T0.out.1 (i:=1) rfl
   have z2:=aA T0.out.1 (i:=2) rfl
   have z3:=aA T0.out.1 (i:=3) rfl
   have z4:=aA T0.out.1 (i:=4) rfl
   have fz:=fun z=>aG T0.out.1 z
   go_wp2
   have T9:=T0.out.end 0#256 true
   simp only [bD,bZ] at T9
   refine fD (b:=W.heap.size+1) (x:=(0#256,true)) (by simp only [bZ];exact T9.1) rfl rfl ?_
   exact⟨by rw [hv.out],T9.2⟩
  ·have hb2:0 < t.f.mx\/t.f.mx=-1:=by simp [fU] at hbd;omega
   cases m0:(t.f.mn==0) with
   | true=>
    have hv:=aD (show bJ c t.f t.ks [(xa,xb)] g=(xa,true) by unfold bJ;rw [hk];simp [hx0,m0])
    clear hk hnp hbd hx0
    rcases hb2 with m1 | m1
    ·have T3f:True:=trivial
     go_upto_region 20 with fail
     refine aW (List.cons_ne_nil _ _) (by kernel_rfl) (by kernel_rfl) (by kernel_rfl) ?_
     dsimp only [List.dropLast,List.getLast]
     repeat (go_big_quiet_step (first | exact rfl))
     refine wpQuiet_nil ?_
     intro w3 hw
     have T3:Hid (OneS W w3):=T0.out.kept (aQ hw)
     clear hw s0 s1 s2 s3 s4 s5 s6 s7 s8 s9 c0 c1 c2 c3 c4 T3f
     have z0:=aA T3.out.1 (i:=0) rfl
     have z1:=aA T3.out.1 (i:=1) rfl
     have z2:=aA T3.out.1 (i:=2) rfl
     have z3:=aA T3.out.1 (i:=3) rfl
     have z4:=aA T3.out.1 (i:=4) rfl
     have fz:=fun z=>aG T3.out.1 z
     go_wp2
     have T9:=T3.out.end xa true
     simp only [bD] at T9
     refine fD (b:=W.heap.size+1) (x:=(xa,true)) T9.1 rfl rfl ?_
     exact⟨by rw [hv.out],T9.2⟩
    ·have m3:¬ (0:Int) < t.f.mx:=by omega
     have m2:(t.f.mx==-1)=true:=by rw [m1];rfl
     clear m1
     have T3f:True:=trivial
     go_upto_region 20 with fail
     refine aW (List.cons_ne_nil _ _) (by kernel_rfl) (by kernel_rfl) (by kernel_rfl) ?_
     dsimp only [List.dropLast,List.getLast]
     repeat (go_big_quiet_step (first | exact rfl))
     refine wpQuiet_nil ?_
     intro w3 hw
     have T3:Hid (OneS W w3):=T0.out.kept (aQ hw)
     clear hw s0 s1 s2 s3 s4 s5 s6 s7 s8 s9 c0 c1 c2 c3 c4 T3f
     have z0:=aA T3.out.1 (i:=0) rfl
     have z1:=aA T3.out.1 (i:=1) rfl
     have z2:=aA T3.out.1 (i:=2) rfl
     have z3:=aA T3.out.1 (i:=3) rfl
     have z4:=aA T3.out.1 (i:=4) rfl
     have fz:=fun z=>aG T3.out.1 z
     go_wp2
     have T9:=T3.out.end xa true
     simp only [bD] at T9
     refine fD (b:=W.heap.size+1) (x:=(xa,true)) T9.1 rfl rfl ?_
     exact⟨by rw [hv.out],T9.2⟩
   | false=>
    have hv:=aD (show bJ c t.f t.ks [(xa,xb)] g=(xa,xb) by unfold bJ;rw [hk];simp [hx0,m0])
    clear hk hnp hbd hx0
    rcases hb2 with m1 | m1
    ·have T3f:True:=trivial
     go_upto_region 20 with fail
     refine aW (List.cons_ne_nil _ _) (by kernel_rfl) (by kernel_rfl) (by kernel_rfl) ?_
     dsimp only [List.dropLast,List.getLast]
     repeat (go_big_quiet_step (first | exact rfl))
     refine wpQuiet_nil ?_
     intro w3 hw
     have T3:Hid (OneS W w3):=T0.out.kept (aQ hw)
     clear hw s0 s1 s2 s3 s4 s5 s6 s7 s8 s9 c0 c1 c2 c3 c4 T3f
     have z0:=aA T3.out.1 (i:=0) rfl
     have z1:=aA T3.out.1 (i:=1) rfl
     have z2:=aA T3.out.1 (i:=2) rfl
     have z3:=aA T3.out.1 (i:=3) rfl
     have z4:=aA T3.out.1 (i:=4) rfl
     have fz:=fun z=>aG T3.out.1 z
     go_wp2
     have T9:=T3.out.end xa xb
     simp only [bD] at T9
     refine fD (b:=W.heap.size+1) (x:=(xa,xb)) T9.1 rfl rfl ?_
     exact⟨by rw [hv.out],T9.2⟩
    ·have m3:¬ (0:Int) < t.f.mx:=by omega
     have m2:(t.f.mx==-1)=true:=by rw [m1];rfl
     clear m1
     have T3f:True:=trivial
     go_upto_region 20 with fail
     refine aW (List.cons_ne_nil _ _) (by kernel_rfl) (by kernel_rfl) (by kernel_rfl) ?_
     dsimp only [List.dropLast,List.getLast]
     repeat (go_big_quiet_step (first | exact rfl))
     refine wpQuiet_nil ?_
     intro w3 hw
     have T3:Hid (OneS W w3):=T0.out.kept (aQ hw)
     clear hw s0 s1 s2 s3 s4 s5 s6 s7 s8 s9 c0 c1 c2 c3 c4 T3f
     have z0:=aA T3.out.1 (i:=0) rfl
     have z1:=aA T3.out.1 (i:=1) rfl
     have z2:=aA T3.out.1 (i:=2) rfl
     have z3:=aA T3.out.1 (i:=3) rfl
     have z4:=aA T3.out.1 (i:=4) rfl
     have fz:=fun z=>aG T3.out.1 z
     go_wp2
     have T9:=T3.out.end xa xb
     simp only [bD] at T9
     refine fD (b:=W.heap.size+1) (x:=(xa,xb)) T9.1 rfl rfl ?_
     exact⟨by rw [hv.out],T9.2⟩
end
end Go.Proofs.YtjafnbjipgediaaGreatDoor
