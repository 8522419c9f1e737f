/-
  Parts of the proof.
-/
import Derived.Test.YtjafnbjipgediaaGreatDoorTextsProofB18
import Derived.Test.YtjafnbjipgediaaGreatDoorTextsProofB17
import Derived.Test.YtjafnbjipgediaaGreatDoorTextsProofB5
import Derived.Test.YtjafnbjipgediaaGreatDoorTextsProofB3
set_option maxRecDepth 100000
set_option maxHeartbeats 8000000
namespace Go.Proofs.YtjafnbjipgediaaGreatDoor
open Go Go.RowKit
section
attribute [local go_sem] Oper.semAt_some
theorem bC7{R:Ending->World->Prop}{a:Act}{W:World}{b:Nat}{x:Int × Int}(h:W.heap[b]?=some (.cells #[.int .i64 x.1,.int .i64 x.2] 68 (0,0)))(ha:a.tmps[3]?.getD undef=.pointer (some ⟨b,0,none⟩))(hd:a.defers=[])(hR:R (.returned (enW x)) W):bodyPost Tryz.prog Tryz.f73 R .ret a W:=by
 refine bodyPost_ret (v:=enW x) ?_ hd hR
 have z0:=aA h (i:=0) rfl;have z1:=aA h (i:=1) rfl
 simp [results,Tryz.results73,go_sem,ha,enW,z0,z1]
theorem aH4{R:Ending->World->Prop}{a:Act}{W:World}{b:Nat}{x:Int × Int}(h:W.heap[b]?=some (.cells #[.int .i64 x.1,.int .i64 x.2] 68 (0,0)))(ha:a.tmps[6]?.getD undef=.pointer (some ⟨b,0,none⟩))(hd:a.defers=[])(hR:R (.returned (enW x)) W):bodyPost Tryz.prog Tryz.f40 R .ret a W:=by
 refine bodyPost_ret (v:=enW x) ?_ hd hR
 have z0:=aA h (i:=0) rfl;have z1:=aA h (i:=1) rfl
 simp [results,Tryz.results40,go_sem,ha,enW,z0,z1]
theorem bI4(w:World):(zeroValue 68).run Tryz.prog w=.ok (.agg #[.int .i64 0,.int .i64 0]) w:=by kernel_rfl
theorem bO2{w:World}{bp bb n:Nat}{g:Int->Int × Int}(hp:w.heap[bp]?=some (.cells #[.map (some bb)] 118 (0,0)))(hm:MapV w (.agg #[.int .i64 0,.int .i64 0]) bb n (fun i=>enW (g i)))(i:Int)(hi:(Lit.int .i64 i).wf=true) :
  Calls Tryz.prog 73 #[.int .i64 i,bx bp] w fun e w'=>e=.returned (enW (g i))/\Below w.heap.size w w':=by
 have HM:=aD hm
 have HI:=aD hi
 have HP:=aD hp
 have lp:=aB hp
 have p0:w.cell? ⟨bp,0,none⟩=some (.map (some bb)):=aA hp (i:=0) rfl
 clear hm hi hp
 obtain⟨x,hx⟩:∃ x,g i=x:=⟨_,rfl⟩
 have HX:=aD hx
 clear hx
 have A1:Hid (Below w.heap.size w (w.alloc (.cells #[.int .i64 0,.int .i64 0] 68))):=bz9
 go_enter Tryz.func73,Tryz.ntmps73
 go_wp2_with (at_lookup;refine nJ _ rfl _ _ 118 rfl 68 aS2 (.agg #[.int .i64 0,.int .i64 0]) bb n (fun i=>enW (g i)) rfl (HM.out.kept A1.out) (bI4 _) i rfl HI.out ?_;rw [HX.out];simp only [enW])
 refine bC7 (b:=w.heap.size) (x:=x) (aE w _) rfl rfl ?_
 exact⟨by rw [HX.out],bz9⟩
noncomputable def tvW (ρ:dH (Int × Int)) (c o:Bool) (t:Tr):Int × Int:=if aY c o 0 0 (pp [] t)=0 then (ev ρ (fun _=>(0,0)) t).1 else (0,0)
theorem bJ2{Glo:World->Prop}(hglo:∀ {A B:World},CK A B->Glo A->Glo B){w:World}(hgw:Glo w){t:Tr}{Good:Int × Int->Prop}{ρ:dH (Int × Int)}{c o:Bool}(hta:TB w t)(hr:RuW Glo (NP c o) Good ρ c o)(hg:∀ t xs g,NP c o t->xs.length=t.ks.length->(∀ x∈xs,Good x)->(∀ i,Good (g i))->Good (ρ t.f t.ks xs g))(h0:Good (0,0)) :
  Calls Tryz.prog 40 #[.agg #[.int .i64 t.f.k,.int .i64 t.f.n,.int .i64 t.f.mn,.int .i64 t.f.mx,.slice t.f.rq t.f.rs.length t.f.rc,.slice t.f.kq t.f.kl t.f.kc],.agg #[.bool c,.bool o],.func (.func 41) #[] #[]] w fun e w'=>e=.returned (enW (tvW ρ c o t))/\Below w.heap.size w w':=by
 have HTA:=aD hta
 have HGW:=aD hgw
 have HR:=aD hr
 clear hgw
 have HG:=aD hg
 have H0:=aD h0
 clear hta hr hg h0
 by_cases hz:aY c o 0 0 (pp [] t)=0
 ·have HV:Hid (tvW ρ c o t=(ev ρ (fun _=>(0,0)) t).1):=if_pos hz
  have HZ:=aD hz
  clear hz
  have hmm:=@run_makeMap Tryz.prog
  go_enter Tryz.func40,Tryz.ntmps40
  go_upto_region 8 with (go_at_call 53;refine(eE c o (HTA.out.kept ((((bz9).alloc (by simp only [World.size_alloc];omega) _).alloc (by simp only [World.size_alloc];omega) _).alloc (by simp only [World.size_alloc];omega) _))).mono ?_;rintro e w1 ⟨rfl,h1⟩;have B1:=aD h1;clear h1;have rz:=HZ.out)
  have l1:((((w.alloc (.cells #[.int .i64 t.f.k,.int .i64 t.f.n,.int .i64 t.f.mn,.int .i64 t.f.mx,.slice t.f.rq t.f.rs.length t.f.rc,.slice t.f.kq t.f.kl t.f.kc] 25)).alloc (.cells #[.bool c,.bool o] 27)).alloc (.cells #[.func (.func 41) #[] #[]] 70)).alloc (.cells #[.int .i64 0,.int .i64 0] 68)).heap.size<=w1.heap.size:=B1.out.size
  simp only [World.size_alloc] at l1
  have b1:w1.heap[w.heap.size]?=some (.cells #[.int .i64 t.f.k,.int .i64 t.f.n,.int .i64 t.f.mn,.int .i64 t.f.mx,.slice t.f.rq t.f.rs.length t.f.rc,.slice t.f.kq t.f.kl t.f.kc] 25 (0,0)):=(B1.out.block _ (by simp only [World.size_alloc];omega)).trans (by(repeat (first | exact aK _ (by first | rfl | simp only [World.size_alloc]) | rw [Below.heap_alloc _ _ _ (by first | omega |(simp only [World.size_alloc];omega))])))
  have b2:w1.heap[w.heap.size+1]?=some (.cells #[.bool c,.bool o] 27 (0,0)):=(B1.out.block _ (by simp only [World.size_alloc];omega)).trans (by(repeat (first | exact aK _ (by first | rfl | simp only [World.size_alloc]) | rw [Below.heap_alloc _ _ _ (by first | omega |(simp only [World.size_alloc];omega))])))
  have b3:w1.heap[w.heap.size+1+1]?=some (.cells #[.func (.func 41) #[] #[]] 70 (0,0)):=(B1.out.block _ (by simp only [World.size_alloc];omega)).trans (by(repeat (first | exact aK _ (by first | rfl | simp only [World.size_alloc]) | rw [Below.heap_alloc _ _ _ (by first | omega |(simp only [World.size_alloc];omega))])))
  have b4:w1.heap[w.heap.size+1+1+1]?=some (.cells #[.int .i64 0,.int .i64 0] 68 (0,0)):=(B1.out.block _ (by simp only [World.size_alloc];omega)).trans (by(repeat (first | exact aK _ (by first | rfl | simp only [World.size_alloc]) | rw [Below.heap_alloc _ _ _ (by first | omega |(simp only [World.size_alloc];omega))])))
  have TT:Hid (TWW ((((w1.alloc (.map #[] 0)).alloc (.cells #[.map (some w1.heap.size)] 118)).alloc (.cells #[.func (.func 73) #[] #[.pointer (some ⟨w1.heap.size+1,0,none⟩)]] 119)).alloc (.cells #[.func (.func 74) #[] #[.pointer (some ⟨w.heap.size+1,0,none⟩),.pointer (some ⟨w1.heap.size+1+1,0,none⟩),.pointer (some ⟨w1.heap.size+1+1+1,0,none⟩),.pointer (some ⟨w.heap.size+1+1,0,none⟩),.pointer (some ⟨w1.heap.size+1,0,none⟩)]] 120)) (w.heap.size+1) (w1.heap.size+1+1) (w1.heap.size+1+1+1) (w.heap.size+1+1) (w1.heap.size+1) w1.heap.size c o):=⟨by rw [<- b2];(repeat (first | exact aK _ (by first | rfl | simp only [World.size_alloc]) | rw [Below.heap_alloc _ _ _ (by first | omega |(simp only [World.size_alloc];omega))])),by(repeat (first | exact aK _ (by first | rfl | simp only [World.size_alloc]) | rw [Below.heap_alloc _ _ _ (by first | omega |(simp only [World.size_alloc];omega))])),by(repeat (first | exact aK _ (by first | rfl | simp only [World.size_alloc]) | rw [Below.heap_alloc _ _ _ (by first | omega |(simp only [World.size_alloc];omega))])),by rw [<- b3];(repeat (first | exact aK _ (by first | rfl | simp only [World.size_alloc]) | rw [Below.heap_alloc _ _ _ (by first | omega |(simp only [World.size_alloc];omega))])),by(repeat (first | exact aK _ (by first | rfl | simp only [World.size_alloc]) | rw [Below.heap_alloc _ _ _ (by first | omega |(simp only [World.size_alloc];omega))]))⟩
  have BX:Hid (Below w1.heap.size w1 ((((w1.alloc (.map #[] 0)).alloc (.cells #[.map (some w1.heap.size)] 118)).alloc (.cells #[.func (.func 73) #[] #[.pointer (some ⟨w1.heap.size+1,0,none⟩)]] 119)).alloc (.cells #[.func (.func 74) #[] #[.pointer (some ⟨w.heap.size+1,0,none⟩),.pointer (some ⟨w1.heap.size+1+1,0,none⟩),.pointer (some ⟨w1.heap.size+1+1+1,0,none⟩),.pointer (some ⟨w.heap.size+1+1,0,none⟩),.pointer (some ⟨w1.heap.size+1,0,none⟩)]] 120))):=(((bz9).alloc (by simp only [World.size_alloc];omega) _).alloc (by simp only [World.size_alloc];omega) _).alloc (by simp only [World.size_alloc];omega) _
  have MM:Hid (MapV ((((w1.alloc (.map #[] 0)).alloc (.cells #[.map (some w1.heap.size)] 118)).alloc (.cells #[.func (.func 73) #[] #[.pointer (some ⟨w1.heap.size+1,0,none⟩)]] 119)).alloc (.cells #[.func (.func 74) #[] #[.pointer (some ⟨w.heap.size+1,0,none⟩),.pointer (some ⟨w1.heap.size+1+1,0,none⟩),.pointer (some ⟨w1.heap.size+1+1+1,0,none⟩),.pointer (some ⟨w.heap.size+1+1,0,none⟩),.pointer (some ⟨w1.heap.size+1,0,none⟩)]] 120)) (.agg #[.int .i64 0,.int .i64 0]) w1.heap.size 0 (fun _=>enW (0,0))):=(((MapV.made w1 (.agg #[.int .i64 0,.int .i64 0])).kept (bz9)).kept (bz9)).kept (bz9)
  have BN:=aD ((BX.out.block _ (aB b1)).trans b1)
  have BR:=aD ((BX.out.block _ (aB b4)).trans b4)
  generalize hWX:((((w1.alloc (.map #[] 0)).alloc (.cells #[.map (some w1.heap.size)] 118)).alloc (.cells #[.func (.func 73) #[] #[.pointer (some ⟨w1.heap.size+1,0,none⟩)]] 119)).alloc (.cells #[.func (.func 74) #[] #[.pointer (some ⟨w.heap.size+1,0,none⟩),.pointer (some ⟨w1.heap.size+1+1,0,none⟩),.pointer (some ⟨w1.heap.size+1+1+1,0,none⟩),.pointer (some ⟨w.heap.size+1+1,0,none⟩),.pointer (some ⟨w1.heap.size+1,0,none⟩)]] 120))=WX at TT BX MM BN BR ⊢
  clear hWX b1 b2 b3 b4
  have B9:Hid (Below w.heap.size w WX):=aJ (aJ ((((bz9).alloc (by simp only [World.size_alloc];omega) _).alloc (by simp only [World.size_alloc];omega) _).alloc (by simp only [World.size_alloc];omega) _) B1.out lz9) BX.out lz9
  have hO:=bP2 hglo HR.out (fun t h k=>h.wf k) HG.out (w.heap.size+1) (w1.heap.size+1+1) (w1.heap.size+1+1+1) (w.heap.size+1+1) (w1.heap.size+1) w1.heap.size t.sz t WX 0 (fun _=>(0,0)) lz9 (by have:=iQ HZ.out;omega) (hglo (CK.of_below B9.out) HGW.out) (HTA.out.kept B9.out) (gC HZ.out) (fun _=>H0.out) TT.out MM.out
  obtain⟨x,hx⟩:∃ x,tvW ρ c o t=x:=⟨_,rfl⟩
  have HC:Hid (Calls Tryz.prog 74 #[.agg #[.int .i64 t.f.k,.int .i64 t.f.n,.int .i64 t.f.mn,.int .i64 t.f.mx,.slice t.f.rq t.f.rs.length t.f.rc,.slice t.f.kq t.f.kl t.f.kc],.pointer (some ⟨w.heap.size+1,0,none⟩),.pointer (some ⟨w1.heap.size+1+1,0,none⟩),.pointer (some ⟨w1.heap.size+1+1+1,0,none⟩),.pointer (some ⟨w.heap.size+1+1,0,none⟩),.pointer (some ⟨w1.heap.size+1,0,none⟩)] WX (fun e w'=>e=.returned (.agg #[.int .i64 x.1,.int .i64 x.2])/\Fr (fun k=>k=w1.heap.size) WX w')):=aD (hO.mono fun e w' h=>⟨by rw [h.1,<- HV.out,hx];rfl,h.2.2⟩)
  have HX:=aD hx
  clear hO hx
  have o0:WX.cell? ⟨w1.heap.size+1+1+1,0,none⟩=some (.func (.func 74) #[] #[.pointer (some ⟨w.heap.size+1,0,none⟩),.pointer (some ⟨w1.heap.size+1+1,0,none⟩),.pointer (some ⟨w1.heap.size+1+1+1,0,none⟩),.pointer (some ⟨w.heap.size+1+1,0,none⟩),.pointer (some ⟨w1.heap.size+1,0,none⟩)]):=aA TT.out.o (i:=0) rfl
  have n0:WX.cell? ⟨w.heap.size,0,none⟩=some (.int .i64 t.f.k):=aA BN.out (i:=0) rfl
  have n1:WX.cell? ⟨w.heap.size,1,none⟩=some (.int .i64 t.f.n):=aA BN.out (i:=1) rfl
  have n2:WX.cell? ⟨w.heap.size,2,none⟩=some (.int .i64 t.f.mn):=aA BN.out (i:=2) rfl
  have n3:WX.cell? ⟨w.heap.size,3,none⟩=some (.int .i64 t.f.mx):=aA BN.out (i:=3) rfl
  have n4:WX.cell? ⟨w.heap.size,4,none⟩=some (.slice t.f.rq t.f.rs.length t.f.rc):=aA BN.out (i:=4) rfl
  have n5:WX.cell? ⟨w.heap.size,5,none⟩=some (.slice t.f.kq t.f.kl t.f.kc):=aA BN.out (i:=5) rfl
  go_wp2_with (go_at_call 74;refine HC.out.mono ?_;rintro e w5 ⟨rfl,h5⟩;have F5:=aD h5;clear h5;have R5:Hid (w5.heap[w.heap.size+1+1+1]?=some (.cells #[.int .i64 0,.int .i64 0] 68 (0,0))):=(F5.out.block _ (aB BR.out) (fun e=>by omega)).trans BR.out;have z0:=aA R5.out (i:=0) rfl;have z1:=aA R5.out (i:=1) rfl;have fz:=fun z=>aG R5.out z)
  refine aH4 (b:=w.heap.size+1+1+1) (x:=x) (bA R5.out [.int .i64 x.1,.int .i64 x.2] rfl) rfl rfl ?_
  exact⟨by rw [HX.out],bC (bC B9.out F5.out lz9 (fun k e=>by rw [e];exact Nat.le_trans (by omega) l1)) (aV (w.heap.size+1+1+1) [.int .i64 x.1,.int .i64 x.2] 0 w5) lz9 (fun k e=>by omega)⟩
 ·have HV:Hid (tvW ρ c o t=(0,0)):=if_neg hz
  have HZ:=aD hz
  obtain⟨r,hrr⟩:∃ r,aY c o 0 0 (pp [] t)=r:=⟨_,rfl⟩
  have rz:(r==0)=false:=by rw [<- hrr];simpa using hz
  have rz2:(r != 0)=true:=by rw [bne,rz];rfl
  have HQ:=aD hrr
  clear hz hrr
  go_enter Tryz.func40,Tryz.ntmps40
  go_wp2_with (go_at_call 53;refine(eE c o (HTA.out.kept ((((bz9).alloc (by simp only [World.size_alloc];omega) _).alloc (by simp only [World.size_alloc];omega) _).alloc (by simp only [World.size_alloc];omega) _))).mono ?_;rw [HQ.out];rintro e w1 ⟨rfl,h1⟩;have B1:=aD h1;clear h1;have l1:((((w.alloc (.cells #[.int .i64 t.f.k,.int .i64 t.f.n,.int .i64 t.f.mn,.int .i64 t.f.mx,.slice t.f.rq t.f.rs.length t.f.rc,.slice t.f.kq t.f.kl t.f.kc] 25)).alloc (.cells #[.bool c,.bool o] 27)).alloc (.cells #[.func (.func 41) #[] #[]] 70)).alloc (.cells #[.int .i64 0,.int .i64 0] 68)).heap.size<=w1.heap.size:=B1.out.size;simp only [World.size_alloc] at l1;have RA:Hid ((w1.alloc (.cells #[.int .i64 0,.int .i64 0] 68)).heap[w.heap.size+1+1+1]?=some (.cells #[.int .i64 0,.int .i64 0] 68 (0,0))):=(Below.heap_alloc _ _ _ (by omega)).trans ((B1.out.block _ (by simp only [World.size_alloc];omega)).trans (by(repeat (first | exact aK _ (by first | rfl | simp only [World.size_alloc]) | rw [Below.heap_alloc _ _ _ (by first | omega |(simp only [World.size_alloc];omega))]))));have z0:=aA RA.out (i:=0) rfl;have z1:=aA RA.out (i:=1) rfl;have fz:=fun z=>aG RA.out z)
  refine aH4 (b:=w.heap.size+1+1+1) (x:=(0,0)) (bA RA.out [.int .i64 0,.int .i64 0] rfl) rfl rfl ?_
  exact⟨by rw [HV.out],bC ((aJ ((((bz9).alloc (by simp only [World.size_alloc];omega) _).alloc (by simp only [World.size_alloc];omega) _).alloc (by simp only [World.size_alloc];omega) _) B1.out lz9).alloc (by have:=(aJ ((((bz9).alloc (by simp only [World.size_alloc];omega) _).alloc (by simp only [World.size_alloc];omega) _).alloc (by simp only [World.size_alloc];omega) _) B1.out lz9).size;omega) _) (aV (w.heap.size+1+1+1) [.int .i64 0,.int .i64 0] 0 _) lz9 (fun k e=>by omega)⟩
end
section
attribute [local go_sem] Oper.semAt_some bB
def lst(n:Int):Int:=min n 1000000
def mst(n:Int):Int:=if 1000000 < n then -1 else n
def wE(a b:Int):Int:=if a=-1\/b=-1 then -1 else mst (a+b)
def jH(a b:Int):Int:=if a=0\/b=0 then 0 else if a=-1\/b=-1 then -1 else mst (a * b)
def zG(a b:Int):Int:=if a=-1\/b=-1 then -1 else max a b
theorem uX(n:Int)(w:World):Calls Tryz.prog 76 #[.int .i64 n] w fun e w'=>e=.returned (.int .i64 (lst n))/\w'=w:=by
 have hm:∀ t ty w,(Builtin.min_ t ty #[.int .i64 n,.int .i64 1000000]).run Tryz.prog w=.ok (.int .i64 (lst n)) w:=fun t ty w=>oK _ t ty w _ _
 go_enter Tryz.func76,Tryz.ntmps76
 go_wp2
 go_ret
 exact⟨rfl,rfl⟩
theorem yY(n:Int)(w:World):Calls Tryz.prog 119 #[.int .i64 n] w fun e w'=>e=.returned (.int .i64 (mst n))/\w'=w:=by
 by_cases h:1000000 < n
 ·have hv:Hid (mst n=-1):=if_pos h
  go_enter Tryz.func119,Tryz.ntmps119
  go_wp2
  go_ret
  exact⟨by rw [hv.out];rfl,rfl⟩
 ·have hv:Hid (mst n=n):=if_neg h
  go_enter Tryz.func119,Tryz.ntmps119
  go_wp2
  go_ret
  exact⟨by rw [hv.out];rfl,rfl⟩
theorem bA9(a b:Int)(w:World)(ha:-1<=a/\a<=1000000)(hb:-1<=b/\b<=1000000):Calls Tryz.prog 77 #[.int .i64 a,.int .i64 b] w fun e w'=>e=.returned (.int .i64 (wE a b))/\w'=w:=by
 cases h1:(a==-1) with
 | true=>
  have hv:Hid (wE a b=-1):=if_pos (.inl (by simpa using h1))
  go_enter Tryz.func77,Tryz.ntmps77
  go_wp2
  go_ret
  exact⟨by rw [hv.out];rfl,rfl⟩
 | false=>
  cases h2:(b==-1) with
  | true=>
   have hv:Hid (wE a b=-1):=if_pos (.inr (by simpa using h2))
   go_enter Tryz.func77,Tryz.ntmps77
   go_wp2
   go_ret
   exact⟨by rw [hv.out];rfl,rfl⟩
  | false=>
   have hv:Hid (wE a b=mst (a+b)):=if_neg (by simp at h1 h2;omega)
   go_enter Tryz.func77,Tryz.ntmps77
   go_wp2_with (go_at_call 119;refine(yY _ _).mono ?_;rintro e w5 ⟨rfl,rfl⟩)
   go_ret
   exact⟨by rw [hv.out];rfl,rfl⟩
theorem yR(a b:Int)(w:World)(ha:-1<=a/\a<=255)(hb:-1<=b/\b<=1000000):Calls Tryz.prog 79 #[.int .i64 a,.int .i64 b] w fun e w'=>e=.returned (.int .i64 (jH a b))/\w'=w:=by
 cases z1:(a==0) with
 | true=>
  have hv:Hid (jH a b=0):=if_pos (.inl (by simpa using z1))
  go_enter Tryz.func79,Tryz.ntmps79
  go_wp2
  go_ret
  exact⟨by rw [hv.out];rfl,rfl⟩
 | false=>
  cases z2:(b==0) with
  | true=>
   have hv:Hid (jH a b=0):=if_pos (.inr (by simpa using z2))
   go_enter Tryz.func79,Tryz.ntmps79
   go_wp2
   go_ret
   exact⟨by rw [hv.out];rfl,rfl⟩
  | false=>
   have hn:¬ (a=0\/b=0):=by simp at z1 z2;omega
   cases h1:(a==-1) with
   | true=>
    have hv:Hid (jH a b=-1):=(if_neg hn).trans (if_pos (.inl (by simpa using h1)))
    clear hn
    go_enter Tryz.func79,Tryz.ntmps79
    go_wp2
    go_ret
    exact⟨by rw [hv.out];rfl,rfl⟩
   | false=>
    cases h2:(b==-1) with
    | true=>
     have hv:Hid (jH a b=-1):=(if_neg hn).trans (if_pos (.inr (by simpa using h2)))
     clear hn
     go_enter Tryz.func79,Tryz.ntmps79
     go_wp2
     go_ret
     exact⟨by rw [hv.out];rfl,rfl⟩
    | false=>
     have hv:Hid (jH a b=mst (a * b)):=(if_neg hn).trans (if_neg (by simp at h1 h2;omega))
     have hp:0<=a * b/\a * b<=255 * 1000000:=by
      simp at z1 z2 h1 h2
      exact⟨Int.mul_nonneg (by omega) (by omega),Int.mul_le_mul (by omega) (by omega) (by omega) (by omega)⟩
     clear hn
     go_enter Tryz.func79,Tryz.ntmps79
     go_wp2_with (go_at_call 119;refine(yY _ _).mono ?_;rintro e w5 ⟨rfl,rfl⟩)
     go_ret
     exact⟨by rw [hv.out];rfl,rfl⟩
theorem aP1(a b:Int)(w:World):Calls Tryz.prog 78 #[.int .i64 a,.int .i64 b] w fun e w'=>e=.returned (.int .i64 (zG a b))/\w'=w:=by
 cases h1:(a==-1) with
 | true=>
  have hv:Hid (zG a b=-1):=if_pos (.inl (by simpa using h1))
  go_enter Tryz.func78,Tryz.ntmps78
  go_wp2
  go_ret
  exact⟨by rw [hv.out];rfl,rfl⟩
 | false=>
  cases h2:(b==-1) with
  | true=>
   have hv:Hid (zG a b=-1):=if_pos (.inr (by simpa using h2))
   go_enter Tryz.func78,Tryz.ntmps78
   go_wp2
   go_ret
   exact⟨by rw [hv.out];rfl,rfl⟩
  | false=>
   have hv:Hid (zG a b=max a b):=if_neg (by simp at h1 h2;omega)
   have hm:∀ t ty w,(Builtin.max_ t ty #[.int .i64 a,.int .i64 b]).run Tryz.prog w=.ok (.int .i64 (max a b)) w:=fun t ty w=>jI _ t ty w _ _
   go_enter Tryz.func78,Tryz.ntmps78
   go_wp2
   go_ret
   exact⟨by rw [hv.out];rfl,rfl⟩
def yM(c:Bool)(l:List (Int × Int)):Int × Int:=match l with
 | []=>(0,0)
 | r :: s=>(((iX c r.1).length:Int),((iX c ((r :: s).getLast (by simp)).2).length:Int))
theorem yQ{R:Ending->World->Prop}{a:Act}{W:World}{b:Nat}{x:Int × Int}(h:W.heap[b]?=some (.cells #[.int .i64 x.1,.int .i64 x.2] 68 (0,0)))(ha:a.tmps[4]?.getD undef=.pointer (some ⟨b,0,none⟩))(hd:a.defers=[])(hR:R (.returned (enW x)) W):bodyPost Tryz.prog Tryz.f75 R .ret a W:=by
 refine bodyPost_ret (v:=enW x) ?_ hd hR
 have z0:=aA h (i:=0) rfl;have z1:=aA h (i:=1) rfl
 simp [results,Tryz.results75,go_sem,ha,enW,z0,z1]
theorem yL{w:World}{q:Option Addr}{k:Nat}{L:List (Int × Int)}(c o:Bool)(h:ArgR w (.slice q L.length k) L)(hc:∀ r∈L,bP c r.1/\bP c r.2) :
  Calls Tryz.prog 75 #[.slice q L.length k,.agg #[.bool c,.bool o]] w fun e w'=>e=.returned (enW (yM c L))/\Below w.heap.size w w':=by
 have B1:Hid (Below w.heap.size w ((w.alloc (.cells #[.bool c,.bool o] 27)).alloc (.cells #[.int .i64 0,.int .i64 0] 68))):=(bz9).alloc (by simp) _
 have R1:Hid (((w.alloc (.cells #[.bool c,.bool o] 27)).alloc (.cells #[.int .i64 0,.int .i64 0] 68)).heap[w.heap.size+1]?=some (.cells #[.int .i64 0,.int .i64 0] 68 (0,0))):=aK _ (by simp only [World.size_alloc])
 obtain⟨q',k',e,h1,h2,h3⟩:=h.slice
 injection e with e1 _ e3
 subst e1 e3
 have H3:=aD h3
 have h9:L.length<=9223372036854775807:=h1
 have HC:=aD hc
 clear h3 h h1 hc
 match L,h9,h2,H3,HC with
 | [],h9,h2,H3,HC=>
  simp only [List.length_nil]
  have z0:=aA R1.out (i:=0) rfl
  have z1:=aA R1.out (i:=1) rfl
  have fz:=fun z=>aG R1.out z
  go_enter Tryz.func75,Tryz.ntmps75
  go_wp2
  refine yQ (b:=w.heap.size+1) (x:=(0,0)) R1.out rfl rfl ?_
  exact⟨rfl,B1.out⟩
 | r :: s,h9,h2,H3,HC=>
  obtain⟨z,hz⟩:∃ z,(r :: s).getLast (by simp)=z:=⟨_,rfl⟩
  have HZ:=aD (show yM c (r :: s)=(((iX c r.1).length:Int),((iX c z.2).length:Int)) by rw [<- hz];rfl)
  have hzz:(r :: s)[(r :: s).length - 1]?=some z:=by rw [<- hz,<- List.getLast?_eq_getElem?,List.getLast?_eq_some_getLast (by simp)]
  obtain⟨n,hn⟩:∃ n,s.length=n:=⟨_,rfl⟩
  have hln:(r :: s).length=n+1:=by simp [hn]
  rw [hln] at hzz h9 h2 ⊢
  obtain⟨g,off,rfl,hg,c1,-⟩:=H3.out 0 r rfl
  obtain⟨g',off',e,-,-,c2⟩:=H3.out n z (by simpa using hzz)
  injection e with e
  injection e with e1 e2
  subst e1 e2
  have W1:=aD (jF (x:=r.1) c o)
  have HR:=aD (HC.out r (List.mem_cons_self ..)).1
  have HY:=aD (HC.out z (List.mem_of_getElem? hzz)).2
  obtain⟨T1,hT1⟩:∃ T,iX c r.1=T:=⟨_,rfl⟩
  obtain⟨T2,hT2⟩:∃ T,iX c z.2=T:=⟨_,rfl⟩
  obtain⟨x1,hx1⟩:∃ x,r.1=x:=⟨_,rfl⟩
  obtain⟨x2,hx2⟩:∃ x,z.2=x:=⟨_,rfl⟩
  have C1:Hid (∀ w,Calls Tryz.prog 89 #[.int .i64 x1,.agg #[.bool c,.bool o]] w fun e w'=>e=.returned (.string (txt T1))/\Below w.heap.size w w'):=fun w=>by rw [<- hT1,<- hx1];exact jF c o w HR.out
  have C2:Hid (∀ w,Calls Tryz.prog 89 #[.int .i64 x2,.agg #[.bool c,.bool o]] w fun e w'=>e=.returned (.string (txt T2))/\Below w.heap.size w w'):=fun w=>by rw [<- hT2,<- hx2];exact jF c o w HY.out
  rw [hT1,hT2] at HZ
  rw [hx1] at c1
  rw [hx2] at c2
  have d1:((w.alloc (.cells #[.bool c,.bool o] 27)).alloc (.cells #[.int .i64 0,.int .i64 0] 68)).cell? ⟨g,off,none⟩=some (.int .i64 x1):=(B1.out.cell (p:=⟨g,off,none⟩) hg).trans (by simpa using c1)
  have d2:((w.alloc (.cells #[.bool c,.bool o] 27)).alloc (.cells #[.int .i64 0,.int .i64 0] 68)).cell? ⟨g,off+n * 2+1,none⟩=some (.int .i64 x2):=(B1.out.cell (p:=⟨g,off+n * 2+1,none⟩) hg).trans (by rw [Nat.mul_comm] at c2;exact c2)
  have hg2:g < ((w.alloc (.cells #[.bool c,.bool o] 27)).alloc (.cells #[.int .i64 0,.int .i64 0] 68)).heap.size:=Nat.lt_of_lt_of_le hg B1.out.size
  have m0:((w.alloc (.cells #[.bool c,.bool o] 27)).alloc (.cells #[.int .i64 0,.int .i64 0] 68)).cell? ⟨w.heap.size,0,none⟩=some (.bool c):=by simp
  have m1:((w.alloc (.cells #[.bool c,.bool o] 27)).alloc (.cells #[.int .i64 0,.int .i64 0] 68)).cell? ⟨w.heap.size,1,none⟩=some (.bool o):=by simp
  have l0:w.heap.size < ((w.alloc (.cells #[.bool c,.bool o] 27)).alloc (.cells #[.int .i64 0,.int .i64 0] 68)).heap.size:=by simp only [World.size_alloc];omega
  have l1:w.heap.size+1 < ((w.alloc (.cells #[.bool c,.bool o] 27)).alloc (.cells #[.int .i64 0,.int .i64 0] 68)).heap.size:=by simp
  clear c1 c2 hg hz hzz hn hln W1 HR HY HC H3 hT1 hT2 hx1 hx2
  have i1:IntKind.wrap .i64 ((n:Int)+1 - 1)=(n:Int):=by rw [IntKind.wrap_i64];omega
  have q0:((n:Int)+1==0)=false:=by simp;omega
  generalize hWg:(w.alloc (.cells #[.bool c,.bool o] 27)).alloc (.cells #[.int .i64 0,.int .i64 0] 68)=Wg at B1 R1 d1 d2 hg2 m0 m1 l0 l1
  have HWg:=aD hWg
  clear hWg
  go_enter Tryz.func75,Tryz.ntmps75
  go_wp2
  rw [HWg.out]
  refine aW (List.cons_ne_nil _ _) (by kernel_rfl) (by kernel_rfl) (by kernel_rfl) ?_
  dsimp only [List.dropLast,List.getLast]
  repeat (go_big_quiet_step (first | exact rfl |(go_at_call 89;(with_reducible exact bN (C1.out _))) |(go_at_call 89;(with_reducible exact bN (C2.out _)))))
  refine wpQuiet_nil ?_
  intro w3 hw
  have B3:=aD (aQ hw)
  clear hw d1 d2 m0 m1
  have R3:Hid (w3.heap[w.heap.size+1]?=some (.cells #[.int .i64 0,.int .i64 0] 68 (0,0))):=(B3.out.block _ l1).trans R1.out
  have z0:=aA R3.out (i:=0) rfl
  have z1:=aA R3.out (i:=1) rfl
  have fz:=fun z=>aG R3.out z
  go_wp2
  refine yQ (b:=w.heap.size+1) (x:=((T1.length:Int),(T2.length:Int))) (by have:=bA R3.out [.int .i64 (T1.length:Int),.int .i64 (T2.length:Int)] rfl;simpa [bD,fY] using this) rfl rfl ?_
  have F3:=aV (w.heap.size+1) [.int .i64 (T1.length:Int),.int .i64 (T2.length:Int)] 0 w3
  exact⟨by rw [HZ.out],bC (aJ B1.out B3.out lz9) (by simpa [bD,fY] using F3) lz9 (fun k e=>by omega)⟩
end
section
attribute [local go_sem] Oper.semAt_some bB
def dD(x:Int × Int):Prop:=(0<=x.1/\x.1<=1000000)/\-1<=x.2/\x.2<=1000000
def zZ(w x:Int × Int):Int × Int:=(lst (w.1+x.1),wE w.2 x.2)
def aA1(w x:Int × Int):Int × Int:=(min w.1 x.1,zG w.2 x.2)
def gZ(c:Bool):dH (Int × Int):=fun f _ xs g=>
 if f.k=2 then yM c f.rs else if f.k=5 then xs.foldl zZ (0,0) else if f.k=6 then xs.foldl aA1 (xs.headD (0,0)) else if f.k=7 then xs.headD (0,0)
 else if f.k=8 then g f.n else if f.k=9 then (lst (f.mn * (xs.headD (0,0)).1),jH f.mx (xs.headD (0,0)).2) else (0,0)
theorem zI{w x:Int × Int}(h:dD w)(k:dD x):dD (zZ w x):=by
 unfold dD at *
 unfold zZ lst wE mst
 refine⟨by simp only;omega,?_⟩
 simp only
 split
 ·omega
 ·split <;> omega
theorem zJ{w x:Int × Int}(h:dD w)(k:dD x):dD (aA1 w x):=by
 unfold dD at *
 unfold aA1 zG
 refine⟨by simp only;omega,?_⟩
 simp only
 split <;> omega
theorem kC{f:Int × Int->Int × Int->Int × Int}(hf:∀ w x,dD w->dD x->dD (f w x)):∀ (l:List (Int × Int)) (w:Int × Int),dD w->(∀ x∈l,dD x)->dD (l.foldl f w)
 | [],_,h,_=>h
 | x :: l,w,h,hl=>kC hf l (f w x) (hf w x h (hl x (List.mem_cons_self ..))) (fun y hy=>hl y (List.mem_cons_of_mem _ hy))
theorem aK3(c:Bool)(x:Int):(iX c x).length<=4:=by
 unfold iX
 split
 ·have:=(Lib.runeCells_le x).2
  rwa [Lib.runeCells_length] at this
 ·simp
theorem kB:dD (0,0):=⟨by simp,by simp⟩
theorem aW9(c:Bool)(l:List (Int × Int)):dD (yM c l):=by
 unfold yM
 split
 ·exact kB
 ·rename_i r s
  have h1:=aK3 c r.1
  have h2:=aK3 c ((r :: s).getLast (by simp)).2
  unfold dD
  simp only
  omega
theorem pZ{xs:List (Int × Int)}(h:∀ x∈xs,dD x):dD (xs.headD (0,0)):=by
 cases xs with
 | nil=>exact kB
 | cons x l=>exact h x (List.mem_cons_self ..)
theorem aX0{f:Fl}{x:Int × Int}(hb:fU f.mn f.mx=true)(h:dD x):dD (lst (f.mn * x.1),jH f.mx x.2):=by
 simp [fU] at hb
 unfold dD at *
 have h1:0<=f.mn * x.1:=Int.mul_nonneg (by omega) h.1.1
 refine⟨by simp only [lst];omega,?_⟩
 simp only [jH,mst]
 split
 ·omega
 ·split
  ·omega
  ·have h2:0<=f.mx * x.2:=Int.mul_nonneg (by omega) (by omega)
   split <;> omega
theorem aC1{c o:Bool}(t:Tr)(xs:List (Int × Int))(g:Int->Int × Int)(hn:NP c o t)(_:xs.length=t.ks.length)(hx:∀ x∈xs,dD x)(hg:∀ i,dD (g i)):dD (gZ c t.f t.ks xs g):=by
 unfold gZ
 split
 ·exact aW9 _ _
 split
 ·exact kC (fun _ _=>zI) xs _ kB hx
 split
 ·exact kC (fun _ _=>zJ) xs _ (pZ hx) hx
 split
 ·exact pZ hx
 split
 ·exact hg _
 split
 ·rename_i hk
  exact aX0 (lT hn hk) (pZ hx)
 ·exact kB
theorem oD{c o:Bool}{L:List (Int × Int)}(h:oE c o L){r:Int × Int}(hr:r∈L):bP c r.1/\bP c r.2:=by
 have hs:=h.1.cls.some r hr
 exact⟨((h.1.mem r.1).1 ⟨r,hr,Int.le_refl _,hs⟩).2,((h.1.mem r.2).1 ⟨r,hr,hs,Int.le_refl _⟩).2⟩
theorem fC{R:Ending->World->Prop}{a:Act}{W:World}{b:Nat}{x:Int × Int}(h:W.heap[b]?=some (.cells #[.int .i64 x.1,.int .i64 x.2] 68 (0,0)))(ha:a.tmps[2]?.getD undef=.pointer (some ⟨b,0,none⟩))(hd:a.defers=[])(hR:R (.returned (enW x)) W):bodyPost Tryz.prog Tryz.f41 R .ret a W:=by
 refine bodyPost_ret (v:=enW x) ?_ hd hR
 have z0:=aA h (i:=0) rfl;have z1:=aA h (i:=1) rfl
 simp [results,Tryz.results41,go_sem,ha,enW,z0,z1]
def Two(W V:World)(x:Int × Int):Prop:=V.heap[W.heap.size+1]?=some (.cells #[.int .i64 0,.int .i64 0] 68 (0,0))/\V.heap[W.heap.size+1+1]?=some (.cells #[.int .i64 x.1,.int .i64 x.2] 68 (0,0))/\Below W.heap.size W V
theorem Two.put{W V:World}{x:Int × Int}(h:Two W V x)(y:Int × Int):Two W (bD V (W.heap.size+1+1) 0 [.int .i64 y.1,.int .i64 y.2]) y:=
 ⟨((aV _ _ 0 V).block _ (aB h.1) (by omega)).trans h.1,bA h.2.1 [.int .i64 y.1,.int .i64 y.2] rfl,bC h.2.2 (aV _ _ 0 V) lz9 (fun k e=>by omega)⟩
theorem Two.kept{W V V':World}{x:Int × Int}(h:Two W V x)(hb:Below V.heap.size V V'):Two W V' x:=
 ⟨(hb.block _ (aB h.1)).trans h.1,(hb.block _ (aB h.2.1)).trans h.2.1,aJ h.2.2 hb lz9⟩
theorem Two.end{W V:World}{x:Int × Int}(h:Two W V x):(bD V (W.heap.size+1) 0 [.int .i64 x.1,.int .i64 x.2]).heap[W.heap.size+1]?=some (.cells #[.int .i64 x.1,.int .i64 x.2] 68 (0,0))/\Below W.heap.size W (bD V (W.heap.size+1) 0 [.int .i64 x.1,.int .i64 x.2]):=
 ⟨bA h.1 [.int .i64 x.1,.int .i64 x.2] rfl,bC h.2.2 (aV _ _ 0 V) lz9 (fun k e=>by omega)⟩
theorem bA5(c o:Bool):RuW (fun _=>True) (NP c o) dD (gZ c) c o:=by
 intro t xs g W v bp bb n base _ hnp hsz hnb hlen hgx hgg hown hp hm
 obtain⟨qv,cv,rfl⟩:=aZ hown
 have HO:=aD hown
 have HLEN:=aD hlen
 have HNB:=aD hnb
 have HGX:=aD hgx
 have HGG:=aD hgg
 have HP:=aD hp
 have HM:=aD hm
 have HNP:=aD hnp
 have hxl:xs.length<=1000000:=by rw [hlen];exact hsz
 have hc:∀ (i:Nat) (x:Int × Int),xs[i]?=some x->∃ gb,qv=some ⟨gb,0,none⟩/\gb < W.heap.size/\W.cell? ⟨gb,i * 2,none⟩=some (.int .i64 x.1)/\W.cell? ⟨gb,i * 2+1,none⟩=some (.int .i64 x.2):=fun i x hx=>by
  have hi:=(List.getElem?_eq_some_iff.1 hx).1
  obtain⟨gb,cb,e⟩:=aL hown (by omega)
  injection e with e1 e2 e3
  subst e1 e3
  have p1:=kW (fun x:Int × Int=>[Value.int .i64 x.1,.int .i64 x.2]) 2 (fun _=>rfl) xs i x hx 0 (by decide)
  have p2:=kW (fun x:Int × Int=>[Value.int .i64 x.1,.int .i64 x.2]) 2 (fun _=>rfl) xs i x hx 1 (by decide)
  exact⟨gb,rfl,(aH hown rfl).2.1,aU hown p1,aU hown p2⟩
 have HC:=aD hc
 clear hown hnb hgx hgg hp hm hlen hc hsz
 unfold dE
 go_enter Tryz.func41,Tryz.ntmps41
 go_upto_region 3 with fail
 have S0:Hid ((((W.alloc (.cells #[.int .i64 t.f.k,.int .i64 t.f.n,.int .i64 t.f.mn,.int .i64 t.f.mx,.slice t.f.rq t.f.rs.length t.f.rc,.slice t.f.kq t.f.kl t.f.kc,.bool c,.bool o,.slice qv xs.length cv,.func (.func 73) #[] #[bx bp]] 123)).alloc (.cells #[.int .i64 0,.int .i64 0] 68)).alloc (.cells #[.int .i64 0,.int .i64 0] 68)).heap[W.heap.size]?=some (.cells #[.int .i64 t.f.k,.int .i64 t.f.n,.int .i64 t.f.mn,.int .i64 t.f.mx,.slice t.f.rq t.f.rs.length t.f.rc,.slice t.f.kq t.f.kl t.f.kc,.bool c,.bool o,.slice qv xs.length cv,.func (.func 73) #[] #[bx bp]] 123 (0,0))):=(by(repeat (first | exact aK _ (by first | rfl | simp only [World.size_alloc]) | rw [Below.heap_alloc _ _ _ (by first | omega |(simp only [World.size_alloc];omega))])))
 have T0:Hid (Two W (((W.alloc (.cells #[.int .i64 t.f.k,.int .i64 t.f.n,.int .i64 t.f.mn,.int .i64 t.f.mx,.slice t.f.rq t.f.rs.length t.f.rc,.slice t.f.kq t.f.kl t.f.kc,.bool c,.bool o,.slice qv xs.length cv,.func (.func 73) #[] #[bx bp]] 123)).alloc (.cells #[.int .i64 0,.int .i64 0] 68)).alloc (.cells #[.int .i64 0,.int .i64 0] 68)) (0,0)):=⟨(Below.heap_alloc _ _ _ (by simp only [World.size_alloc];omega)).trans (aK _ (by simp only [World.size_alloc])),aK _ (by simp only [World.size_alloc]),((bz9).alloc (by simp only [World.size_alloc];omega) _).alloc (by simp only [World.size_alloc];omega) _⟩
 have l0:W.heap.size < (((W.alloc (.cells #[.int .i64 t.f.k,.int .i64 t.f.n,.int .i64 t.f.mn,.int .i64 t.f.mx,.slice t.f.rq t.f.rs.length t.f.rc,.slice t.f.kq t.f.kl t.f.kc,.bool c,.bool o,.slice qv xs.length cv,.func (.func 73) #[] #[bx bp]] 123)).alloc (.cells #[.int .i64 0,.int .i64 0] 68)).alloc (.cells #[.int .i64 0,.int .i64 0] 68)).heap.size:=by simp only [World.size_alloc];omega
 have l1:W.heap.size+1 < (((W.alloc (.cells #[.int .i64 t.f.k,.int .i64 t.f.n,.int .i64 t.f.mn,.int .i64 t.f.mx,.slice t.f.rq t.f.rs.length t.f.rc,.slice t.f.kq t.f.kl t.f.kc,.bool c,.bool o,.slice qv xs.length cv,.func (.func 73) #[] #[bx bp]] 123)).alloc (.cells #[.int .i64 0,.int .i64 0] 68)).alloc (.cells #[.int .i64 0,.int .i64 0] 68)).heap.size:=by simp only [World.size_alloc];omega
 have l2:W.heap.size+1+1 < (((W.alloc (.cells #[.int .i64 t.f.k,.int .i64 t.f.n,.int .i64 t.f.mn,.int .i64 t.f.mx,.slice t.f.rq t.f.rs.length t.f.rc,.slice t.f.kq t.f.kl t.f.kc,.bool c,.bool o,.slice qv xs.length cv,.func (.func 73) #[] #[bx bp]] 123)).alloc (.cells #[.int .i64 0,.int .i64 0] 68)).alloc (.cells #[.int .i64 0,.int .i64 0] 68)).heap.size:=by simp only [World.size_alloc];omega
 generalize hW0:(((W.alloc (.cells #[.int .i64 t.f.k,.int .i64 t.f.n,.int .i64 t.f.mn,.int .i64 t.f.mx,.slice t.f.rq t.f.rs.length t.f.rc,.slice t.f.kq t.f.kl t.f.kc,.bool c,.bool o,.slice qv xs.length cv,.func (.func 73) #[] #[bx bp]] 123)).alloc (.cells #[.int .i64 0,.int .i64 0] 68)).alloc (.cells #[.int .i64 0,.int .i64 0] 68))=W0 at S0 T0 l0 l1 l2 ⊢
 clear hW0
 have s0:W0.cell? ⟨W.heap.size,0,none⟩=some (.int .i64 t.f.k):=aA S0.out (i:=0) rfl
 have s1:W0.cell? ⟨W.heap.size,1,none⟩=some (.int .i64 t.f.n):=aA S0.out (i:=1) rfl
 have s2:W0.cell? ⟨W.heap.size,2,none⟩=some (.int .i64 t.f.mn):=aA S0.out (i:=2) rfl
 have s3:W0.cell? ⟨W.heap.size,3,none⟩=some (.int .i64 t.f.mx):=aA S0.out (i:=3) rfl
 have s4:W0.cell? ⟨W.heap.size,4,none⟩=some (.slice t.f.rq t.f.rs.length t.f.rc):=aA S0.out (i:=4) rfl
 have s5:W0.cell? ⟨W.heap.size,5,none⟩=some (.slice t.f.kq t.f.kl t.f.kc):=aA S0.out (i:=5) rfl
 have s6:W0.cell? ⟨W.heap.size,6,none⟩=some (.bool c):=aA S0.out (i:=6) rfl
 have s7:W0.cell? ⟨W.heap.size,7,none⟩=some (.bool o):=aA S0.out (i:=7) rfl
 have s8:W0.cell? ⟨W.heap.size,8,none⟩=some (.slice qv xs.length cv):=aA S0.out (i:=8) rfl
 have s9:W0.cell? ⟨W.heap.size,9,none⟩=some (.func (.func 73) #[] #[bx bp]):=aA S0.out (i:=9) rfl
 rcases hQ hnp with hk | hk | hk | hk | hk | hk | hk | hk | hk
 ·have hv:Hid (gZ c t.f t.ks xs g=(0,0)):=(by unfold gZ;rw [hk];rfl)
  have e2:(t.f.k==2)=false:=by rw [hk];rfl
  have e5:(t.f.k==5)=false:=by rw [hk];rfl
  have e6:(t.f.k==6)=false:=by rw [hk];rfl
  have e7:(t.f.k==7)=false:=by rw [hk];rfl
  have e8:(t.f.k==8)=false:=by rw [hk];rfl
  have e9:(t.f.k==9)=false:=by rw [hk];rfl
  clear hk hnp
  have z0:=aA T0.out.1 (i:=0) rfl
  have z1:=aA T0.out.1 (i:=1) rfl
  have y0:=aA T0.out.2.1 (i:=0) rfl
  have y1:=aA T0.out.2.1 (i:=1) rfl
  have fz:=fun z=>aG T0.out.1 z
  have fy:=fun z=>aG T0.out.2.1 z
  go_wp2
  refine fC (b:=W.heap.size+1) (x:=(0,0)) T0.out.end.1 rfl rfl ?_
  exact⟨by rw [hv.out],T0.out.end.2⟩
 ·have hv:Hid (gZ c t.f t.ks xs g=yM c t.f.rs):=(by unfold gZ;rw [hk];rfl)
  have hs:=pT hnp hk
  have HD:=aD (yL (w:=W0) (q:=t.f.rq) (k:=t.f.rc) (L:=t.f.rs) c o (HNB.out.r.kept T0.out.2.2) (fun r hr=>oD hs hr))
  have e2:(t.f.k==2)=true:=by rw [hk];rfl
  have e5:(t.f.k==5)=false:=by rw [hk];rfl
  have e6:(t.f.k==6)=false:=by rw [hk];rfl
  have e7:(t.f.k==7)=false:=by rw [hk];rfl
  have e8:(t.f.k==8)=false:=by rw [hk];rfl
  have e9:(t.f.k==9)=false:=by rw [hk];rfl
  clear hk hnp hs
  obtain⟨⟨xa,xb⟩,hx⟩:∃ x,yM c t.f.rs=x:=⟨_,rfl⟩
  rw [hx] at HD hv
  simp only [enW] at HD
  clear hx
  go_wp2_with (go_at_call 75;refine HD.out.mono ?_;rintro e w5 ⟨rfl,h5⟩;have T5:Hid (Two W w5 (0,0)):=T0.out.kept h5;clear h5;have z0:=aA T5.out.1 (i:=0) rfl;have z1:=aA T5.out.1 (i:=1) rfl;have y0:=aA T5.out.2.1 (i:=0) rfl;have y1:=aA T5.out.2.1 (i:=1) rfl;have fz:=fun z=>aG T5.out.1 z;have fy:=fun z=>aG T5.out.2.1 z)
  have T6:=T5.out.put (xa,xb)
  refine fC (b:=W.heap.size+1) (x:=(xa,xb)) T6.end.1 rfl rfl ?_
  exact⟨by rw [hv.out],T6.end.2⟩
 ·have hv:Hid (gZ c t.f t.ks xs g=(0,0)):=(by unfold gZ;rw [hk];rfl)
  have e2:(t.f.k==2)=false:=by rw [hk];rfl
  have e5:(t.f.k==5)=false:=by rw [hk];rfl
  have e6:(t.f.k==6)=false:=by rw [hk];rfl
  have e7:(t.f.k==7)=false:=by rw [hk];rfl
  have e8:(t.f.k==8)=false:=by rw [hk];rfl
  have e9:(t.f.k==9)=false:=by rw [hk];rfl
  clear hk hnp
  have z0:=aA T0.out.1 (i:=0) rfl
  have z1:=aA T0.out.1 (i:=1) rfl
  have y0:=aA T0.out.2.1 (i:=0) rfl
  have y1:=aA T0.out.2.1 (i:=1) rfl
  have fz:=fun z=>aG T0.out.1 z
  have fy:=fun z=>aG T0.out.2.1 z
  go_wp2
  refine fC (b:=W.heap.size+1) (x:=(0,0)) T0.out.end.1 rfl rfl ?_
  exact⟨by rw [hv.out],T0.out.end.2⟩
 ·have hv:Hid (gZ c t.f t.ks xs g=(0,0)):=(by unfold gZ;rw [hk];rfl)
  have e2:(t.f.k==2)=false:=by rw [hk];rfl
  have e5:(t.f.k==5)=false:=by rw [hk];rfl
  have e6:(t.f.k==6)=false:=by rw [hk];rfl
  have e7:(t.f.k==7)=false:=by rw [hk];rfl
  have e8:(t.f.k==8)=false:=by rw [hk];rfl
  have e9:(t.f.k==9)=false:=by rw [hk];rfl
  clear hk hnp
  have z0:=aA T0.out.1 (i:=0) rfl
  have z1:=aA T0.out.1 (i:=1) rfl
  have y0:=aA T0.out.2.1 (i:=0) rfl
  have y1:=aA T0.out.2.1 (i:=1) rfl
  have fz:=fun z=>aG T0.out.1 z
  have fy:=fun z=>aG T0.out.2.1 z
  go_wp2
  refine fC (b:=W.heap.size+1) (x:=(0,0)) T0.out.end.1 rfl rfl ?_
  exact⟨by rw [hv.out],T0.out.end.2⟩
 ·have hv:Hid (gZ c t.f t.ks xs g=xs.foldl zZ (0,0)):=(by unfold gZ;rw [hk];rfl)
  have e2:(t.f.k==2)=false:=by rw [hk];rfl
  have e5:(t.f.k==5)=true:=by rw [hk];rfl
  have e6:(t.f.k==6)=false:=by rw [hk];rfl
  have e7:(t.f.k==7)=false:=by rw [hk];rfl
  have e8:(t.f.k==8)=false:=by rw [hk];rfl
  have e9:(t.f.k==9)=false:=by rw [hk];rfl
  have TI:Hid (Two W W0 ((xs.take 0).foldl zZ (0,0))):=T0.out
  clear hk
  clear hnp
  go_upto_region 7 with fail
  go_loopw [25] (fun i wr=>∃ j:Nat,j<=xs.length/\i=.int .i64 (j:Int)/\Two W wr ((xs.take j).foldl zZ (0,0))) (fun i _=>xs.length - (intOf i).toNat)
  case atStart=>exact⟨0,Nat.zero_le _,rfl,TI.out⟩
  case round=>
   obtain⟨j,hj,rfl,ht⟩:=hrel
   have hgy:=kC (fun _ _=>zI) (xs.take j) (0,0) kB (fun y hy=>HGX.out y (List.mem_of_mem_take hy))
   obtain⟨⟨ya,yb⟩,hy⟩:∃ y,(xs.take j).foldl zZ (0,0)=y:=⟨_,rfl⟩
   rw [hy] at ht hgy
   have TT:=aD ht
   have HY:=aD hy
   unfold dD at hgy
   simp only at hgy
   clear ht hy
   by_cases hjl:j < xs.length
   ·obtain⟨⟨xa,xb⟩,hx⟩:∃ x,xs[j]?=some x:=⟨_,List.getElem?_eq_getElem hjl⟩
    have hgd:=HGX.out _ (List.mem_of_getElem? hx)
    unfold dD at hgd
    simp only at hgd
    have FN:=aD (show (xs.take (j+1)).foldl zZ (0,0)=(lst (ya+xa),wE yb xb) by rw [List.take_add_one,hx,Option.toList_some,List.foldl_append,HY.out];rfl)
    have e1:(j:Int) < (xs.length:Int):=by omega
    obtain⟨gb,rfl,hg',c1,c2⟩:=HC.out j _ hx
    have d1:=(TT.out.2.2.cell (p:=⟨gb,j * 2,none⟩) hg').trans c1
    have d2:=(TT.out.2.2.cell (p:=⟨gb,j * 2+1,none⟩) hg').trans c2
    simp only at d1 d2
    have P1:Hid (∀ w,Calls Tryz.prog 77 #[.int .i64 yb,.int .i64 xb] w fun e w'=>e=.returned (.int .i64 (wE yb xb))/\w'=w):=fun w=>bA9 _ _ w hgy.2 hgd.2
    have T1:Hid (Two W (wr.alloc (.cells #[.int .i64 xa,.int .i64 xb] 68)) (ya,yb)):=TT.out.kept (bz9)
    have y0:(wr.alloc (.cells #[.int .i64 xa,.int .i64 xb] 68)).cell? ⟨W.heap.size+1+1,0,none⟩=some (.int .i64 ya):=aA T1.out.2.1 (i:=0) rfl
    have y1:(wr.alloc (.cells #[.int .i64 xa,.int .i64 xb] 68)).cell? ⟨W.heap.size+1+1,1,none⟩=some (.int .i64 yb):=aA T1.out.2.1 (i:=1) rfl
    have k0:(wr.alloc (.cells #[.int .i64 xa,.int .i64 xb] 68)).cell? ⟨wr.heap.size,0,none⟩=some (.int .i64 xa):=aA (aE wr _) (i:=0) rfl
    have k1:(wr.alloc (.cells #[.int .i64 xa,.int .i64 xb] 68)).cell? ⟨wr.heap.size,1,none⟩=some (.int .i64 xb):=aA (aE wr _) (i:=1) rfl
    have l6:W.heap.size+1+1 < (wr.alloc (.cells #[.int .i64 xa,.int .i64 xb] 68)).heap.size:=aB T1.out.2.1
    have l7:wr.heap.size < (wr.alloc (.cells #[.int .i64 xa,.int .i64 xb] 68)).heap.size:=by rw [World.size_alloc];omega
    clear c1 c2 hx
    go_wp2
    generalize hW1:wr.alloc (.cells #[.int .i64 xa,.int .i64 xb] 68)=W1 at T1 l6 l7 y0 y1 k0 k1 ⊢
    clear hW1
    refine aW (List.cons_ne_nil _ _) (by kernel_rfl) (by kernel_rfl) (by kernel_rfl) ?_
    dsimp only [List.dropLast,List.getLast]
    repeat (go_big_quiet_step (first | exact rfl |(go_at_call 76;exact fL (uX _ _)) |(go_at_call 77;exact fL (P1.out _))))
    refine wpQuiet_nil ?_
    intro w3 hw
    have T3:Hid (Two W w3 (ya,yb)):=T1.out.kept (aQ hw)
    clear hw y0 y1 k0 k1 d1 d2
    have z0:=aA T3.out.1 (i:=0) rfl
    have z1:=aA T3.out.1 (i:=1) rfl
    have y0:=aA T3.out.2.1 (i:=0) rfl
    have y1:=aA T3.out.2.1 (i:=1) rfl
    have fz:=fun z=>aG T3.out.1 z
    have fy:=fun z=>aG T3.out.2.1 z
    go_wp2
    go_roundw
    case rel=>exact⟨j+1,by omega,by go_num,by rw [FN.out];exact T3.out.put (lst (ya+xa),wE yb xb)⟩
    case measure=>simp only [intOf];omega
   ·have e1:¬ (j:Int) < (xs.length:Int):=by omega
    rw [List.take_of_length_le (by omega)] at HY
    rw [HY.out] at hv
    have z0:=aA TT.out.1 (i:=0) rfl
    have z1:=aA TT.out.1 (i:=1) rfl
    have y0:=aA TT.out.2.1 (i:=0) rfl
    have y1:=aA TT.out.2.1 (i:=1) rfl
    have fz:=fun z=>aG TT.out.1 z
    have fy:=fun z=>aG TT.out.2.1 z
    go_wp2
    refine fC (b:=W.heap.size+1) (x:=(ya,yb)) TT.out.end.1 rfl rfl ?_
    exact⟨by rw [hv.out],TT.out.end.2⟩
 ·have hv:Hid (gZ c t.f t.ks xs g=xs.foldl aA1 (xs.headD (0,0))):=(by unfold gZ;rw [hk];rfl)
  have e2:(t.f.k==2)=false:=by rw [hk];rfl
  have e5:(t.f.k==5)=false:=by rw [hk];rfl
  have e6:(t.f.k==6)=true:=by rw [hk];rfl
  have e7:(t.f.k==7)=false:=by rw [hk];rfl
  have e8:(t.f.k==8)=false:=by rw [hk];rfl
  have e9:(t.f.k==9)=false:=by rw [hk];rfl
  have hmany:=rC hnp (.inr hk)
  clear hk
  obtain⟨x0,hx0⟩:∃ x,xs[0]?=some x:=⟨_,List.getElem?_eq_getElem (by rw [HLEN.out];omega)⟩
  have hh:xs.headD (0,0)=x0:=by
   match xs,hx0 with
   | y :: ys,h=>simp at h;simp [h]
  rw [hh] at hv
  have e10:(0:Int) < (xs.length:Int):=by have:=(List.getElem?_eq_some_iff.1 hx0).1;omega
  obtain⟨gb,rfl,hg,c1,c2⟩:=HC.out 0 x0 hx0
  simp only [Nat.zero_mul,Nat.zero_add] at c1 c2
  have d1:=(T0.out.2.2.cell (p:=⟨gb,0,none⟩) hg).trans c1
  have d2:=(T0.out.2.2.cell (p:=⟨gb,1,none⟩) hg).trans c2
  have hg0:gb < W0.heap.size:=Nat.lt_of_lt_of_le hg T0.out.2.2.size
  have ng1:gb≠W.heap.size+1:=by omega
  have ng2:gb≠W.heap.size+1+1:=by omega
  have GX:=aD (HGX.out x0 (List.mem_of_getElem? hx0))
  obtain⟨ua,ub⟩:=x0
  simp only at d1 d2
  have TI:Hid (Two W (bD W0 (W.heap.size+1+1) 0 [.int .i64 ua,.int .i64 ub]) ((xs.take 0).foldl aA1 (ua,ub))):=T0.out.put (ua,ub)
  have SI:Hid ((bD W0 (W.heap.size+1+1) 0 [.int .i64 ua,.int .i64 ub]).heap[W.heap.size]?=some (.cells #[.int .i64 t.f.k,.int .i64 t.f.n,.int .i64 t.f.mn,.int .i64 t.f.mx,.slice t.f.rq t.f.rs.length t.f.rc,.slice t.f.kq t.f.kl t.f.kc,.bool c,.bool o,.slice (some ⟨gb,0,none⟩) xs.length cv,.func (.func 73) #[] #[bx bp]] 123 (0,0))):=((aV _ _ 0 W0).block _ l0 (by omega)).trans S0.out
  clear c1 c2 hg hx0 hh hmany hnp
  have z0:=aA T0.out.1 (i:=0) rfl
  have z1:=aA T0.out.1 (i:=1) rfl
  have y0:=aA T0.out.2.1 (i:=0) rfl
  have y1:=aA T0.out.2.1 (i:=1) rfl
  have fz:=fun z=>aG T0.out.1 z
  have fy:=fun z=>aG T0.out.2.1 z
  go_upto_region 14 with fail
  clear z0 z1 y0 y1 fz fy d1 d2
  change Code.wp _ _ _ _ (bD W0 (W.heap.size+1+1) 0 [.int .i64 ua,.int .i64 ub])
  generalize bD W0 (W.heap.size+1+1) 0 [.int .i64 ua,.int .i64 ub]=WI at TI SI ⊢
  go_loopw [51] (fun i wr=>∃ j:Nat,j<=xs.length/\i=.int .i64 (j:Int)/\Two W wr ((xs.take j).foldl aA1 (ua,ub))) (fun i _=>xs.length - (intOf i).toNat)
  case atStart=>exact⟨0,Nat.zero_le _,rfl,TI.out⟩
  case round=>
   obtain⟨j,hj,rfl,ht⟩:=hrel
   have hgy:=kC (fun _ _=>zJ) (xs.take j) (ua,ub) GX.out (fun y hy=>HGX.out y (List.mem_of_mem_take hy))
   obtain⟨⟨ya,yb⟩,hy⟩:∃ y,(xs.take j).foldl aA1 (ua,ub)=y:=⟨_,rfl⟩
   rw [hy] at ht hgy
   have TT:=aD ht
   have HY:=aD hy
   unfold dD at hgy
   simp only at hgy
   clear ht hy
   by_cases hjl:j < xs.length
   ·obtain⟨⟨xa,xb⟩,hx⟩:∃ x,xs[j]?=some x:=⟨_,List.getElem?_eq_getElem hjl⟩
    have hgd:=HGX.out _ (List.mem_of_getElem? hx)
    unfold dD at hgd
    simp only at hgd
    have FN:=aD (show (xs.take (j+1)).foldl aA1 (ua,ub)=(min ya xa,zG yb xb) by rw [List.take_add_one,hx,Option.toList_some,List.foldl_append,HY.out];rfl)
    have e1:(j:Int) < (xs.length:Int):=by omega
    obtain⟨gb',egb,hg',c1,c2⟩:=HC.out j _ hx
    injection egb with egb
    injection egb with egb
    subst egb
    have d1:=(TT.out.2.2.cell (p:=⟨gb,j * 2,none⟩) hg').trans c1
    have d2:=(TT.out.2.2.cell (p:=⟨gb,j * 2+1,none⟩) hg').trans c2
    simp only at d1 d2
    have hmn:∀ t' ty w,(Builtin.min_ t' ty #[.int .i64 ya,.int .i64 xa]).run Tryz.prog w=.ok (.int .i64 (min ya xa)) w:=fun t' ty w=>oK _ t' ty w _ _
    have T1:Hid (Two W (wr.alloc (.cells #[.int .i64 xa,.int .i64 xb] 68)) (ya,yb)):=TT.out.kept (bz9)
    have y0:(wr.alloc (.cells #[.int .i64 xa,.int .i64 xb] 68)).cell? ⟨W.heap.size+1+1,0,none⟩=some (.int .i64 ya):=aA T1.out.2.1 (i:=0) rfl
    have y1:(wr.alloc (.cells #[.int .i64 xa,.int .i64 xb] 68)).cell? ⟨W.heap.size+1+1,1,none⟩=some (.int .i64 yb):=aA T1.out.2.1 (i:=1) rfl
    have k0:(wr.alloc (.cells #[.int .i64 xa,.int .i64 xb] 68)).cell? ⟨wr.heap.size,0,none⟩=some (.int .i64 xa):=aA (aE wr _) (i:=0) rfl
    have k1:(wr.alloc (.cells #[.int .i64 xa,.int .i64 xb] 68)).cell? ⟨wr.heap.size,1,none⟩=some (.int .i64 xb):=aA (aE wr _) (i:=1) rfl
    have l6:W.heap.size+1+1 < (wr.alloc (.cells #[.int .i64 xa,.int .i64 xb] 68)).heap.size:=aB T1.out.2.1
    have l7:wr.heap.size < (wr.alloc (.cells #[.int .i64 xa,.int .i64 xb] 68)).heap.size:=by rw [World.size_alloc];omega
    clear c1 c2 hx
    go_wp2
    generalize hW1:wr.alloc (.cells #[.int .i64 xa,.int .i64 xb] 68)=W1 at T1 l6 l7 y0 y1 k0 k1 ⊢
    clear hW1
    refine aW (List.cons_ne_nil _ _) (by kernel_rfl) (by kernel_rfl) (by kernel_rfl) ?_
    dsimp only [List.dropLast,List.getLast]
    repeat (go_big_quiet_step (first | exact rfl |(go_at_call 78;exact fL (aP1 _ _ _))))
    refine wpQuiet_nil ?_
    intro w3 hw
    have T3:Hid (Two W w3 (ya,yb)):=T1.out.kept (aQ hw)
    clear hw y0 y1 k0 k1 d1 d2
    have z0:=aA T3.out.1 (i:=0) rfl
    have z1:=aA T3.out.1 (i:=1) rfl
    have y0:=aA T3.out.2.1 (i:=0) rfl
    have y1:=aA T3.out.2.1 (i:=1) rfl
    have fz:=fun z=>aG T3.out.1 z
    have fy:=fun z=>aG T3.out.2.1 z
    go_wp2
    go_roundw
    case rel=>exact⟨j+1,by omega,by go_num,by rw [FN.out];exact T3.out.put (min ya xa,zG yb xb)⟩
    case measure=>simp only [intOf];omega
   ·have e1:¬ (j:Int) < (xs.length:Int):=by omega
    rw [List.take_of_length_le (by omega)] at HY
    rw [HY.out] at hv
    have z0:=aA TT.out.1 (i:=0) rfl
    have z1:=aA TT.out.1 (i:=1) rfl
    have y0:=aA TT.out.2.1 (i:=0) rfl
    have y1:=aA TT.out.2.1 (i:=1) rfl
    have fz:=fun z=>aG TT.out.1 z
    have fy:=fun z=>aG TT.out.2.1 z
    go_wp2
    refine fC (b:=W.heap.size+1) (x:=(ya,yb)) TT.out.end.1 rfl rfl ?_
    exact⟨by rw [hv.out],TT.out.end.2⟩
 ·obtain⟨x,rfl⟩:∃ x,xs=[x]:=by
   have:=fG hnp (.inl hk)
   match xs,HLEN.out with
   | [x],_=>exact⟨x,rfl⟩
   | [],e=>rw [this] at e;simp at e
   | _ :: _ :: _,e=>rw [this] at e;simp at e
  obtain⟨gb,rfl,hg,c1,c2⟩:=HC.out 0 x rfl
  simp only [Nat.zero_mul,Nat.zero_add] at c1 c2
  have d1:=(T0.out.2.2.cell (p:=⟨gb,0,none⟩) hg).trans c1
  have d2:=(T0.out.2.2.cell (p:=⟨gb,1,none⟩) hg).trans c2
  have hg0:gb < W0.heap.size:=Nat.lt_of_lt_of_le hg T0.out.2.2.size
  have ng1:gb≠W.heap.size+1:=by omega
  have ng2:gb≠W.heap.size+1+1:=by omega
  simp only [List.length_cons,List.length_nil,Nat.zero_add] at s8 ⊢
  obtain⟨xa,xb⟩:=x
  simp only at d1 d2
  have hv:Hid (gZ c t.f t.ks [(xa,xb)] g=(xa,xb)):=(by unfold gZ;rw [hk];rfl)
  have e2:(t.f.k==2)=false:=by rw [hk];rfl
  have e5:(t.f.k==5)=false:=by rw [hk];rfl
  have e6:(t.f.k==6)=false:=by rw [hk];rfl
  have e7:(t.f.k==7)=true:=by rw [hk];rfl
  have e8:(t.f.k==8)=false:=by rw [hk];rfl
  have e9:(t.f.k==9)=false:=by rw [hk];rfl
  clear hk hnp
  have z0:=aA T0.out.1 (i:=0) rfl
  have z1:=aA T0.out.1 (i:=1) rfl
  have y0:=aA T0.out.2.1 (i:=0) rfl
  have y1:=aA T0.out.2.1 (i:=1) rfl
  have fz:=fun z=>aG T0.out.1 z
  have fy:=fun z=>aG T0.out.2.1 z
  go_wp2
  have T6:=T0.out.put (xa,xb)
  refine fC (b:=W.heap.size+1) (x:=(xa,xb)) T6.end.1 rfl rfl ?_
  exact⟨by rw [hv.out],T6.end.2⟩
 ·have hv:Hid (gZ c t.f t.ks xs g=g t.f.n):=(by unfold gZ;rw [hk];rfl)
  have hb:=wM hnp hk
  have hwf:(Lit.int .i64 t.f.n).wf=true:=by simp [Lit.wf,IntKind.min,IntKind.max,IntKind.signed,IntKind.bits];omega
  have HD:=aD (bO2 (g:=g) ((T0.out.2.2.block _ (aB HP.out)).trans HP.out) (HM.out.kept T0.out.2.2) t.f.n hwf)
  have e2:(t.f.k==2)=false:=by rw [hk];rfl
  have e5:(t.f.k==5)=false:=by rw [hk];rfl
  have e6:(t.f.k==6)=false:=by rw [hk];rfl
  have e7:(t.f.k==7)=false:=by rw [hk];rfl
  have e8:(t.f.k==8)=true:=by rw [hk];rfl
  have e9:(t.f.k==9)=false:=by rw [hk];rfl
  clear hk hnp hwf hb
  obtain⟨⟨xa,xb⟩,hx⟩:∃ x,g t.f.n=x:=⟨_,rfl⟩
  rw [hx] at HD hv
  simp only [enW] at HD
  clear hx
  go_wp2_with (go_at_call 73;refine HD.out.mono ?_;rintro e w5 ⟨rfl,h5⟩;have T5:Hid (Two W w5 (0,0)):=T0.out.kept h5;clear h5;have z0:=aA T5.out.1 (i:=0) rfl;have z1:=aA T5.out.1 (i:=1) rfl;have y0:=aA T5.out.2.1 (i:=0) rfl;have y1:=aA T5.out.2.1 (i:=1) rfl;have fz:=fun z=>aG T5.out.1 z;have fy:=fun z=>aG T5.out.2.1 z)
  have T6:=T5.out.put (xa,xb)
  refine fC (b:=W.heap.size+1) (x:=(xa,xb)) T6.end.1 rfl rfl ?_
  exact⟨by rw [hv.out],T6.end.2⟩
 ·obtain⟨x,rfl⟩:∃ x,xs=[x]:=by
   have:=fG hnp (.inr hk)
   match xs,HLEN.out with
   | [x],_=>exact⟨x,rfl⟩
   | [],e=>rw [this] at e;simp at e
   | _ :: _ :: _,e=>rw [this] at e;simp at e
  obtain⟨gb,rfl,hg,c1,c2⟩:=HC.out 0 x rfl
  simp only [Nat.zero_mul,Nat.zero_add] at c1 c2
  have d1:=(T0.out.2.2.cell (p:=⟨gb,0,none⟩) hg).trans c1
  have d2:=(T0.out.2.2.cell (p:=⟨gb,1,none⟩) hg).trans c2
  have hg0:gb < W0.heap.size:=Nat.lt_of_lt_of_le hg T0.out.2.2.size
  have ng1:gb≠W.heap.size+1:=by omega
  have ng2:gb≠W.heap.size+1+1:=by omega
  simp only [List.length_cons,List.length_nil,Nat.zero_add] at s8 ⊢
  obtain⟨xa,xb⟩:=x
  simp only at d1 d2
  have hv:Hid (gZ c t.f t.ks [(xa,xb)] g=(lst (t.f.mn * xa),jH t.f.mx xb)):=(by unfold gZ;rw [hk];rfl)
  have hgd:=HGX.out (xa,xb) (List.mem_cons_self ..)
  have hbd:=lT hnp hk
  have hm1:0<=t.f.mn/\t.f.mn<=255/\-1<=t.f.mx/\t.f.mx<=255:=by simp [fU] at hbd;omega
  unfold dD at hgd
  have hmul:0<=t.f.mn * xa/\t.f.mn * xa<=255 * 1000000:=⟨Int.mul_nonneg hm1.1 hgd.1.1,Int.mul_le_mul hm1.2.1 hgd.1.2 hgd.1.1 (by omega)⟩
  have P1:Hid (∀ w,Calls Tryz.prog 79 #[.int .i64 t.f.mx,.int .i64 xb] w fun e w'=>e=.returned (.int .i64 (jH t.f.mx xb))/\w'=w):=fun w=>yR _ _ w ⟨hm1.2.2.1,hm1.2.2.2⟩ ⟨hgd.2.1,hgd.2.2⟩
  have e2:(t.f.k==2)=false:=by rw [hk];rfl
  have e5:(t.f.k==5)=false:=by rw [hk];rfl
  have e6:(t.f.k==6)=false:=by rw [hk];rfl
  have e7:(t.f.k==7)=false:=by rw [hk];rfl
  have e8:(t.f.k==8)=false:=by rw [hk];rfl
  have e9:(t.f.k==9)=true:=by rw [hk];rfl
  have T1:Hid (Two W (W0.alloc (.cells #[.int .i64 xa,.int .i64 xb] 68)) (0,0)):=T0.out.kept (bz9)
  have l3:W.heap.size < (W0.alloc (.cells #[.int .i64 xa,.int .i64 xb] 68)).heap.size:=by rw [World.size_alloc];omega
  have l4:W.heap.size+1+1 < (W0.alloc (.cells #[.int .i64 xa,.int .i64 xb] 68)).heap.size:=by rw [World.size_alloc];omega
  have l5:W0.heap.size < (W0.alloc (.cells #[.int .i64 xa,.int .i64 xb] 68)).heap.size:=by rw [World.size_alloc];omega
  have q2:(W0.alloc (.cells #[.int .i64 xa,.int .i64 xb] 68)).cell? ⟨W.heap.size,2,none⟩=some (.int .i64 t.f.mn):=aA ((Below.heap_alloc _ _ _ l0).trans S0.out) (i:=2) rfl
  have q3:(W0.alloc (.cells #[.int .i64 xa,.int .i64 xb] 68)).cell? ⟨W.heap.size,3,none⟩=some (.int .i64 t.f.mx):=aA ((Below.heap_alloc _ _ _ l0).trans S0.out) (i:=3) rfl
  have k0:(W0.alloc (.cells #[.int .i64 xa,.int .i64 xb] 68)).cell? ⟨W0.heap.size,0,none⟩=some (.int .i64 xa):=aA (aE W0 _) (i:=0) rfl
  have k1:(W0.alloc (.cells #[.int .i64 xa,.int .i64 xb] 68)).cell? ⟨W0.heap.size,1,none⟩=some (.int .i64 xb):=aA (aE W0 _) (i:=1) rfl
  clear hk hnp hbd
  go_wp2
  generalize hW1:W0.alloc (.cells #[.int .i64 xa,.int .i64 xb] 68)=W1 at T1 l3 l4 l5 q2 q3 k0 k1 ⊢
  clear hW1
  refine aW (List.cons_ne_nil _ _) (by kernel_rfl) (by kernel_rfl) (by kernel_rfl) ?_
  dsimp only [List.dropLast,List.getLast]
  repeat (go_big_quiet_step (first | exact rfl |(go_at_call 76;exact fL (uX _ _)) |(go_at_call 79;exact fL (P1.out _))))
  refine wpQuiet_nil ?_
  intro w3 hw
  have T3:Hid (Two W w3 (0,0)):=T1.out.kept (aQ hw)
  clear hw q2 q3 k0 k1 s0 s1 s2 s3 s4 s5 s6 s7 s8 s9
  have z0:=aA T3.out.1 (i:=0) rfl
  have z1:=aA T3.out.1 (i:=1) rfl
  have y0:=aA T3.out.2.1 (i:=0) rfl
  have y1:=aA T3.out.2.1 (i:=1) rfl
  have fz:=fun z=>aG T3.out.1 z
  have fy:=fun z=>aG T3.out.2.1 z
  go_wp2
  have T6:=T3.out.put (lst (t.f.mn * xa),jH t.f.mx xb)
  refine fC (b:=W.heap.size+1) (x:=(lst (t.f.mn * xa),jH t.f.mx xb)) T6.end.1 rfl rfl ?_
  exact⟨by rw [hv.out],T6.end.2⟩
end
end Go.Proofs.YtjafnbjipgediaaGreatDoor
