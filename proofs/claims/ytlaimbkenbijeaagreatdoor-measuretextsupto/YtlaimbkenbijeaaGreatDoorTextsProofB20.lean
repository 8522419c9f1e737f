/-
  Parts of the proof.
-/
import Derived.Test.YtlaimbkenbijeaaGreatDoorTextsProofA0
import Derived.Test.YtlaimbkenbijeaaGreatDoorTextsProofB19
import Derived.Test.YtlaimbkenbijeaaGreatDoorTextsProofB17
import Derived.Test.YtlaimbkenbijeaaGreatDoorTextsProofB18
import Derived.Test.YtlaimbkenbijeaaGreatDoorTextsProofB3
import Derived.Test.YtlaimbkenbijeaaGreatDoorTextsProofB5
import Derived.Test.YtlaimbkenbijeaaGreatDoorTextsProofB2
import Derived.Test.YtlaimbkenbijeaaGreatDoorTextsProofB16
set_option maxRecDepth 100000
set_option maxHeartbeats 8000000
namespace Go.Proofs.YtlaimbkenbijeaaGreatDoor
open Go Go.RowKit
section
attribute [local go_sem] Oper.semAt_some
theorem aH7{R:Ending->World->Prop}{a:Act}{W:World}{b:Nat}{x:Bool × Bool}(h:W.heap[b]?=some (.cells #[.bool x.1,.bool x.2] 72 (0,0)))(ha:a.tmps[6]?.getD undef=.pointer (some ⟨b,0,none⟩))(hd:a.defers=[])(hR:R (.returned (enA x)) W):bodyPost Tryz.prog Tryz.f42 R .ret a W:=by
 refine bodyPost_ret (v:=enA x) ?_ hd hR
 have z0:=aA h (i:=0) rfl;have z1:=aA h (i:=1) rfl
 simp [results,Tryz.results42,go_sem,ha,enA,z0,z1]
noncomputable def tvA (ρ:dH (Bool × Bool)) (c o:Bool) (t:Tr):Bool × Bool:=if aY c o 0 0 (pp [] t)=0 then (ev ρ (fun _=>(false,false)) t).1 else (false,false)
theorem bJ5{Glo:World->Prop}(hglo:∀ {A B:World},CK A B->Glo A->Glo B){w:World}(hgw:Glo w){t:Tr}{Good:Bool × Bool->Prop}{ρ:dH (Bool × Bool)}{c o:Bool}(hta:TB w t)(hr:RuA Glo (NP c o) Good ρ c o)(hg:∀ t xs g,NP c o t->xs.length=t.ks.length->(∀ x∈xs,Good x)->(∀ i,Good (g i))->Good (ρ t.f t.ks xs g))(h0:Good (false,false)) :
  Calls Tryz.prog 42 #[.agg #[.int .i64 t.f.k,.int .i64 t.f.n,.int .i64 t.f.mn,.int .i64 t.f.mx,.slice t.f.rq t.f.rs.length t.f.rc,.slice t.f.kq t.f.kl t.f.kc],.agg #[.bool c,.bool o],.func (.func 43) #[] #[]] w fun e w'=>e=.returned (enA (tvA ρ c o t))/\Below w.heap.size w w':=by
 have HTA:=aD hta
 have HGW:=aD hgw
 have HR:=aD hr
 clear hgw
 have HG:=aD hg
 have H0:=aD h0
 clear hta hr hg h0
 by_cases hz:aY c o 0 0 (pp [] t)=0
 ·have HV:Hid (tvA ρ c o t=(ev ρ (fun _=>(false,false)) t).1):=if_pos hz
  have HZ:=aD hz
  clear hz
  have hmm:=@run_makeMap Tryz.prog
  go_enter Tryz.func42,Tryz.ntmps42
  go_upto_region 8 with (go_at_call 53;refine(eE c o (HTA.out.kept ((((bz9).alloc (by simp only [a7];omega) _).alloc (by simp only [a7];omega) _).alloc (by simp only [a7];omega) _))).mono ?_;rintro e w1 ⟨rfl,h1⟩;have B1:=aD h1;clear h1;have rz:=HZ.out)
  have l1:((((w.alloc (.cells #[.int .i64 t.f.k,.int .i64 t.f.n,.int .i64 t.f.mn,.int .i64 t.f.mx,.slice t.f.rq t.f.rs.length t.f.rc,.slice t.f.kq t.f.kl t.f.kc] 25)).alloc (.cells #[.bool c,.bool o] 27)).alloc (.cells #[.func (.func 43) #[] #[]] 74)).alloc (.cells #[.bool false,.bool false] 72)).heap.size<=w1.heap.size:=B1.out.size
  simp only [a7] at l1
  have b1:w1.heap[w.heap.size]?=some (.cells #[.int .i64 t.f.k,.int .i64 t.f.n,.int .i64 t.f.mn,.int .i64 t.f.mx,.slice t.f.rq t.f.rs.length t.f.rc,.slice t.f.kq t.f.kl t.f.kc] 25 (0,0)):=(B1.out.block _ (by simp only [a7];omega)).trans (by(repeat (first | exact aK _ (by first | rfl | simp only [a7]) | rw [Below.heap_alloc _ _ _ (by first | omega |(simp only [a7];omega))])))
  have b2:w1.heap[w.heap.size+1]?=some (.cells #[.bool c,.bool o] 27 (0,0)):=(B1.out.block _ (by simp only [a7];omega)).trans (by(repeat (first | exact aK _ (by first | rfl | simp only [a7]) | rw [Below.heap_alloc _ _ _ (by first | omega |(simp only [a7];omega))])))
  have b3:w1.heap[w.heap.size+1+1]?=some (.cells #[.func (.func 43) #[] #[]] 74 (0,0)):=(B1.out.block _ (by simp only [a7];omega)).trans (by(repeat (first | exact aK _ (by first | rfl | simp only [a7]) | rw [Below.heap_alloc _ _ _ (by first | omega |(simp only [a7];omega))])))
  have b4:w1.heap[w.heap.size+1+1+1]?=some (.cells #[.bool false,.bool false] 72 (0,0)):=(B1.out.block _ (by simp only [a7];omega)).trans (by(repeat (first | exact aK _ (by first | rfl | simp only [a7]) | rw [Below.heap_alloc _ _ _ (by first | omega |(simp only [a7];omega))])))
  have TT:Hid (TWA ((((w1.alloc (.map #[] 0)).alloc (.cells #[.map (some w1.heap.size)] 127)).alloc (.cells #[.func (.func 80) #[] #[.pointer (some ⟨w1.heap.size+1,0,none⟩)]] 128)).alloc (.cells #[.func (.func 81) #[] #[.pointer (some ⟨w.heap.size+1,0,none⟩),.pointer (some ⟨w1.heap.size+1+1,0,none⟩),.pointer (some ⟨w1.heap.size+1+1+1,0,none⟩),.pointer (some ⟨w.heap.size+1+1,0,none⟩),.pointer (some ⟨w1.heap.size+1,0,none⟩)]] 129)) (w.heap.size+1) (w1.heap.size+1+1) (w1.heap.size+1+1+1) (w.heap.size+1+1) (w1.heap.size+1) w1.heap.size c o):=⟨by rw [<- b2];(repeat (first | exact aK _ (by first | rfl | simp only [a7]) | rw [Below.heap_alloc _ _ _ (by first | omega |(simp only [a7];omega))])),by(repeat (first | exact aK _ (by first | rfl | simp only [a7]) | rw [Below.heap_alloc _ _ _ (by first | omega |(simp only [a7];omega))])),by(repeat (first | exact aK _ (by first | rfl | simp only [a7]) | rw [Below.heap_alloc _ _ _ (by first | omega |(simp only [a7];omega))])),by rw [<- b3];(repeat (first | exact aK _ (by first | rfl | simp only [a7]) | rw [Below.heap_alloc _ _ _ (by first | omega |(simp only [a7];omega))])),by(repeat (first | exact aK _ (by first | rfl | simp only [a7]) | rw [Below.heap_alloc _ _ _ (by first | omega |(simp only [a7];omega))]))⟩
  have BX:Hid (Below w1.heap.size w1 ((((w1.alloc (.map #[] 0)).alloc (.cells #[.map (some w1.heap.size)] 127)).alloc (.cells #[.func (.func 80) #[] #[.pointer (some ⟨w1.heap.size+1,0,none⟩)]] 128)).alloc (.cells #[.func (.func 81) #[] #[.pointer (some ⟨w.heap.size+1,0,none⟩),.pointer (some ⟨w1.heap.size+1+1,0,none⟩),.pointer (some ⟨w1.heap.size+1+1+1,0,none⟩),.pointer (some ⟨w.heap.size+1+1,0,none⟩),.pointer (some ⟨w1.heap.size+1,0,none⟩)]] 129))):=(((bz9).alloc (by simp only [a7];omega) _).alloc (by simp only [a7];omega) _).alloc (by simp only [a7];omega) _
  have MM:Hid (MapV ((((w1.alloc (.map #[] 0)).alloc (.cells #[.map (some w1.heap.size)] 127)).alloc (.cells #[.func (.func 80) #[] #[.pointer (some ⟨w1.heap.size+1,0,none⟩)]] 128)).alloc (.cells #[.func (.func 81) #[] #[.pointer (some ⟨w.heap.size+1,0,none⟩),.pointer (some ⟨w1.heap.size+1+1,0,none⟩),.pointer (some ⟨w1.heap.size+1+1+1,0,none⟩),.pointer (some ⟨w.heap.size+1+1,0,none⟩),.pointer (some ⟨w1.heap.size+1,0,none⟩)]] 129)) (.agg #[.bool false,.bool false]) w1.heap.size 0 (fun _=>enA (false,false))):=(((MapV.made w1 (.agg #[.bool false,.bool false])).kept (bz9)).kept (bz9)).kept (bz9)
  have BN:=aD ((BX.out.block _ (aB b1)).trans b1)
  have BR:=aD ((BX.out.block _ (aB b4)).trans b4)
  generalize hWX:((((w1.alloc (.map #[] 0)).alloc (.cells #[.map (some w1.heap.size)] 127)).alloc (.cells #[.func (.func 80) #[] #[.pointer (some ⟨w1.heap.size+1,0,none⟩)]] 128)).alloc (.cells #[.func (.func 81) #[] #[.pointer (some ⟨w.heap.size+1,0,none⟩),.pointer (some ⟨w1.heap.size+1+1,0,none⟩),.pointer (some ⟨w1.heap.size+1+1+1,0,none⟩),.pointer (some ⟨w.heap.size+1+1,0,none⟩),.pointer (some ⟨w1.heap.size+1,0,none⟩)]] 129))=WX at TT BX MM BN BR ⊢
  clear hWX b1 b2 b3 b4
  have B9:Hid (Below w.heap.size w WX):=aJ (aJ ((((bz9).alloc (by simp only [a7];omega) _).alloc (by simp only [a7];omega) _).alloc (by simp only [a7];omega) _) B1.out lz9) BX.out lz9
  have hO:=bP6 hglo HR.out (fun t h k=>h.wf k) HG.out (w.heap.size+1) (w1.heap.size+1+1) (w1.heap.size+1+1+1) (w.heap.size+1+1) (w1.heap.size+1) w1.heap.size t.sz t WX 0 (fun _=>(false,false)) lz9 (by have:=iQ HZ.out;omega) (hglo (CK.of_below B9.out) HGW.out) (HTA.out.kept B9.out) (gC HZ.out) (fun _=>H0.out) TT.out MM.out
  obtain⟨x,hx⟩:∃ x,tvA ρ c o t=x:=⟨_,rfl⟩
  have HC:Hid (Calls Tryz.prog 81 #[.agg #[.int .i64 t.f.k,.int .i64 t.f.n,.int .i64 t.f.mn,.int .i64 t.f.mx,.slice t.f.rq t.f.rs.length t.f.rc,.slice t.f.kq t.f.kl t.f.kc],.pointer (some ⟨w.heap.size+1,0,none⟩),.pointer (some ⟨w1.heap.size+1+1,0,none⟩),.pointer (some ⟨w1.heap.size+1+1+1,0,none⟩),.pointer (some ⟨w.heap.size+1+1,0,none⟩),.pointer (some ⟨w1.heap.size+1,0,none⟩)] WX (fun e w'=>e=.returned (.agg #[.bool x.1,.bool x.2])/\Fr (fun k=>k=w1.heap.size) WX w')):=aD (hO.mono fun e w' h=>⟨by rw [h.1,<- HV.out,hx];rfl,h.2.2⟩)
  have HX:=aD hx
  clear hO hx
  have o0:WX.cell? ⟨w1.heap.size+1+1+1,0,none⟩=some (.func (.func 81) #[] #[.pointer (some ⟨w.heap.size+1,0,none⟩),.pointer (some ⟨w1.heap.size+1+1,0,none⟩),.pointer (some ⟨w1.heap.size+1+1+1,0,none⟩),.pointer (some ⟨w.heap.size+1+1,0,none⟩),.pointer (some ⟨w1.heap.size+1,0,none⟩)]):=aA TT.out.o (i:=0) rfl
  have n0:WX.cell? ⟨w.heap.size,0,none⟩=some (.int .i64 t.f.k):=aA BN.out (i:=0) rfl
  have n1:WX.cell? ⟨w.heap.size,1,none⟩=some (.int .i64 t.f.n):=aA BN.out (i:=1) rfl
  have n2:WX.cell? ⟨w.heap.size,2,none⟩=some (.int .i64 t.f.mn):=aA BN.out (i:=2) rfl
  have n3:WX.cell? ⟨w.heap.size,3,none⟩=some (.int .i64 t.f.mx):=aA BN.out (i:=3) rfl
  have n4:WX.cell? ⟨w.heap.size,4,none⟩=some (.slice t.f.rq t.f.rs.length t.f.rc):=aA BN.out (i:=4) rfl
  have n5:WX.cell? ⟨w.heap.size,5,none⟩=some (.slice t.f.kq t.f.kl t.f.kc):=aA BN.out (i:=5) rfl
  go_wp2_with (go_at_call 81;refine HC.out.mono ?_;rintro e w5 ⟨rfl,h5⟩;have F5:=aD h5;clear h5;have R5:Hid (w5.heap[w.heap.size+1+1+1]?=some (.cells #[.bool false,.bool false] 72 (0,0))):=(F5.out.block _ (aB BR.out) (fun e=>by omega)).trans BR.out;have z0:=aA R5.out (i:=0) rfl;have z1:=aA R5.out (i:=1) rfl;have fz:=fun z=>aG R5.out z)
  refine aH7 (b:=w.heap.size+1+1+1) (x:=x) (bA R5.out [.bool x.1,.bool x.2] rfl) rfl rfl ?_
  exact⟨by rw [HX.out],bC (bC B9.out F5.out lz9 (fun k e=>by rw [e];exact i8 (by omega) l1)) (aV (w.heap.size+1+1+1) [.bool x.1,.bool x.2] 0 w5) lz9 (fun k e=>by omega)⟩
 ·have HV:Hid (tvA ρ c o t=(false,false)):=if_neg hz
  have HZ:=aD hz
  obtain⟨r,hrr⟩:∃ r,aY c o 0 0 (pp [] t)=r:=⟨_,rfl⟩
  have rz:(r==0)=false:=by rw [<- hrr];simpa using hz
  have rz2:(r != 0)=true:=by rw [bne,rz];rfl
  have HQ:=aD hrr
  clear hz hrr
  go_enter Tryz.func42,Tryz.ntmps42
  go_wp2_with (go_at_call 53;refine(eE c o (HTA.out.kept ((((bz9).alloc (by simp only [a7];omega) _).alloc (by simp only [a7];omega) _).alloc (by simp only [a7];omega) _))).mono ?_;rw [HQ.out];rintro e w1 ⟨rfl,h1⟩;have B1:=aD h1;clear h1;have l1:((((w.alloc (.cells #[.int .i64 t.f.k,.int .i64 t.f.n,.int .i64 t.f.mn,.int .i64 t.f.mx,.slice t.f.rq t.f.rs.length t.f.rc,.slice t.f.kq t.f.kl t.f.kc] 25)).alloc (.cells #[.bool c,.bool o] 27)).alloc (.cells #[.func (.func 43) #[] #[]] 74)).alloc (.cells #[.bool false,.bool false] 72)).heap.size<=w1.heap.size:=B1.out.size;simp only [a7] at l1;have RA:Hid ((w1.alloc (.cells #[.bool false,.bool false] 72)).heap[w.heap.size+1+1+1]?=some (.cells #[.bool false,.bool false] 72 (0,0))):=(Below.heap_alloc _ _ _ (by omega)).trans ((B1.out.block _ (by simp only [a7];omega)).trans (by(repeat (first | exact aK _ (by first | rfl | simp only [a7]) | rw [Below.heap_alloc _ _ _ (by first | omega |(simp only [a7];omega))]))));have z0:=aA RA.out (i:=0) rfl;have z1:=aA RA.out (i:=1) rfl;have fz:=fun z=>aG RA.out z)
  refine aH7 (b:=w.heap.size+1+1+1) (x:=(false,false)) (bA RA.out [.bool false,.bool false] rfl) rfl rfl ?_
  exact⟨by rw [HV.out],bC ((aJ ((((bz9).alloc (by simp only [a7];omega) _).alloc (by simp only [a7];omega) _).alloc (by simp only [a7];omega) _) B1.out lz9).alloc (by have:=(aJ ((((bz9).alloc (by simp only [a7];omega) _).alloc (by simp only [a7];omega) _).alloc (by simp only [a7];omega) _) B1.out lz9).size;omega) _) (aV (w.heap.size+1+1+1) [.bool false,.bool false] 0 _) lz9 (fun k e=>by omega)⟩
end
section
attribute [local go_sem] Oper.semAt_some bB
def bP1(_:Bool × Bool):Prop:=True
def hP:dH (Bool × Bool):=fun f _ xs _=>
 if f.k=3 then (true,false) else if f.k=4 then (false,true) else if f.k=5 then ((xs.headD (false,false)).1,(xs.getLastD (false,false)).2) else if f.k=6 then (xs.all (·.1),xs.all (·.2))
 else if f.k=7 then xs.headD (false,false) else if f.k=9 then (if 0 < f.mn then xs.headD (false,false) else (false,false)) else (false,false)
theorem gS{R:Ending->World->Prop}{a:Act}{W:World}{b:Nat}{x:Bool × Bool}(h:W.heap[b]?=some (.cells #[.bool x.1,.bool x.2] 72 (0,0)))(ha:a.tmps[2]?.getD undef=.pointer (some ⟨b,0,none⟩))(hd:a.defers=[])(hR:R (.returned (enA x)) W):bodyPost Tryz.prog Tryz.f43 R .ret a W:=by
 refine bodyPost_ret (v:=enA x) ?_ hd hR
 have z0:=aA h (i:=0) rfl;have z1:=aA h (i:=1) rfl
 simp [results,Tryz.results43,go_sem,ha,enA,z0,z1]
def TwoA(W V:World)(x:Bool × Bool):Prop:=V.heap[W.heap.size+1]?=some (.cells #[.bool false,.bool false] 72 (0,0))/\V.heap[W.heap.size+1+1]?=some (.cells #[.bool x.1,.bool x.2] 72 (0,0))/\Below W.heap.size W V
theorem TwoA.put{W V:World}{x:Bool × Bool}(h:TwoA W V x)(y:Bool × Bool):TwoA W (bD V (W.heap.size+1+1) 0 [.bool y.1,.bool y.2]) y:=
 ⟨((aV _ _ 0 V).block _ (aB h.1) (by omega)).trans h.1,bA h.2.1 [.bool y.1,.bool y.2] rfl,bC h.2.2 (aV _ _ 0 V) lz9 (fun k e=>by omega)⟩
theorem TwoA.kept{W V V':World}{x:Bool × Bool}(h:TwoA W V x)(hb:Below V.heap.size V V'):TwoA W V' x:=
 ⟨(hb.block _ (aB h.1)).trans h.1,(hb.block _ (aB h.2.1)).trans h.2.1,aJ h.2.2 hb lz9⟩
theorem TwoA.set0{W V:World}{x:Bool × Bool}(h:TwoA W V x)(b:Bool):TwoA W (V.setCell ⟨W.heap.size+1+1,0,none⟩ (.bool b)) (b,x.2):=
 ⟨(((Fr.refl (fun k=>k=W.heap.size+1+1) V).setCell (p:=⟨W.heap.size+1+1,0,none⟩) rfl _).block _ (aB h.1) (by omega)).trans h.1,aO h.2.1 0 _,bC h.2.2 ((Fr.refl (fun k=>k=W.heap.size+1+1) V).setCell (p:=⟨W.heap.size+1+1,0,none⟩) rfl _) lz9 (fun k e=>by omega)⟩
theorem TwoA.set1{W V:World}{x:Bool × Bool}(h:TwoA W V x)(b:Bool):TwoA W (V.setCell ⟨W.heap.size+1+1,1,none⟩ (.bool b)) (x.1,b):=
 ⟨(((Fr.refl (fun k=>k=W.heap.size+1+1) V).setCell (p:=⟨W.heap.size+1+1,1,none⟩) rfl _).block _ (aB h.1) (by omega)).trans h.1,aO h.2.1 1 _,bC h.2.2 ((Fr.refl (fun k=>k=W.heap.size+1+1) V).setCell (p:=⟨W.heap.size+1+1,1,none⟩) rfl _) lz9 (fun k e=>by omega)⟩
theorem TwoA.end{W V:World}{x:Bool × Bool}(h:TwoA W V x):(bD V (W.heap.size+1) 0 [.bool x.1,.bool x.2]).heap[W.heap.size+1]?=some (.cells #[.bool x.1,.bool x.2] 72 (0,0))/\Below W.heap.size W (bD V (W.heap.size+1) 0 [.bool x.1,.bool x.2]):=
 ⟨bA h.1 [.bool x.1,.bool x.2] rfl,bC h.2.2 (aV _ _ 0 V) lz9 (fun k e=>by omega)⟩
theorem aF9(c o:Bool):RuA (fun _=>True) (NP c o) bP1 hP c o:=by
 intro t xs g W v bp bb n base _ hnp hsz hnb hlen hgx hgg hown hp hm
 obtain⟨qv,cv,rfl⟩:=aZ hown
 have HLEN:=aD hlen
 have hxl:xs.length<=1000000:=by rw [hlen];exact hsz
 have hc:∀ (i:Nat) (x:Bool × Bool),xs[i]?=some x->∃ gb,qv=some ⟨gb,0,none⟩/\gb < W.heap.size/\W.cell? ⟨gb,i * 2,none⟩=some (.bool x.1)/\W.cell? ⟨gb,i * 2+1,none⟩=some (.bool x.2):=fun i x hx=>by
  have hi:=(i5.1 hx).1
  obtain⟨gb,cb,e⟩:=aL hown (by omega)
  injection e with e1 e2 e3
  subst e1 e3
  have p1:=kW (fun x:Bool × Bool=>[Value.bool x.1,.bool x.2]) 2 (fun _=>rfl) xs i x hx 0 (by decide)
  have p2:=kW (fun x:Bool × Bool=>[Value.bool x.1,.bool x.2]) 2 (fun _=>rfl) xs i x hx 1 (by decide)
  exact⟨gb,rfl,(aH hown rfl).2.1,aU hown p1,aU hown p2⟩
 have HC:=aD hc
 clear hown hnb hgx hgg hp hm hlen hc hsz
 unfold dE
 go_enter Tryz.func43,Tryz.ntmps43
 go_upto_region 3 with fail
 have S0:Hid ((((W.alloc (.cells #[.int .i64 t.f.k,.int .i64 t.f.n,.int .i64 t.f.mn,.int .i64 t.f.mx,.slice t.f.rq t.f.rs.length t.f.rc,.slice t.f.kq t.f.kl t.f.kc,.bool c,.bool o,.slice qv xs.length cv,.func (.func 80) #[] #[bx bp]] 132)).alloc (.cells #[.bool false,.bool false] 72)).alloc (.cells #[.bool false,.bool false] 72)).heap[W.heap.size]?=some (.cells #[.int .i64 t.f.k,.int .i64 t.f.n,.int .i64 t.f.mn,.int .i64 t.f.mx,.slice t.f.rq t.f.rs.length t.f.rc,.slice t.f.kq t.f.kl t.f.kc,.bool c,.bool o,.slice qv xs.length cv,.func (.func 80) #[] #[bx bp]] 132 (0,0))):=(by(repeat (first | exact aK _ (by first | rfl | simp only [a7]) | rw [Below.heap_alloc _ _ _ (by first | omega |(simp only [a7];omega))])))
 have T0:Hid (TwoA W (((W.alloc (.cells #[.int .i64 t.f.k,.int .i64 t.f.n,.int .i64 t.f.mn,.int .i64 t.f.mx,.slice t.f.rq t.f.rs.length t.f.rc,.slice t.f.kq t.f.kl t.f.kc,.bool c,.bool o,.slice qv xs.length cv,.func (.func 80) #[] #[bx bp]] 132)).alloc (.cells #[.bool false,.bool false] 72)).alloc (.cells #[.bool false,.bool false] 72)) (false,false)):=⟨(Below.heap_alloc _ _ _ (by simp only [a7];omega)).trans (aK _ (by simp only [a7])),aK _ (by simp only [a7]),((bz9).alloc (by simp only [a7];omega) _).alloc (by simp only [a7];omega) _⟩
 have l0:W.heap.size < (((W.alloc (.cells #[.int .i64 t.f.k,.int .i64 t.f.n,.int .i64 t.f.mn,.int .i64 t.f.mx,.slice t.f.rq t.f.rs.length t.f.rc,.slice t.f.kq t.f.kl t.f.kc,.bool c,.bool o,.slice qv xs.length cv,.func (.func 80) #[] #[bx bp]] 132)).alloc (.cells #[.bool false,.bool false] 72)).alloc (.cells #[.bool false,.bool false] 72)).heap.size:=by simp only [a7];omega
 have l1:W.heap.size+1 < (((W.alloc (.cells #[.int .i64 t.f.k,.int .i64 t.f.n,.int .i64 t.f.mn,.int .i64 t.f.mx,.slice t.f.rq t.f.rs.length t.f.rc,.slice t.f.kq t.f.kl t.f.kc,.bool c,.bool o,.slice qv xs.length cv,.func (.func 80) #[] #[bx bp]] 132)).alloc (.cells #[.bool false,.bool false] 72)).alloc (.cells #[.bool false,.bool false] 72)).heap.size:=by simp only [a7];omega
 have l2:W.heap.size+1+1 < (((W.alloc (.cells #[.int .i64 t.f.k,.int .i64 t.f.n,.int .i64 t.f.mn,.int .i64 t.f.mx,.slice t.f.rq t.f.rs.length t.f.rc,.slice t.f.kq t.f.kl t.f.kc,.bool c,.bool o,.slice qv xs.length cv,.func (.func 80) #[] #[bx bp]] 132)).alloc (.cells #[.bool false,.bool false] 72)).alloc (.cells #[.bool false,.bool false] 72)).heap.size:=by simp only [a7];omega
 generalize hW0:(((W.alloc (.cells #[.int .i64 t.f.k,.int .i64 t.f.n,.int .i64 t.f.mn,.int .i64 t.f.mx,.slice t.f.rq t.f.rs.length t.f.rc,.slice t.f.kq t.f.kl t.f.kc,.bool c,.bool o,.slice qv xs.length cv,.func (.func 80) #[] #[bx bp]] 132)).alloc (.cells #[.bool false,.bool false] 72)).alloc (.cells #[.bool false,.bool false] 72))=W0 at S0 T0 l0 l1 l2 ⊢
 clear hW0
 have s0:W0.cell? ⟨W.heap.size,0,none⟩=some (.int .i64 t.f.k):=aA S0.out (i:=0) rfl
 have s1:W0.cell? ⟨W.heap.size,1,none⟩=some (.int .i64 t.f.n):=aA S0.out (i:=1) rfl
 have s2:W0.cell? ⟨W.heap.size,2,none⟩=some (.int .i64 t.f.mn):=aA S0.out (i:=2) rfl
 have s3:W0.cell? ⟨W.heap.size,3,none⟩=some (.int .i64 t.f.mx):=aA S0.out (i:=3) rfl
 have s4:W0.cell? ⟨W.heap.size,4,none⟩=some (.slice t.f.rq t.f.rs.length t.f.rc):=aA S0.out (i:=4) rfl
 have s5:W0.cell? ⟨W.heap.size,5,none⟩=some (.slice t.f.kq t.f.kl t.f.kc):=aA S0.out (i:=5) rfl
 have s6:W0.cell? ⟨W.heap.size,6,none⟩=some (.bool c):=aA S0.out (i:=6) rfl
 have s7:W0.cell? ⟨W.heap.size,7,none⟩=some (.bool o):=aA S0.out (i:=7) rfl
 have s8:W0.cell? ⟨W.heap.size,8,none⟩=some (.slice qv xs.length cv):=aA S0.out (i:=8) rfl
 have s9:W0.cell? ⟨W.heap.size,9,none⟩=some (.func (.func 80) #[] #[bx bp]):=aA S0.out (i:=9) rfl
 rcases hQ hnp with hk | hk | hk | hk | hk | hk | hk | hk | hk
 ·have hv:Hid (hP t.f t.ks xs g=(false,false)):=(by unfold hP;rw [hk];rfl)
  have e3:(t.f.k==3)=false:=by rw [hk];rfl
  have e4:(t.f.k==4)=false:=by rw [hk];rfl
  have e5:(t.f.k==5)=false:=by rw [hk];rfl
  have e6:(t.f.k==6)=false:=by rw [hk];rfl
  have e7:(t.f.k==7)=false:=by rw [hk];rfl
  have e9:(t.f.k==9)=false:=by rw [hk];rfl
  clear hk hnp
  have z0:=aA T0.out.1 (i:=0) rfl
  have z1:=aA T0.out.1 (i:=1) rfl
  have y0:=aA T0.out.2.1 (i:=0) rfl
  have y1:=aA T0.out.2.1 (i:=1) rfl
  have fz:=fun z=>aG T0.out.1 z
  have fy:=fun z=>aG T0.out.2.1 z
  go_wp2
  refine gS (b:=W.heap.size+1) (x:=(false,false)) T0.out.end.1 rfl rfl ?_
  exact⟨by rw [hv.out],T0.out.end.2⟩
 ·have hv:Hid (hP t.f t.ks xs g=(false,false)):=(by unfold hP;rw [hk];rfl)
  have e3:(t.f.k==3)=false:=by rw [hk];rfl
  have e4:(t.f.k==4)=false:=by rw [hk];rfl
  have e5:(t.f.k==5)=false:=by rw [hk];rfl
  have e6:(t.f.k==6)=false:=by rw [hk];rfl
  have e7:(t.f.k==7)=false:=by rw [hk];rfl
  have e9:(t.f.k==9)=false:=by rw [hk];rfl
  clear hk hnp
  have z0:=aA T0.out.1 (i:=0) rfl
  have z1:=aA T0.out.1 (i:=1) rfl
  have y0:=aA T0.out.2.1 (i:=0) rfl
  have y1:=aA T0.out.2.1 (i:=1) rfl
  have fz:=fun z=>aG T0.out.1 z
  have fy:=fun z=>aG T0.out.2.1 z
  go_wp2
  refine gS (b:=W.heap.size+1) (x:=(false,false)) T0.out.end.1 rfl rfl ?_
  exact⟨by rw [hv.out],T0.out.end.2⟩
 ·have hv:Hid (hP t.f t.ks xs g=(true,false)):=(by unfold hP;rw [hk];rfl)
  have e3:(t.f.k==3)=true:=by rw [hk];rfl
  have e4:(t.f.k==4)=false:=by rw [hk];rfl
  have e5:(t.f.k==5)=false:=by rw [hk];rfl
  have e6:(t.f.k==6)=false:=by rw [hk];rfl
  have e7:(t.f.k==7)=false:=by rw [hk];rfl
  have e9:(t.f.k==9)=false:=by rw [hk];rfl
  clear hk hnp
  have z0:=aA T0.out.1 (i:=0) rfl
  have z1:=aA T0.out.1 (i:=1) rfl
  have y0:=aA T0.out.2.1 (i:=0) rfl
  have y1:=aA T0.out.2.1 (i:=1) rfl
  have fz:=fun z=>aG T0.out.1 z
  have fy:=fun z=>aG T0.out.2.1 z
  go_wp2
  have T6:=T0.out.set0 true
  refine gS (b:=W.heap.size+1) (x:=(true,false)) T6.end.1 rfl rfl ?_
  exact⟨by rw [hv.out],T6.end.2⟩
 ·have hv:Hid (hP t.f t.ks xs g=(false,true)):=(by unfold hP;rw [hk];rfl)
  have e3:(t.f.k==3)=false:=by rw [hk];rfl
  have e4:(t.f.k==4)=true:=by rw [hk];rfl
  have e5:(t.f.k==5)=false:=by rw [hk];rfl
  have e6:(t.f.k==6)=false:=by rw [hk];rfl
  have e7:(t.f.k==7)=false:=by rw [hk];rfl
  have e9:(t.f.k==9)=false:=by rw [hk];rfl
  clear hk hnp
  have z0:=aA T0.out.1 (i:=0) rfl
  have z1:=aA T0.out.1 (i:=1) rfl
  have y0:=aA T0.out.2.1 (i:=0) rfl
  have y1:=aA T0.out.2.1 (i:=1) rfl
  have fz:=fun z=>aG T0.out.1 z
  have fy:=fun z=>aG T0.out.2.1 z
  go_wp2
  have T6:=T0.out.set1 true
  refine gS (b:=W.heap.size+1) (x:=(false,true)) T6.end.1 rfl rfl ?_
  exact⟨by rw [hv.out],T6.end.2⟩
 ·have hmany:=rC hnp (.inl hk)
  rw [<- HLEN.out] at hmany
  obtain⟨⟨xa,xb⟩,hx⟩:∃ x,xs[0]?=some x:=⟨_,g9 (by omega)⟩
  obtain⟨⟨ya,yb⟩,hy⟩:∃ x,xs[xs.length - 1]?=some x:=⟨_,g9 (by omega)⟩
  have hv:Hid (hP t.f t.ks xs g=(xa,yb)):=(by
   have a1:xs.headD (false,false)=(xa,xb):=by
    match xs,hx with
    | y :: ys,h=>simp at h;simp [h]
   have a2:xs.getLastD (false,false)=(ya,yb):=by
    rw [List.getLastD_eq_getLast?,List.getLast?_eq_getElem?,hy];rfl
   unfold hP
   rw [hk,a1,a2]
   rfl)
  obtain⟨m,hml⟩:∃ m,xs.length=m+1:=⟨xs.length - 1,by omega⟩
  rw [hml] at hy hmany hxl
  rw [hml] at s8 ⊢
  obtain⟨gb,rfl,hg,c1,-⟩:=HC.out 0 _ hx
  obtain⟨gb',egb,-,-,c2⟩:=HC.out m _ (by simpa using hy)
  injection egb with egb
  injection egb with egb
  subst egb
  simp only [aAK] at c1
  have d1:=(T0.out.2.2.cell (p:=⟨gb,0,none⟩) hg).trans c1
  have d2:=(T0.out.2.2.cell (p:=⟨gb,m * 2+1,none⟩) hg).trans c2
  simp only at d1 d2
  have hg0:gb < W0.heap.size:=i6 hg T0.out.2.2.size
  have i1:IntKind.wrap .i64 ((m:Int)+1 - 1)=(m:Int):=by rw [IntKind.wrap_i64];omega
  have e3:(t.f.k==3)=false:=by rw [hk];rfl
  have e4:(t.f.k==4)=false:=by rw [hk];rfl
  have e5:(t.f.k==5)=true:=by rw [hk];rfl
  have e6:(t.f.k==6)=false:=by rw [hk];rfl
  have e7:(t.f.k==7)=false:=by rw [hk];rfl
  have e9:(t.f.k==9)=false:=by rw [hk];rfl
  clear hk hnp hx hy c1 c2 hml
  go_wp2
  refine aW (aAF _ _) (by kernel_rfl) (by kernel_rfl) (by kernel_rfl) ?_
  dsimp only [List.dropLast,List.getLast]
  repeat (go_big_quiet_step (first | exact rfl))
  refine wpQuiet_nil ?_
  intro w3 hw
  have T3:Hid (TwoA W w3 (false,false)):=T0.out.kept (aQ hw)
  clear hw s0 s1 s2 s3 s4 s5 s6 s7 s8 s9 d1 d2
  have z0:=aA T3.out.1 (i:=0) rfl
  have z1:=aA T3.out.1 (i:=1) rfl
  have y0:=aA T3.out.2.1 (i:=0) rfl
  have y1:=aA T3.out.2.1 (i:=1) rfl
  have fz:=fun z=>aG T3.out.1 z
  have fy:=fun z=>aG T3.out.2.1 z
  go_wp2
  have T6:=T3.out.put (xa,yb)
  refine gS (b:=W.heap.size+1) (x:=(xa,yb)) T6.end.1 rfl rfl ?_
  exact⟨by rw [hv.out],T6.end.2⟩
 ·have hv:Hid (hP t.f t.ks xs g=(xs.all (·.1),xs.all (·.2))):=(by unfold hP;rw [hk];rfl)
  have e3:(t.f.k==3)=false:=by rw [hk];rfl
  have e4:(t.f.k==4)=false:=by rw [hk];rfl
  have e5:(t.f.k==5)=false:=by rw [hk];rfl
  have e6:(t.f.k==6)=true:=by rw [hk];rfl
  have e7:(t.f.k==7)=false:=by rw [hk];rfl
  have e9:(t.f.k==9)=false:=by rw [hk];rfl
  clear hk hnp
  have TI:Hid (TwoA W (bD W0 (W.heap.size+1+1) 0 [.bool true,.bool true]) ((xs.take 0).all (·.1),(xs.take 0).all (·.2))):=T0.out.put (true,true)
  have SI:Hid ((bD W0 (W.heap.size+1+1) 0 [.bool true,.bool true]).heap[W.heap.size]?=W0.heap[W.heap.size]?):=(aV _ _ 0 W0).block _ l0 (by omega)
  have z0:=aA T0.out.1 (i:=0) rfl
  have z1:=aA T0.out.1 (i:=1) rfl
  have y0:=aA T0.out.2.1 (i:=0) rfl
  have y1:=aA T0.out.2.1 (i:=1) rfl
  have fz:=fun z=>aG T0.out.1 z
  have fy:=fun z=>aG T0.out.2.1 z
  go_upto_region 12 with fail
  clear z0 z1 y0 y1 fz fy
  change Code.wp _ _ _ _ (bD W0 (W.heap.size+1+1) 0 [.bool true,.bool true])
  generalize bD W0 (W.heap.size+1+1) 0 [.bool true,.bool true]=WI at TI SI ⊢
  go_loopw [38] (fun i wr=>∃ j:Nat,j<=xs.length/\i=.int .i64 (j:Int)/\TwoA W wr ((xs.take j).all (·.1),(xs.take j).all (·.2))) (fun i _=>xs.length - (intOf i).toNat)
  case atStart=>exact⟨0,m9 _,rfl,TI.out⟩
  case round=>
   obtain⟨j,hj,rfl,ht⟩:=hrel
   obtain⟨ya,hya⟩:∃ y,(xs.take j).all (·.1)=y:=⟨_,rfl⟩
   obtain⟨yb,hyb⟩:∃ y,(xs.take j).all (·.2)=y:=⟨_,rfl⟩
   rw [hya,hyb] at ht
   have TT:=aD ht
   have HY:=aD (And.intro hya hyb)
   clear ht hya hyb
   by_cases hjl:j < xs.length
   ·obtain⟨⟨xa,xb⟩,hx⟩:∃ x,xs[j]?=some x:=⟨_,g9 hjl⟩
    have FN:=aD (show ((xs.take (j+1)).all (·.1),(xs.take (j+1)).all (·.2))=(ya && xa,yb && xb) by rw [o5,hx,aAV,List.all_append,List.all_append,HY.out.1,HY.out.2];simp)
    have e1:(j:Int) < (xs.length:Int):=by omega
    obtain⟨gb,rfl,hg',c1,c2⟩:=HC.out j _ hx
    have d1:=(TT.out.2.2.cell (p:=⟨gb,j * 2,none⟩) hg').trans c1
    have d2:=(TT.out.2.2.cell (p:=⟨gb,j * 2+1,none⟩) hg').trans c2
    simp only at d1 d2
    have T1:Hid (TwoA W (wr.alloc (.cells #[.bool xa,.bool xb] 72)) (ya,yb)):=TT.out.kept (bz9)
    have k0:(wr.alloc (.cells #[.bool xa,.bool xb] 72)).cell? ⟨wr.heap.size,0,none⟩=some (.bool xa):=aA (aE wr _) (i:=0) rfl
    have k1:(wr.alloc (.cells #[.bool xa,.bool xb] 72)).cell? ⟨wr.heap.size,1,none⟩=some (.bool xb):=aA (aE wr _) (i:=1) rfl
    clear c1 c2 hx
    go_upto_region 14 with fail
    generalize hW1:wr.alloc (.cells #[.bool xa,.bool xb] 72)=W1 at T1 k0 k1 ⊢
    clear hW1 d1 d2
    cases ya with
    | true=>
     cases yb with
     | true=>
      have y0:=aA T1.out.2.1 (i:=0) rfl
      have y1:=aA T1.out.2.1 (i:=1) rfl
      have fy:=fun z=>aG T1.out.2.1 z
      go_wp2
      go_roundw
      case rel=>exact⟨j+1,by omega,by go_num,by rw [FN.out];exact T1.out.put (xa,xb)⟩
      case measure=>simp only [intOf];omega
     | false=>
      have y0:=aA T1.out.2.1 (i:=0) rfl
      have y1:=aA T1.out.2.1 (i:=1) rfl
      have fy:=fun z=>aG T1.out.2.1 z
      go_wp2
      go_roundw
      case rel=>exact⟨j+1,by omega,by go_num,by rw [FN.out];exact T1.out.put (xa,false)⟩
      case measure=>simp only [intOf];omega
    | false=>
     cases yb with
     | true=>
      have y0:=aA T1.out.2.1 (i:=0) rfl
      have y1:=aA T1.out.2.1 (i:=1) rfl
      have fy:=fun z=>aG T1.out.2.1 z
      go_wp2
      go_roundw
      case rel=>exact⟨j+1,by omega,by go_num,by rw [FN.out];exact T1.out.put (false,xb)⟩
      case measure=>simp only [intOf];omega
     | false=>
      have y0:=aA T1.out.2.1 (i:=0) rfl
      have y1:=aA T1.out.2.1 (i:=1) rfl
      have fy:=fun z=>aG T1.out.2.1 z
      go_wp2
      go_roundw
      case rel=>exact⟨j+1,by omega,by go_num,by rw [FN.out];exact T1.out.put (false,false)⟩
      case measure=>simp only [intOf];omega
   ·have e1:¬ (j:Int) < (xs.length:Int):=by omega
    rw [j9 (by omega)] at HY
    rw [HY.out.1,HY.out.2] at hv
    have z0:=aA TT.out.1 (i:=0) rfl
    have z1:=aA TT.out.1 (i:=1) rfl
    have y0:=aA TT.out.2.1 (i:=0) rfl
    have y1:=aA TT.out.2.1 (i:=1) rfl
    have fz:=fun z=>aG TT.out.1 z
    have fy:=fun z=>aG TT.out.2.1 z
    go_wp2
    refine gS (b:=W.heap.size+1) (x:=(ya,yb)) TT.out.end.1 rfl rfl ?_
    exact⟨by rw [hv.out],TT.out.end.2⟩
 ·obtain⟨x,rfl⟩:∃ x,xs=[x]:=by
   have:=fG hnp (.inl hk)
   match xs,HLEN.out with
   | [x],_=>exact⟨x,rfl⟩
   | [],e=>rw [this] at e;simp at e
   | _ :: _ :: _,e=>rw [this] at e;simp at e
  obtain⟨gb,rfl,hg,c1,c2⟩:=HC.out 0 x rfl
  simp only [aAK,g8] at c1 c2
  have d1:=(T0.out.2.2.cell (p:=⟨gb,0,none⟩) hg).trans c1
  have d2:=(T0.out.2.2.cell (p:=⟨gb,1,none⟩) hg).trans c2
  have hg0:gb < W0.heap.size:=i6 hg T0.out.2.2.size
  have ng1:gb≠W.heap.size+1:=by omega
  have ng2:gb≠W.heap.size+1+1:=by omega
  simp only [j8,List.length_nil,g8] at s8 ⊢
  obtain⟨xa,xb⟩:=x
  simp only at d1 d2
  have hv:Hid (hP t.f t.ks [(xa,xb)] g=(xa,xb)):=(by unfold hP;rw [hk];rfl)
  have e3:(t.f.k==3)=false:=by rw [hk];rfl
  have e4:(t.f.k==4)=false:=by rw [hk];rfl
  have e5:(t.f.k==5)=false:=by rw [hk];rfl
  have e6:(t.f.k==6)=false:=by rw [hk];rfl
  have e7:(t.f.k==7)=true:=by rw [hk];rfl
  have e9:(t.f.k==9)=false:=by rw [hk];rfl
  clear hk hnp
  have z0:=aA T0.out.1 (i:=0) rfl
  have z1:=aA T0.out.1 (i:=1) rfl
  have y0:=aA T0.out.2.1 (i:=0) rfl
  have y1:=aA T0.out.2.1 (i:=1) rfl
  have fz:=fun z=>aG T0.out.1 z
  have fy:=fun z=>aG T0.out.2.1 z
  go_wp2
  have T6:=T0.out.put (xa,xb)
  refine gS (b:=W.heap.size+1) (x:=(xa,xb)) T6.end.1 rfl rfl ?_
  exact⟨by rw [hv.out],T6.end.2⟩
 ·have hv:Hid (hP t.f t.ks xs g=(false,false)):=(by unfold hP;rw [hk];rfl)
  have e3:(t.f.k==3)=false:=by rw [hk];rfl
  have e4:(t.f.k==4)=false:=by rw [hk];rfl
  have e5:(t.f.k==5)=false:=by rw [hk];rfl
  have e6:(t.f.k==6)=false:=by rw [hk];rfl
  have e7:(t.f.k==7)=false:=by rw [hk];rfl
  have e9:(t.f.k==9)=false:=by rw [hk];rfl
  clear hk hnp
  have z0:=aA T0.out.1 (i:=0) rfl
  have z1:=aA T0.out.1 (i:=1) rfl
  have y0:=aA T0.out.2.1 (i:=0) rfl
  have y1:=aA T0.out.2.1 (i:=1) rfl
  have fz:=fun z=>aG T0.out.1 z
  have fy:=fun z=>aG T0.out.2.1 z
  go_wp2
  refine gS (b:=W.heap.size+1) (x:=(false,false)) T0.out.end.1 rfl rfl ?_
  exact⟨by rw [hv.out],T0.out.end.2⟩
 ·obtain⟨x,rfl⟩:∃ x,xs=[x]:=by
   have:=fG hnp (.inr hk)
   match xs,HLEN.out with
   | [x],_=>exact⟨x,rfl⟩
   | [],e=>rw [this] at e;simp at e
   | _ :: _ :: _,e=>rw [this] at e;simp at e
  obtain⟨gb,rfl,hg,c1,c2⟩:=HC.out 0 x rfl
  simp only [aAK,g8] at c1 c2
  have d1:=(T0.out.2.2.cell (p:=⟨gb,0,none⟩) hg).trans c1
  have d2:=(T0.out.2.2.cell (p:=⟨gb,1,none⟩) hg).trans c2
  have hg0:gb < W0.heap.size:=i6 hg T0.out.2.2.size
  have ng1:gb≠W.heap.size+1:=by omega
  have ng2:gb≠W.heap.size+1+1:=by omega
  simp only [j8,List.length_nil,g8] at s8 ⊢
  obtain⟨xa,xb⟩:=x
  simp only at d1 d2
  have e3:(t.f.k==3)=false:=by rw [hk];rfl
  have e4:(t.f.k==4)=false:=by rw [hk];rfl
  have e5:(t.f.k==5)=false:=by rw [hk];rfl
  have e6:(t.f.k==6)=false:=by rw [hk];rfl
  have e7:(t.f.k==7)=false:=by rw [hk];rfl
  have e9:(t.f.k==9)=true:=by rw [hk];rfl
  have z0:=aA T0.out.1 (i:=0) rfl
  have z1:=aA T0.out.1 (i:=1) rfl
  have y0:=aA T0.out.2.1 (i:=0) rfl
  have y1:=aA T0.out.2.1 (i:=1) rfl
  have fz:=fun z=>aG T0.out.1 z
  have fy:=fun z=>aG T0.out.2.1 z
  by_cases hm:0 < t.f.mn
  ·have hv:=aD (show hP t.f t.ks [(xa,xb)] g=(xa,xb) by unfold hP;rw [hk];simp [hm])
   clear hk hnp
   go_wp2
   have T6:=T0.out.put (xa,xb)
   refine gS (b:=W.heap.size+1) (x:=(xa,xb)) T6.end.1 rfl rfl ?_
   exact⟨by rw [hv.out],T6.end.2⟩
  ·have hv:=aD (show hP t.f t.ks [(xa,xb)] g=(false,false) by unfold hP;rw [hk];simp [hm])
   clear hk hnp
   go_wp2
   refine gS (b:=W.heap.size+1) (x:=(false,false)) T0.out.end.1 rfl rfl ?_
   exact⟨by rw [hv.out],T0.out.end.2⟩
end
section
attribute [local go_sem] Oper.semAt_some
def fb(x:Int):Int:=if x < 128 then x else if x < 2048 then 192+x / 64 else if x < 65536 then 224+x / 4096 else 240+x / 262144
theorem cJ(x:Int):isC x=true ↔ 0<=x/\x<=1114111/\(x < 55296\/57343 < x):=by simp [isC]
theorem jJ{x y:Int}(h0:0<=x)(h:x<=y)(h1:y<=1114111):fb x<=fb y:=by
 unfold fb
 split <;> split <;> (try split) <;> (try split) <;> (try split) <;> omega
theorem iU{x:Int}(h:isC x=true):(0<=fb x/\fb x < 128)\/(194<=fb x/\fb x<=244):=by
 rw [cJ] at h
 unfold fb
 split
 ·omega
 ·split
  ·omega
  ·split <;> omega
theorem aX2{lo hi v:Int}(h1:isC lo=true)(h2:isC hi=true)(hl:lo<=hi)(a:fb lo<=v)(b:v<=fb hi)(hv:v < 128\/194<=v):∃ x,lo<=x/\x<=hi/\isC x=true/\fb x=v:=by
 by_cases e1:v=fb lo
 ·exact⟨lo,aAN _,hl,h1,e1.symm⟩
 by_cases e2:v=fb hi
 ·exact⟨hi,hl,aAN _,h2,e2.symm⟩
 have r1:=iU h1
 have r2:=iU h2
 have c1:=(cJ lo).1 h1
 have c2:=(cJ hi).1 h2
 have key:∀ x,isC x=true->fb x=v->∃ x,lo<=x/\x<=hi/\isC x=true/\fb x=v:=fun x hx he=>by
  have cx:=(cJ x).1 hx
  refine⟨x,?_,?_,hx,he⟩
  ·rcases Int.lt_or_le x lo with q | q
   ·have:=jJ cx.1 (Int.le_of_lt q) (by omega);omega
   ·exact q
  ·rcases Int.lt_or_le hi x with q | q
   ·have:=jJ c2.1 (Int.le_of_lt q) cx.2.1;omega
   ·exact q
 rcases hv with hv | hv
 ·exact key v ((cJ v).2 (by omega)) (by unfold fb;rw [if_pos hv])
 ·by_cases k1:v < 224
  ·exact key ((v - 192) * 64) ((cJ _).2 (by omega)) (by unfold fb;rw [if_neg (by omega),if_pos (by omega)];omega)
  by_cases k2:v=224
  ·exact key 2048 (by decide) (by rw [k2];decide)
  by_cases k3:v < 240
  ·exact key ((v - 224) * 4096) ((cJ _).2 (by omega)) (by unfold fb;rw [if_neg (by omega),if_neg (by omega),if_pos (by omega)];omega)
  by_cases k4:v=240
  ·exact key 65536 (by decide) (by rw [k4];decide)
  ·exact key ((v - 240) * 262144) ((cJ _).2 (by omega)) (by unfold fb;rw [if_neg (by omega),if_neg (by omega),if_neg (by omega)];omega)
theorem xB{n a b:Nat}(h:z5_InS n a b):(fF n a 0:Int)=fb a/\(fF n b 0:Int)=fb b/\isC (a:Int)=true/\isC (b:Int)=true/\a<=b/\(fb a < 128/\fb b < 128\/194<=fb a):=by
 obtain⟨x,y,hs,h1,h2,h3⟩:=h
 rw [cJ,cJ]
 unfold fF fb
 rcases hs with⟨rfl,rfl,rfl⟩ | ⟨rfl,rfl,rfl⟩ | ⟨rfl,rfl,rfl⟩ | ⟨rfl,rfl,rfl⟩ | ⟨rfl,rfl,rfl⟩
 ·refine⟨?_,?_,by omega,by omega,h2,?_⟩
  ·rw [if_pos rfl,if_pos (by omega)]
  ·rw [if_pos rfl,if_pos (by omega)]
  ·rw [if_pos (by omega),if_pos (by omega)];omega
 ·refine⟨?_,?_,by omega,by omega,h2,?_⟩
  ·rw [if_neg (by omega),if_pos rfl,if_pos rfl,if_neg (by omega),if_pos (by omega)];omega
  ·rw [if_neg (by omega),if_pos rfl,if_pos rfl,if_neg (by omega),if_pos (by omega)];omega
  ·rw [if_neg (by omega),if_pos (by omega)];omega
 ·refine⟨?_,?_,by omega,by omega,h2,?_⟩
  ·rw [if_neg (by omega),if_neg (by omega),if_pos rfl,if_pos rfl,if_neg (by omega),if_neg (by omega),if_pos (by omega)];omega
  ·rw [if_neg (by omega),if_neg (by omega),if_pos rfl,if_pos rfl,if_neg (by omega),if_neg (by omega),if_pos (by omega)];omega
  ·rw [if_neg (by omega),if_neg (by omega),if_pos (by omega)];omega
 ·refine⟨?_,?_,by omega,by omega,h2,?_⟩
  ·rw [if_neg (by omega),if_neg (by omega),if_pos rfl,if_pos rfl,if_neg (by omega),if_neg (by omega),if_pos (by omega)];omega
  ·rw [if_neg (by omega),if_neg (by omega),if_pos rfl,if_pos rfl,if_neg (by omega),if_neg (by omega),if_pos (by omega)];omega
  ·rw [if_neg (by omega),if_neg (by omega),if_pos (by omega)];omega
 ·refine⟨?_,?_,by omega,by omega,h2,?_⟩
  ·rw [if_neg (by omega),if_neg (by omega),if_neg (by omega),if_pos rfl,if_neg (by omega),if_neg (by omega),if_neg (by omega)];omega
  ·rw [if_neg (by omega),if_neg (by omega),if_neg (by omega),if_pos rfl,if_neg (by omega),if_neg (by omega),if_neg (by omega)];omega
  ·rw [if_neg (by omega),if_neg (by omega),if_neg (by omega)];omega
def kO(r:eQ):Int × Int:=((fF r.n r.a 0:Int),(fF r.n r.b 0:Int))
theorem sV{c:Nat}{R:List eQ}:fE c R=0 ↔ ∀ r∈R,¬ (r.a<=c/\c<=r.b):=by
 unfold fE
 rw [List.countP_eq_zero]
 simp
theorem aD4{lo hi:Int}{R:List eQ}(h:aG3 lo hi R)(h0:isC lo=true)(h1:isC hi=true)(v:Int):In (R.map kO) v ↔ ∃ x,lo<=x/\x<=hi/\isC x=true/\fb x=v:=by
 have c1:=(cJ lo).1 h0
 have c2:=(cJ hi).1 h1
 have inn:∀ r∈R,lo<=(r.a:Int)/\(r.b:Int)<=hi:=fun r hr=>by
  obtain⟨-,-,ka,kb,kab,-⟩:=xB (h.pc r hr).1
  have q1:=h.cn r.a ka
  have q2:=h.cn r.b kb
  have z1:fE r.a R≠0:=fun e=>sV.1 e r hr ⟨n8 _,kab⟩
  have z2:fE r.b R≠0:=fun e=>sV.1 e r hr ⟨kab,n8 _⟩
  constructor
  ·by_cases e:lo<=(r.a:Int)/\(r.a:Int)<=hi
   ·exact e.1
   ·rw [if_neg e] at q1;exact absurd q1 z1
  ·by_cases e:lo<=(r.b:Int)/\(r.b:Int)<=hi
   ·exact e.2
   ·rw [if_neg e] at q2;exact absurd q2 z2
 constructor
 ·rintro ⟨p,hp,a,b⟩
  obtain⟨r,hr,rfl⟩:=aAM.1 hp
  obtain⟨e1,e2,ka,kb,kab,kr⟩:=xB (h.pc r hr).1
  simp only [kO] at a b
  rw [e1] at a
  rw [e2] at b
  obtain⟨x,x1,x2,x3,x4⟩:=aX2 ka kb (by omega) a b (by omega)
  have:=inn r hr
  exact⟨x,by omega,by omega,x3,x4⟩
 ·rintro ⟨x,x1,x2,x3,rfl⟩
  have cx:=(cJ x).1 x3
  obtain⟨c,rfl⟩:=Int.eq_ofNat_of_zero_le cx.1
  have q:=h.cn c x3
  rw [if_pos ⟨x1,x2⟩] at q
  have:¬ ∀ r∈R,¬ (r.a<=c/\c<=r.b):=fun e=>by rw [sV.2 e] at q;cases q
  simp only [Classical.not_forall,Classical.not_not] at this
  obtain⟨r,hr,k1,k2⟩:=this
  obtain⟨e1,e2,ka,kb,kab,kr⟩:=xB (h.pc r hr).1
  have cb:=(cJ _).1 kb
  exact⟨kO r,aAM.2 ⟨r,hr,rfl⟩,by simp only [kO];rw [e1];exact jJ (by omega) (by omega) cx.2.1,by simp only [kO];rw [e2];exact jJ cx.1 (by omega) cb.2.1⟩
theorem bC1{r:eQ}(h:dO r.n r.a r.b):0<=(kO r).1/\(kO r).1<=(kO r).2/\(kO r).2<=255:=by
 obtain⟨e1,e2,ka,kb,kab,-⟩:=xB h.1
 have r1:=iU ka
 have r2:=iU kb
 have ca:=(cJ _).1 ka
 have cb:=(cJ _).1 kb
 have:=jJ (x:=(r.a:Int)) (y:=(r.b:Int)) ca.1 (by omega) cb.2.1
 simp only [kO]
 omega
structure Fst(L F:List (Int × Int)):Prop where
 ok:∀ p∈F,0<=p.1/\p.1<=p.2/\p.2<=255
 mem:∀ v,In F v ↔ ∃ x,In L x/\isC x=true/\fb x=v
theorem Fst.nil:Fst [] []:=⟨fun p hp=>(by cases hp),fun v=>⟨fun h=>absurd h (iA v),fun⟨x,h,_⟩=>absurd h (iA x)⟩⟩
theorem Fst.snoc{L F:List (Int × Int)}{r:Int × Int}{R:List eQ}(h:Fst L F)(hq:aG3 r.1 r.2 R)(h0:isC r.1=true)(h1:isC r.2=true):Fst (L ++ [r]) (F ++ R.map kO):=by
 refine⟨fun p hp=>?_,fun v=>?_⟩
 ·rcases n9.1 hp with e | e
  ·exact h.ok p e
  ·obtain⟨q,hq',rfl⟩:=aAM.1 e
   exact bC1 (hq.pc q hq')
 ·rw [cH,h.mem,aD4 hq h0 h1]
  constructor
  ·rintro (⟨x,a,b,c⟩ | ⟨x,a,b,c,d⟩)
   ·exact⟨x,(cH ..).2 (.inl a),b,c⟩
   ·exact⟨x,(cH ..).2 (.inr ((eK ..).2 ⟨a,b⟩)),c,d⟩
  ·rintro ⟨x,a,b,c⟩
   rcases (cH ..).1 a with e | e
   ·exact .inl ⟨x,e,b,c⟩
   ·have:=(eK ..).1 e
    exact .inr ⟨x,this.1,this.2,b,c⟩
theorem Fr.grownOr{S:Nat->Prop}{a w w':World}{row:Option Nat}(h:Fr S a w)(hg:w.grownBy w' row)(hr:∀ k,row=some k->S k\/a.heap.size<=k):Fr S a w':=
 ⟨hg.os.trans h.os,hg.tape.trans h.tape,hg.output.trans h.output,i8 h.size hg.size,fun k hk hs=>(hg.block k (i6 hk h.size) (fun e=>by rcases hr k e.symm with q | q;exact hs q;omega)).trans (h.block k hk hs)⟩
theorem zW(L:List (Int × Int))(r:Int × Int):aS (L ++ [r])=aS L ++ [.int .i64 r.1,.int .i64 r.2]:=by simp [aS]
end
section
attribute [local go_sem] Oper.semAt_some
def bN4(w:World)(L:List (Int × Int))(e:Ending)(w':World):Prop:=∃ v F,e=.returned v/\RR w.heap.size w' v F/\Fst L F/\F.length<=30 * L.length/\Below w.heap.size w w'
theorem aO5{w:World}{q:Option Addr}{k:Nat}{L:List (Int × Int)}(h:ArgR w (.slice q L.length k) L)(hc:∀ r∈L,isC r.1=true/\isC r.2=true/\r.1<=r.2)(hS:z5_Spans w)(h0:0 < w.heap.size)(hl:L.length<=600000) :
  Calls Tryz.prog 120 #[.slice q L.length k] w (bN4 w L):=by
 obtain⟨t0,ti,hz0,hz1,hz2⟩:=bH cY
 have TI:Hid (Tryz.prog.info? 110=some t0/\t0.zero=some (.agg #[.int .i64 0,.int .i64 0])/\t0.size=2/\t0.bytes=16):=⟨ti,hz0,hz1,hz2⟩
 obtain⟨q',k',e,h1,h2,h3⟩:=h.slice
 injection e with e1 _ e3
 subst e1 e3
 have H3:=aD h3
 have h9:L.length<=9223372036854775807:=h1
 have HC:=aD hc
 have HS:=aD hS
 clear h3 h h1 hc hS ti hz0 hz1 hz2
 go_enter Tryz.func120,Tryz.ntmps120
 go_wp2
 go_loopw [3,12] (fun v i wr=>∃ (j:Nat) (F:List (Int × Int)),j<=L.length/\i=.int .i64 (j:Int)/\RR w.heap.size wr v F/\Fst (L.take j) F/\F.length<=30 * j/\Below w.heap.size w wr) (fun _ i _=>L.length - (intOf i).toNat)
 case atStart=>exact⟨0,[],m9 _,rfl,RR.nil _ _,Fst.nil,n8 _,Below.refl _ _⟩
 case round=>
  obtain⟨j,F,hj,rfl,hrr,hf,hfl,hb⟩:=hrel
  obtain⟨qv,cv,rfl⟩:=hrr.shape
  have RO:=aD hrr
  have HF:=aD hf
  have HB:=aD hb
  clear hrr hf hb
  by_cases hjl:j < L.length
  ·obtain⟨⟨lo,hi⟩,hr⟩:∃ r,L[j]?=some r:=⟨_,g9 hjl⟩
   obtain⟨g,off,rfl,hg,c1,c2⟩:=H3.out j _ hr
   have e1:(j:Int) < (L.length:Int):=by omega
   have c3:=(HB.out.cell (p:=⟨g,off+2 * j,none⟩) hg).trans c1
   have c4:=(HB.out.cell (p:=⟨g,off+2 * j+1,none⟩) hg).trans c2
   rw [aAJ] at c3 c4
   simp only at c3 c4
   obtain⟨k1,k2,k3⟩:=HC.out _ (i9 hr)
   simp only at k1 k2 k3
   have ci1:=(cJ lo).1 k1
   have ci2:=(cJ hi).1 k2
   have HT:Hid (L.take (j+1)=L.take j ++ [(lo,hi)]):=(by rw [o5,hr];rfl)
   have B1:Hid (Below w.heap.size w (wr.alloc (.cells #[.int .i64 lo,.int .i64 hi] 110))):=HB.out.alloc HB.out.size _
   have HRW:=aD (aL5 lo hi (wr.alloc (.cells #[.int .i64 lo,.int .i64 hi] 110)) (HS.out.below B1.out h0) ci1.1 k3 ci2.2.1)
   have KK:=aD (And.intro k1 k2)
   clear c1 c2 hr k1 k2 ci1 ci2
   go_upto_region 7 with (go_at_call 144;refine HRW.out.mono ?_;rintro e w5 ⟨v5,R,rfl,h51,h52,h53⟩;obtain⟨q5,cv5,e5⟩:=aZ h51.own;subst e5;have A5:=aD h51;have Q5:=aD h52;have B5:=aD h53;clear h51 h52 h53)
   have BW:Hid (Below w.heap.size w w5):=aJ B1.out B5.out lz9
   have R5:Hid (RR w.heap.size w5 (.slice qv F.length cv) F):=(RO.out.kept (bz9)).kept B5.out
   have SB:Hid (∀ k,(Value.slice qv F.length cv).ownBlock=some k->w.heap.size<=k/\k < wr.heap.size):=fun k e=>⟨(aH RO.out e).1,(aH RO.out e).2.1⟩
   have NS:Hid (∀ r∈R,¬ (Value.slice qv F.length cv).ownBlock=some r.g):=fun r hr e=>by
    have h1:=(A5.out.row r hr).lo
    have h2:=(SB.out _ e).2
    rw [a7] at h1
    omega
   have NR:Hid (∀ k,(Value.slice q5 R.length cv5).ownBlock=some k->¬ (Value.slice qv F.length cv).ownBlock=some k):=fun k e z=>by
    obtain⟨-,-,cur,hc⟩:=aH A5.out.own e
    exact aP R5.out hc (by decide) z
   have hrl:R.length<=30:=Q5.out.ln
   have hfl2:F.length<=18000000:=by omega
   clear RO HB B1 HRW B5 c3 c4
   go_loopw [3,26] (fun v i wx=>∃ m:Nat,m<=R.length/\i=.int .i64 (m:Int)/\RR w.heap.size wx v (F ++ (R.take m).map kO)/\Fr (fun k=>(Value.slice qv F.length cv).ownBlock=some k) w5 wx/\∀ k,v.ownBlock=some k->(Value.slice qv F.length cv).ownBlock=some k\/w5.heap.size<=k) (fun _ i _=>R.length - (intOf i).toNat)
   case atStart=>exact⟨0,m9 _,rfl,by simpa using R5.out,Fr.refl _ _,fun k e=>.inl e⟩
   case round=>
    obtain⟨m,hm,rfl,hrr,hfr,hob⟩:=hrel
    obtain⟨O,hO⟩:∃ O,F ++ (R.take m).map kO=O:=⟨_,rfl⟩
    have EO:=aD hO
    have hol:O.length<=18000030:=by rw [<- hO,m7,o8,o9];omega
    rw [hO] at hrr
    obtain⟨qx,cx,rfl⟩:=hrr.shape
    have RX:=aD hrr
    have FX:=aD hfr
    have OB:=aD hob
    clear hrr hfr hob hO
    by_cases hml:m < R.length
    ·obtain⟨r,hr⟩:∃ r,R[m]?=some r:=⟨_,g9 hml⟩
     have hin:r∈R:=i9 hr
     have e2:(m:Int) < (R.length:Int):=by omega
     obtain⟨g5,cb,e⟩:=aL A5.out.own (by omega)
     injection e with e1' e2' e3'
     subst e1' e3'
     have d1:wr.cell? ⟨g5,m,none⟩=some (.slice (some ⟨r.g,0,none⟩) r.n r.n):=aU (aM A5.out.own FX.out (fun k e z=>NR.out k e z)) (by simp [hr,xL])
     obtain⟨cs,hcs,hsz,hcell⟩:=(A5.out.row r hin).blk
     have hn1:=(Q5.out.pc r hin).1.n
     obtain⟨x1,x2⟩:=hcell 0 (by omega)
     have hcs2:=(FX.out.block _ (aB hcs) (NS.out r hin)).trans hcs
     have d2:wr.cell? ⟨r.g,0,none⟩=some (.int .i64 (kO r).1):=aA hcs2 x1
     have d3:wr.cell? ⟨r.g,1,none⟩=some (.int .i64 (kO r).2):=aA hcs2 x2
     have TN:=aD (show F ++ (R.take (m+1)).map kO=O ++ [kO r] by rw [o5,hr,aAV,aAR,<- t9,EO.out];rfl)
     have i3:(0:Int) < (r.n:Int):=by omega
     obtain⟨p1,p2⟩:∃ p,kO r=p:=⟨_,rfl⟩
     rw [p2] at d2 d3 TN
     obtain⟨pa,pb⟩:=p1
     simp only at d2 d3
     clear hcs hcs2 hsz hcell x1 x2 hr hin e2' p2
     have RA6:Hid ((wr.alloc (.cells #[.int .i64 pa,.int .i64 pb] 110)).ownsRow w.heap.size 110 2 (.slice qx O.length cx) O.length (aS O)):=l9 RX.out _
     have SZ:Hid (w.heap.size<=(wr.alloc (.cells #[.int .i64 pa,.int .i64 pb] 110)).heap.size):=i8 BW.out.size (i8 FX.out.size (by rw [a7];omega))
     go_wp2_with (at_builtin;refine wpList_append_own_at _ rfl _ _ 22 rfl w.heap.size 110 t0 (.agg #[.int .i64 0,.int .i64 0]) 2 16 bM TI.out.1 TI.out.2.1 TI.out.2.2.1 TI.out.2.2.2 rfl (by decide) (.slice qx O.length cx) O.length (aS O) rfl RA6.out ⟨wr.heap.size,0,none⟩ 1 1 [.int .i64 pa,.int .i64 pb] rfl rfl (cR _ [_,_] _) (by simp [Value.oneCell']) (by unfold maxLen;omega) (by omega) SZ.out ?_;intro v' w6 hown' hgrow _ hblk;obtain⟨g6,cap6,e6⟩:=aL hown' (aAC _);subst e6;have O6:=aD hown';have G6:=aD hgrow;have K6:=aD hblk;clear hown' hgrow hblk)
     go_roundw
     case rel=>
      refine⟨m+1,by omega,by go_num,?_,(FX.out.alloc _).grownOr G6.out (fun k e=>OB.out k e),fun k e=>?_⟩
      ·rw [TN.out]
       have:=O6.out
       rw [<- zW O (pa,pb)] at this
       unfold RR
       rw [m7]
       exact this
      ·rcases K6.out with q | q
       ·exact OB.out k (q ▸ e)
       ·rw [q] at e
        injection e with e
        have:=FX.out.size
        exact .inr (by rw [<- e,a7];omega)
     case measure=>simp only [intOf];omega
    ·have e2:¬ (m:Int) < (R.length:Int):=by omega
     have EE:=aD (show F ++ R.map kO=O by rw [<- EO.out,j9 (by omega)])
     go_wp2
     go_roundw
     case rel=>
      refine⟨j+1,O,by omega,by go_num,RX.out,?_,?_,bC BW.out FX.out lz9 (fun k e=>(SB.out k e).1)⟩
      ·rw [HT.out,<- EE.out]
       exact HF.out.snoc Q5.out KK.out.1 KK.out.2
      ·rw [<- EE.out,m7,o8];omega
     case measure=>simp only [intOf];omega
  ·have e1:¬ (j:Int) < (L.length:Int):=by omega
   rw [j9 (by omega)] at HF
   go_wp2
   go_ret
   exact⟨_,F,rfl,RO.out,HF.out,by omega,HB.out⟩
end
section
attribute [local go_sem] Oper.semAt_some
def fbU(c:Bool)(x:Int):Int:=if c then fb x else x
open Classical in
noncomputable def fB (c:Bool) (L:List (Int × Int)):BitVec 256:=bK (fun b=>decide (∃ x,In L x/\bP c x/\fbU c x=(b:Int))) 256
theorem aQ5(lo hi:Int)(n:Nat):(cT lo hi).getLsbD n=decide (n < 256/\lo<=(n:Int)/\(n:Int)<=hi):=by
 unfold cT
 rw [lO,fX,fX,aBD]
 simp
 omega
theorem aZ4:∀ (rs:List (Int × Int)) (n:Nat),(cE rs).getLsbD n=true ↔ n < 256/\In rs (n:Int):=by
 intro rs n
 have:∀ (k:Nat) (rs:List (Int × Int)),rs.length=k->((cE rs).getLsbD n=true ↔ n < 256/\In rs (n:Int)):=by
  intro k
  induction k with
  | zero=>intro rs h;rw [o3 h];simp [cE,iA]
  | succ k ih=>
   intro rs h
   obtain⟨a,r,rfl⟩:∃ a r,rs=a ++ [r]:=by
    have hne:rs≠[]:=by intro e;rw [e] at h;simp at h
    exact⟨rs.dropLast,rs.getLast hne,(aBY hne).symm⟩
   rw [nG,mN,Bool.or_eq_true,ih a (by simpa using h),aQ5,aBC,cH,eK]
   constructor
   ·rintro (⟨p,q⟩ | ⟨p,q⟩)
    ·exact⟨p,.inl q⟩
    ·exact⟨p,.inr q⟩
   ·rintro ⟨p,q | q⟩
    ·exact .inl ⟨p,q⟩
    ·exact .inr ⟨p,q⟩
 exact this _ rs rfl
theorem aJ9{c:Bool}{L F:List (Int × Int)}(h:∀ v:Int,In F v ↔ ∃ x,In L x/\bP c x/\fbU c x=v):cE F=fB c L:=by
 refine BitVec.eq_of_getLsbD_eq fun n hn=>?_
 unfold fB
 rw [eT _ _ _ lz9,aBD,aZ4,h]
 simp [hn]
theorem ArgR.row{W:World}{v:Value}{L:List (Int × Int)}(h:ArgR W v L):z1_RowAt W v L:=by
 rcases h with⟨p,cap,h1,h2,-⟩ | ⟨g,off,cap,h1,h2,h3,h4,h5⟩
 ·exact .inl ⟨p,cap,h1,h2⟩
 ·refine .inr ⟨g,off,cap,h1,h2,h3,h4,fun i lo hi e=>?_⟩
  obtain⟨a,b⟩:=h5 i (lo,hi) e
  rw [aAJ] at a b
  exact⟨a,b⟩
theorem aU4{R:Ending->World->Prop}{a:Act}{W:World}{b:Nat}{x:BitVec 256}(h:W.heap[b]?=some (.cells #[.int .u64 (aC x 0),.int .u64 (aC x 1),.int .u64 (aC x 2),.int .u64 (aC x 3)] 36 (0,0)))(ha:a.tmps[4]?.getD undef=.pointer (some ⟨b,0,none⟩))(hd:a.defers=[])(hR:R (.returned (.agg #[.int .u64 (aC x 0),.int .u64 (aC x 1),.int .u64 (aC x 2),.int .u64 (aC x 3)])) W):bodyPost Tryz.prog Tryz.f84 R .ret a W:=by
 refine bodyPost_ret (v:=.agg #[.int .u64 (aC x 0),.int .u64 (aC x 1),.int .u64 (aC x 2),.int .u64 (aC x 3)]) ?_ hd hR
 have z0:=aA h (i:=0) rfl;have z1:=aA h (i:=1) rfl;have z2:=aA h (i:=2) rfl;have z3:=aA h (i:=3) rfl
 simp [results,Tryz.results84,go_sem,ha,z0,z1,z2,z3]
theorem wS{w:World}{q:Option Addr}{k:Nat}{L:List (Int × Int)}(c o:Bool)(h:ArgR w (.slice q L.length k) L)(hs:oE c o L)(hS:z5_Spans w)(h0:0 < w.heap.size){X:BitVec 256}(hX:fB c L=X) :
  Calls Tryz.prog 84 #[.slice q L.length k,.agg #[.bool c,.bool o]] w fun e w'=>e=.returned (.agg #[.int .u64 (aC X 0),.int .u64 (aC X 1),.int .u64 (aC X 2),.int .u64 (aC X 3)])/\Below w.heap.size w w':=by
 have B1:Hid (Below w.heap.size w ((w.alloc (.cells #[.bool c,.bool o] 27)).alloc (.cells #[.int .u64 0,.int .u64 0,.int .u64 0,.int .u64 0] 36))):=(bz9).alloc (by simp only [a7];omega) _
 have R1:Hid (((w.alloc (.cells #[.bool c,.bool o] 27)).alloc (.cells #[.int .u64 0,.int .u64 0,.int .u64 0,.int .u64 0] 36)).heap[w.heap.size+1]?=some (.cells #[.int .u64 0,.int .u64 0,.int .u64 0,.int .u64 0] 36 (0,0))):=aK _ (by simp only [a7])
 have M1:((w.alloc (.cells #[.bool c,.bool o] 27)).alloc (.cells #[.int .u64 0,.int .u64 0,.int .u64 0,.int .u64 0] 36)).cell? ⟨w.heap.size,0,none⟩=some (.bool c):=by simp
 have hl:=sE hs.1
 have HX:=aD hX
 have HA:=aD h
 have HM:=aD hs
 have HS:=aD hS
 clear h hs hS hX
 generalize hWg:(w.alloc (.cells #[.bool c,.bool o] 27)).alloc (.cells #[.int .u64 0,.int .u64 0,.int .u64 0,.int .u64 0] 36)=Wg at B1 R1 M1
 have HWg:=aD hWg
 clear hWg
 cases c with
 | true=>
  have HL:=aD (aO5 (HA.out.kept B1.out) (fun r hr=>by
   have hsm:=HM.out.1.cls.some r hr
   exact⟨cV ((HM.out.1.mem r.1).1 ⟨r,hr,aAN _,hsm⟩).2,cV ((HM.out.1.mem r.2).1 ⟨r,hr,hsm,aAN _⟩).2,hsm⟩) (HS.out.below B1.out h0) (i6 h0 B1.out.size) hl)
  go_enter Tryz.func84,Tryz.ntmps84
  go_upto_region 1 with fail
  rw [HWg.out]
  go_wp2_with first
   |(go_at_call 120;refine HL.out.mono ?_;rintro e w5 ⟨v5,F,rfl,h1,h2,h3,h4⟩;obtain⟨q5,c5,e5⟩:=h1.shape;subst e5;have HF:=aD (rP F _ w5 h1.arg.row (fun r hr=>h2.ok r hr));rw [aJ9 (c:=true) (L:=L) (fun v=>by rw [h2.mem];exact⟨fun⟨x,a,b,d⟩=>⟨x,a,((HM.out.1.mem x).1 a).2,d⟩,fun⟨x,a,b,d⟩=>⟨x,a,cV b,d⟩⟩),HX.out] at HF;have B5:=aD h4;clear h1 h2 h3 h4)
   |(go_at_call 121;refine HF.out.mono ?_;rintro e w6 ⟨rfl,h6⟩;have B6:=aD h6;clear h6;have R6:Hid ((w6.alloc (.cells #[.int .u64 (aC X 0),.int .u64 (aC X 1),.int .u64 (aC X 2),.int .u64 (aC X 3)] 36)).heap[w.heap.size+1]?=some (.cells #[.int .u64 0,.int .u64 0,.int .u64 0,.int .u64 0] 36 (0,0))):=((bz9).block _ (aB ((B6.out.block _ (aB ((B5.out.block _ (aB R1.out)).trans R1.out))).trans ((B5.out.block _ (aB R1.out)).trans R1.out)))).trans ((B6.out.block _ (aB ((B5.out.block _ (aB R1.out)).trans R1.out))).trans ((B5.out.block _ (aB R1.out)).trans R1.out));have z0:=aA R6.out (i:=0) rfl;have z1:=aA R6.out (i:=1) rfl;have z2:=aA R6.out (i:=2) rfl;have z3:=aA R6.out (i:=3) rfl;have fz:=fun z=>aG R6.out z)
  refine aU4 (b:=w.heap.size+1) (x:=X) (bA R6.out [.int .u64 (aC X 0),.int .u64 (aC X 1),.int .u64 (aC X 2),.int .u64 (aC X 3)] rfl) rfl rfl ?_
  exact⟨rfl,bC ((aJ (aJ B1.out B5.out lz9) B6.out lz9).alloc (aJ (aJ B1.out B5.out lz9) B6.out lz9).size _) (aV (w.heap.size+1) [.int .u64 (aC X 0),.int .u64 (aC X 1),.int .u64 (aC X 2),.int .u64 (aC X 3)] 0 _) lz9 (fun k e=>by omega)⟩
 | false=>
  have HF:=aD (rP L _ Wg (HA.out.kept B1.out).row (fun r hr=>by
   have hsm:=HM.out.1.cls.some r hr
   have a:=((HM.out.1.mem r.1).1 ⟨r,hr,aAN _,hsm⟩).2
   have b:=((HM.out.1.mem r.2).1 ⟨r,hr,hsm,aAN _⟩).2
   simp [bP,top] at a b
   exact⟨by omega,hsm,by omega⟩))
  rw [aJ9 (c:=false) (L:=L) (fun v=>⟨fun a=>⟨v,a,((HM.out.1.mem v).1 a).2,rfl⟩,fun⟨x,a,b,d⟩=>(show x=v from d) ▸ a⟩),HX.out] at HF
  go_enter Tryz.func84,Tryz.ntmps84
  go_upto_region 1 with fail
  rw [HWg.out]
  go_wp2_with first
   |(go_at_call 121;refine HF.out.mono ?_;rintro e w6 ⟨rfl,h6⟩;have B6:=aD h6;clear h6;have R6:Hid ((w6.alloc (.cells #[.int .u64 (aC X 0),.int .u64 (aC X 1),.int .u64 (aC X 2),.int .u64 (aC X 3)] 36)).heap[w.heap.size+1]?=some (.cells #[.int .u64 0,.int .u64 0,.int .u64 0,.int .u64 0] 36 (0,0))):=((bz9).block _ (aB ((B6.out.block _ (aB R1.out)).trans R1.out))).trans ((B6.out.block _ (aB R1.out)).trans R1.out);have z0:=aA R6.out (i:=0) rfl;have z1:=aA R6.out (i:=1) rfl;have z2:=aA R6.out (i:=2) rfl;have z3:=aA R6.out (i:=3) rfl;have fz:=fun z=>aG R6.out z)
  refine aU4 (b:=w.heap.size+1) (x:=X) (bA R6.out [.int .u64 (aC X 0),.int .u64 (aC X 1),.int .u64 (aC X 2),.int .u64 (aC X 3)] rfl) rfl rfl ?_
  exact⟨rfl,bC ((aJ B1.out B6.out lz9).alloc (aJ B1.out B6.out lz9).size _) (aV (w.heap.size+1) [.int .u64 (aC X 0),.int .u64 (aC X 1),.int .u64 (aC X 2),.int .u64 (aC X 3)] 0 _) lz9 (fun k e=>by omega)⟩
end
end Go.Proofs.YtlaimbkenbijeaaGreatDoor
