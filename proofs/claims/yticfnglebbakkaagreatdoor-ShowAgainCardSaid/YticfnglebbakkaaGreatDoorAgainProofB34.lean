/-
  Parts of the proof.
-/
import Derived.Test.YticfnglebbakkaaGreatDoorAgainProofB33
import Derived.Recover
import Derived.Test.YticfnglebbakkaaGreatDoorAgainProofB17
import Derived.Test.YticfnglebbakkaaGreatDoorAgainProofB20
import Derived.Test.YticfnglebbakkaaGreatDoorAgainProofB21
import Derived.Test.YticfnglebbakkaaGreatDoorAgainProofB22
import Derived.Test.YticfnglebbakkaaGreatDoorAgainProofB11
import Derived.Test.YticfnglebbakkaaGreatDoorAgainProofB18
import Derived.Test.YticfnglebbakkaaGreatDoorAgainProofB0
import Derived.Test.YticfnglebbakkaaGreatDoorAgainProofB1
import Derived.Test.YticfnglebbakkaaGreatDoorAgainProofB10
set_option maxRecDepth 100000
set_option maxHeartbeats 8000000
namespace Go.Proofs.YticfnglebbakkaaGreatDoor
open Go Go.RowKit
section
attribute [local go_sem] aV
theorem pR{P:Program}(w:World)(t xT e:TypeId)(v:Value)(h:P.underlying t=some (.pointer e)):(Instr.typeAssert (.iface t v) xT t false).run P w=.ok v w:=by
 simp [Instr.typeAssert,run_underlying h,go_sem,Result.andThen]
theorem aY9:Tryz.prog.underlying 111=some (.pointer 162):=by kernel_rfl
theorem aC3(p q:Addr)(w:World) :
  CallsD Tryz.prog 64 #[.pointer (some p),.pointer (some q)] .returning w fun e u' w'=>e=.returned (.tuple #[])/\u'=.returning/\w'=w:=by
 refine callsD_of_wpS Tryz.func64 rfl fun c₀ cs hu=>?_
 apply wpS_seq
 apply wpS_region
 simp [wpOpsS,go_sem,recoverD,hu,Tryz.ntmps64,Exit.thenS]
 refine wpS_of_wp ?_
 rw [show (#[Value.pointer (some p),Value.pointer (some q)] ++ ((Array.replicate 7 undef).setIfInBounds 1 Value.nilIface).setIfInBounds 0 Value.nilIface)=#[Value.pointer (some p),Value.pointer (some q),.nilIface,.nilIface,undef,undef,undef,undef,undef] from rfl]
 go_wp2
 cases c₀
 simp_all [bodyPostS,results,Tryz.results64]
theorem oY(p q g:Nat)(older:List PanicEntry)(w:World)(hp:w.heap[p]?=some (.cells #[.slice none 0 0] 68 (0,0)))(hq:w.heap[q]?=some (.cells #[.nilIface] 34 (0,0)))(hpq:p≠q) :
  CallsD Tryz.prog 64 #[.pointer (some ⟨p,0,none⟩),.pointer (some ⟨q,0,none⟩)] (.panicking ({ v:=.iface 111 (.pointer (some ⟨g,0,none⟩)),recovered:=false } :: older)) w fun e u' w'=>
   e=.returned (.tuple #[])/\u'=.panicking ({ v:=.iface 111 (.pointer (some ⟨g,0,none⟩)),recovered:=true } :: older)/\w'.cell? ⟨p,0,none⟩=some (.slice none 0 0)/\w'.cell? ⟨q,0,none⟩=some (.iface 111 (.pointer (some ⟨g,0,none⟩)))/\Fr (fun k=>k=p\/k=q) w w':=by
 refine callsD_of_wpS Tryz.func64 rfl fun c₀ cs hu=>?_
 apply wpS_seq
 apply wpS_region
 simp [wpOpsS,go_sem,recoverD,hu,Tryz.ntmps64,Exit.thenS]
 refine wpS_of_wp ?_
 rw [show (#[Value.pointer (some ⟨p,0,none⟩),Value.pointer (some ⟨q,0,none⟩)] ++ ((Array.replicate 7 undef).setIfInBounds 1 (.iface 111 (.pointer (some ⟨g,0,none⟩)))).setIfInBounds 0 (.iface 111 (.pointer (some ⟨g,0,none⟩))))=#[Value.pointer (some ⟨p,0,none⟩),Value.pointer (some ⟨q,0,none⟩),.iface 111 (.pointer (some ⟨g,0,none⟩)),.iface 111 (.pointer (some ⟨g,0,none⟩)),undef,undef,undef,undef,undef] from rfl]
 have p0:w.cell? ⟨p,0,none⟩=some (.slice none 0 0):=aB hp (i:=0) rfl
 have q0:w.cell? ⟨q,0,none⟩=some .nilIface:=aB hq (i:=0) rfl
 have pf:=aQ hp 0
 have qf:=aQ hq 0
 have hta:∀ W,(Instr.typeAssert (.iface 111 (.pointer (some ⟨g,0,none⟩))) 20 111 false).run Tryz.prog W=.ok (.pointer (some ⟨g,0,none⟩)) W:=fun W=>pR W _ _ _ _ aY9
 go_wp2
 go_region
 refine⟨rfl,_,rfl,.tuple #[],by simp [results,Tryz.results64],rfl,rfl,?_,?_,?_⟩
 ·have h1:=aL hp 0 (.slice none 0 0)
  have h2:((w.setCell ⟨p,0,none⟩ (.slice none 0 0)).setCell ⟨q,0,none⟩ (.iface 111 (.pointer (some ⟨g,0,none⟩)))).heap[p]?=_:=((Fr.setCell (S:=At q) (Fr.refl _ _) (p:=⟨q,0,none⟩) rfl _).block p (aA h1) hpq).trans h1
  exact aB h2 (i:=0) rfl
 ·have h1:(w.setCell ⟨p,0,none⟩ (.slice none 0 0)).heap[q]?=_:=((Fr.setCell (S:=At p) (Fr.refl _ _) (p:=⟨p,0,none⟩) rfl _).block q (aA hq) (Ne.symm hpq)).trans hq
  exact aB (aL h1 0 (.iface 111 (.pointer (some ⟨g,0,none⟩)))) (i:=0) rfl
 ·exact Fr.drew ((Fr.setCell (S:=fun k=>k=p\/k=q) (Fr.refl _ _) (p:=⟨p,0,none⟩) (.inl rfl) _).setCell (p:=⟨q,0,none⟩) (.inr rfl) _)
end
section
attribute [local go_sem] aV
structure Face(w wr:World):Prop where
 toks:wr.heap[w.heap.size+1]?=some (.cells #[.slice none 0 0] 68 (0,0))
 err:wr.heap[w.heap.size+1+1]?=some (.cells #[.nilIface] 34 (0,0))
 low:Below w.heap.size w wr
theorem aW9{w wr:World}{tmps:Array Value}{g c a:Nat}(hF:Face w wr)(h4:tmps[4]?=some (.pointer (some ⟨w.heap.size+1,0,none⟩)))(h5:tmps[5]?=some (.pointer (some ⟨w.heap.size+1+1,0,none⟩)))(hg:w.heap.size+1+1 < g)(hb:bI wr g c a) :
  bodyPostD Tryz.prog Tryz.f28 (oQ w (.error (c,a))) (Exit.panic [{ v:=.iface 111 (.pointer (some ⟨g,0,none⟩)),recovered:=false }])
   { tmps:=tmps,defers:=[{ target:=Target.fn (Fn.func 64) #[.pointer (some ⟨w.heap.size+1,0,none⟩),.pointer (some ⟨w.heap.size+1+1,0,none⟩)],args:=#[] }] } wr:=by
 refine leaves_cons (f:=64) (args:=#[.pointer (some ⟨w.heap.size+1,0,none⟩),.pointer (some ⟨w.heap.size+1+1,0,none⟩)]) (by simp) (by simp [go_sem]) ?_
 refine(oY (w.heap.size+1) (w.heap.size+1+1) g [] wr hF.toks hF.err (by omega)).mono ?_
 rintro e u' w'' ⟨rfl,rfl,h1,h2,h3⟩
 have hB:Below w.heap.size w w'':=hF.low.trans (h3.below hF.low.size (fun k hk=>by omega))
 have hbad:bI w'' g c a:=(h3.block g (aA hb) (by omega)).trans hb
 have hL:oQ w (.error (c,a)) (.returned (.tuple #[.slice none 0 0,.iface 111 (.pointer (some ⟨g,0,none⟩))])) w'':=⟨hB,g,by omega,rfl,hbad⟩
 generalize oQ w (.error (c,a))=R at *
 simp [Leaves,settle,results,Tryz.results28,go_sem,h4,h5,h1,h2]
 exact hL
abbrev aG7(w:World)(m:Md):World:=((w.alloc (.cells #[.bool m.c,.bool m.f] 27)).alloc (.cells #[.slice none 0 0] 68)).alloc (.cells #[.nilIface] 34)
theorem xJ(w:World)(m:Md):Face w (aG7 w m):=by
 have e1:(w.alloc (.cells #[.bool m.c,.bool m.f] 27)).heap.size=w.heap.size+1:=by simp
 have e2:((w.alloc (.cells #[.bool m.c,.bool m.f] 27)).alloc (.cells #[.slice none 0 0] 68)).heap.size=w.heap.size+1+1:=by simp
 refine⟨?_,?_,?_⟩
 ·have h1:=aE (w.alloc (.cells #[.bool m.c,.bool m.f] 27)) (.cells #[.slice none 0 0] 68)
  rw [e1] at h1
  exact((bz9).block _ (aA h1)).trans h1
 ·have h1:=aE ((w.alloc (.cells #[.bool m.c,.bool m.f] 27)).alloc (.cells #[.slice none 0 0] 68)) (.cells #[.nilIface] 34)
  rw [e2] at h1
  exact h1
 ·exact((bz9).alloc (by omega) _).alloc (by omega) _
theorem Face.fr{w wr wr':World}{S:Nat->Prop}(h:Face w wr)(hf:Fr S wr wr')(h1:¬ S (w.heap.size+1))(h2:¬ S (w.heap.size+1+1))(h3:∀ k,S k->w.heap.size<=k):Face w wr':=
 ⟨(hf.block _ (aA h.toks) h1).trans h.toks,(hf.block _ (aA h.err) h2).trans h.err,h.low.trans (hf.below h.low.size h3)⟩
theorem Face.kept{w wr wr':World}(h:Face w wr)(hb:Below wr.heap.size wr wr'):Face w wr':=h.fr (S:=fun _=>False) (Fr.of_below hb) (fun q=>q) (fun q=>q) (fun _ q=>q.elim)
theorem aS8{w:World}(s:ByteArray)(m:Md)(hs:2000 < s.size) :
  Calls Tryz.prog 28 #[.string s,.agg #[.bool m.c,.bool m.f]] w (oQ w (.error (30,0))):=by
 have hmf:∀ (fn:Fn) (first cap:Array Value) (w:World),(Instr.makeFunc fn first cap).run Tryz.prog w=.ok (.func fn first cap) w:=fun _ _ _ _=>rfl
 have d0:(2000:Int) < (s.size:Int):=by omega
 go_enter_defers Tryz.func28,Tryz.ntmps28
 go_wp2_with (go_at_call 65;refine(bX 30 0 _).mono ?_;rintro e w11 ⟨rfl,h6,h7⟩)
 exact aW9 ((xJ w m).kept h7) rfl rfl (by omega) (by simpa using h6)
theorem aL2{w:World}(hG:Glb w)(s:ByteArray)(m:Md)(hs:s.size<=2000) :
  Calls Tryz.prog 28 #[.string s,.agg #[.bool m.c,.bool m.f]] w (oQ w (lx m s (s.size+1) 0 [])):=by
 have hmf:∀ (fn:Fn) (first cap:Array Value) (w:World),(Instr.makeFunc fn first cap).run Tryz.prog w=.ok (.func fn first cap) w:=fun _ _ _ _=>rfl
 have d0:¬ (2000:Int) < (s.size:Int):=by omega
 obtain⟨RES,hRES⟩:∃ RES,lx m s (s.size+1) 0 []=RES:=⟨_,rfl⟩
 rw [hRES]
 have GL:Hid (Glb w):=hG
 have FN:Hid (Face w (aG7 w m)):=xJ w m
 clear hG
 go_enter_defers Tryz.func28,Tryz.ntmps28
 go_wp2
 go_loopw [7] (fun _ wr=>∃ (T:List Tp) (D:List Dt) (v:Value) (pos f:Nat),RD wr (w.heap.size+1+1+1) s m pos v/\TL w.heap.size wr v D/\D.map Prod.fst=T/\(D=[]->v=.slice none 0 0)/\Stands s T pos/\Face w wr/\pos<=s.size/\s.size < f+pos/\lx m s f pos T=RES) (fun _ wr=>s.size+1 - oI wr (w.heap.size+1+1+1))
 case atStart=>
  have hz:(aG7 w m).heap.size=w.heap.size+1+1+1:=by simp
  have h1:=aE (aG7 w m) (.cells #[.string s,.bool m.c,.bool m.f,.int .i64 0,.slice none 0 0] 114)
  rw [hz] at h1
  exact⟨[],[],.slice none 0 0,0,s.size+1,h1,TL.nil _ _,rfl,fun _=>rfl,Stands.nil s,FN.out.kept (bz9),by omega,by omega,hRES⟩
 case round=>
  obtain⟨T,D,v,pos,f,g1,g2,g3,g4,g5,g6,g7,g8,g9⟩:=hrel
  obtain⟨f,rfl⟩:∃ f',f=f'+1:=⟨f - 1,by omega⟩
  rw [lx] at g9
  have PO:Hid (oI wr (w.heap.size+1+1+1)=pos):=g1.pos
  have LK0:Hid (LK wr (w.heap.size+1+1+1) v (cN T)):=g2.last g1 g3 g5 (by omega) g4
  have GW:Hid (Glb wr):=GL.out.kept g6.low
  have g2':3 < w.heap.size:=GL.out.size
  have c3:=g1.c3
  have c4:=g1.c4
  have lbw:=aA g6.err
  have G:Hid (RD wr (w.heap.size+1+1+1) s m pos v/\TL w.heap.size wr v D/\D.map Prod.fst=T/\Stands s T pos/\Face w wr/\(D=[]->v=.slice none 0 0)):=⟨g1,g2,g3,g5,g6,g4⟩
  clear g1 g2 g3 g4 g5 g6
  by_cases hlt:pos < s.size
  ·rw [if_pos hlt] at g9
   have hrng:=tF m s pos (cN T) hlt
   have hok:=tG m s pos (cN T)
   have j1:(pos:Int) < (s.size:Int):=by omega
   cases ht:tok m s pos (cN T) with
   | error x=>
    rw [ht] at g9
    simp only at g9
    subst g9
    obtain⟨xc,xa⟩:=x
    go_wp2_with (go_at_call 66;have hih:=aD5 GW.out G.out.1 LK0.out (by omega) hlt hs;rw [ht] at hih;(refine hih.mono ?_);clear hih;rintro e w8 ⟨h1,g,h2,rfl,h4⟩)
    exact aW9 (G.out.2.2.2.2.1.fr h1 (by intro q;have:w.heap.size+1=w.heap.size+1+1+1:=q;omega) (by intro q;have:w.heap.size+1+1=w.heap.size+1+1+1:=q;omega) (fun k hk=>by have:k=w.heap.size+1+1+1:=hk;omega)) rfl rfl (by omega) h4
   | ok x=>
    obtain⟨t,q⟩:=x
    rw [ht] at g9 hrng hok
    simp only at g9
    have hq1:q<=s.size:=hrng.2
    have hq2:pos < q:=hrng.1
    clear hrng
    go_wp2_with (go_at_call 66;have hih:=aD5 GW.out G.out.1 LK0.out (by omega) hlt hs;rw [ht] at hih;(refine hih.mono ?_);clear hih;rintro e w8 ⟨h1,v8,rfl,h2,rv,C,hv,h5,h6⟩;obtain⟨q8,k8,hsh⟩:=h5.shape;subst hsh;unfold tkV at hv;subst hv;have X8:Hid (RD w8 (w.heap.size+1+1+1) s m q v/\Fr (At (w.heap.size+1+1+1)) wr w8/\RR wr.heap.size w8 (.slice q8 C.length k8) C/\IsC C t.q):=⟨h2,h1,h5,h6⟩;have k3:=h2.c3;have k4:=h2.c4;have kf:=h2.frz 4;have lb8:=h2.lt;clear h1 h2 h5 h6)
    go_region
    have hB9:Below w8.heap.size w8 (w8.alloc (.cells #[.int .i64 (t.kind:Int),.int .i64 (pos:Int),.int .i64 (q:Int),.int .i64 (t.n:Int),.int .i64 t.mn,.int .i64 t.mx,.slice q8 C.length k8] 116)).drew:=(bz9).drew
    have TK:(w8.alloc (.cells #[.int .i64 (t.kind:Int),.int .i64 (pos:Int),.int .i64 (q:Int),.int .i64 (t.n:Int),.int .i64 t.mn,.int .i64 t.mx,.slice q8 C.length k8] 116)).drew.heap[w8.heap.size]?=some (.cells #[.int .i64 (t.kind:Int),.int .i64 (pos:Int),.int .i64 (q:Int),.int .i64 (t.n:Int),.int .i64 t.mn,.int .i64 t.mx,.slice q8 C.length k8] 116):=aE _ _
    generalize (w8.alloc (.cells #[.int .i64 (t.kind:Int),.int .i64 (pos:Int),.int .i64 (q:Int),.int .i64 (t.n:Int),.int .i64 t.mn,.int .i64 t.mx,.slice q8 C.length k8] 116)).drew=V9 at *
    have t0:=aB TK (i:=0) rfl
    have t1:=aB TK (i:=1) rfl
    have t2:=aB TK (i:=2) rfl
    have t3:=aB TK (i:=3) rfl
    have t4:=aB TK (i:=4) rfl
    have t5:=aB TK (i:=5) rfl
    have t6:=aB TK (i:=6) rfl
    obtain⟨d,hd⟩:∃ d:Dt,d=((t,pos,q),.slice q8 C.length k8,C):=⟨_,rfl⟩
    have htc:tc d=[.int .i64 (t.kind:Int),.int .i64 (pos:Int),.int .i64 (q:Int),.int .i64 (t.n:Int),.int .i64 t.mn,.int .i64 t.mx,.slice q8 C.length k8]:=by rw [hd];rfl
    have X9:Hid (RD V9 (w.heap.size+1+1+1) s m q v/\TL w.heap.size V9 v D/\RR wr.heap.size V9 (.slice q8 C.length k8) C/\Face w V9/\d=((t,pos,q),.slice q8 C.length k8,C)/\tc d=[.int .i64 (t.kind:Int),.int .i64 (pos:Int),.int .i64 (q:Int),.int .i64 (t.n:Int),.int .i64 t.mn,.int .i64 t.mx,.slice q8 C.length k8]):=⟨X8.out.1.kept hB9,(G.out.2.1.at G.out.1 X8.out.2.1).kept hB9,X8.out.2.2.1.kept hB9,(G.out.2.2.2.2.1.fr X8.out.2.1 (by intro q;have:w.heap.size+1=w.heap.size+1+1+1:=q;omega) (by intro q;have:w.heap.size+1+1=w.heap.size+1+1+1:=q;omega) (fun k hk=>by have:k=w.heap.size+1+1+1:=hk;omega)).kept hB9,hd,htc⟩
    have hDl:D.length<=2000:=by
     have h1:=G.out.2.2.2.1.few
     have h2:=G.out.2.2.1
     rw [<- h2,List.length_map] at h1
     omega
    obtain⟨qv,kv,rfl⟩:=aI X9.out.2.1.own
    have l4:=X9.out.1.c4
    have lf:=X9.out.1.frz 4
    have ll:=X9.out.1.lt
    have hbase:w.heap.size<=V9.heap.size:=by omega
    have E9:Hid (lx m s f q (T ++ [(t,pos,q)])=RES):=g9
    clear k3 k4 kf lb8 TK hd htc g9 c4 hB9
    obtain⟨i0,ti,hz0,hz1,hz2⟩:=aP aP3
    have OW:Hid ((V9.alloc (.cells #[.int .i64 (t.kind:Int),.int .i64 (pos:Int),.int .i64 (q:Int),.int .i64 (t.n:Int),.int .i64 t.mn,.int .i64 t.mx,.slice q8 C.length k8] 116)).ownsRow w.heap.size 116 7 (.slice qv D.length kv) D.length (tcs D)):=World.ownsRow.alloc X9.out.2.1.own (.cells #[.int .i64 (t.kind:Int),.int .i64 (pos:Int),.int .i64 (q:Int),.int .i64 (t.n:Int),.int .i64 t.mn,.int .i64 t.mx,.slice q8 C.length k8] 116)
    have NW:Hid (∀ j u,[.int .i64 (t.kind:Int),.int .i64 (pos:Int),.int .i64 (q:Int),.int .i64 (t.n:Int),.int .i64 t.mn,.int .i64 t.mx,.slice q8 C.length k8][j]?=some u->(V9.alloc (.cells #[.int .i64 (t.kind:Int),.int .i64 (pos:Int),.int .i64 (q:Int),.int .i64 (t.n:Int),.int .i64 t.mn,.int .i64 t.mx,.slice q8 C.length k8] 116)).cell? ((⟨V9.heap.size,0,none⟩:Addr).add j)=some u):=bG V9 #[.int .i64 (t.kind:Int),.int .i64 (pos:Int),.int .i64 (q:Int),.int .i64 (t.n:Int),.int .i64 t.mn,.int .i64 t.mx,.slice q8 C.length k8] 116
    have O1:∀ u∈([.int .i64 (t.kind:Int),.int .i64 (pos:Int),.int .i64 (q:Int),.int .i64 (t.n:Int),.int .i64 t.mn,.int .i64 t.mx,.slice q8 C.length k8]:List Value),u.oneCell'=true:=by simp [Value.oneCell']
    have hz9:w.heap.size<=(V9.alloc (.cells #[.int .i64 (t.kind:Int),.int .i64 (pos:Int),.int .i64 (q:Int),.int .i64 (t.n:Int),.int .i64 t.mn,.int .i64 t.mx,.slice q8 C.length k8] 116)).heap.size:=by simp;omega
    have AP:Hid (∀ (g c:Nat) (w10:World),w10.ownsRow w.heap.size 116 7 (.slice (some ⟨g,0,none⟩) (D.length+1) c) (D.length+1) (tcs D ++ [.int .i64 (t.kind:Int),.int .i64 (pos:Int),.int .i64 (q:Int),.int .i64 (t.n:Int),.int .i64 t.mn,.int .i64 t.mx,.slice q8 C.length k8])->(V9.alloc (.cells #[.int .i64 (t.kind:Int),.int .i64 (pos:Int),.int .i64 (q:Int),.int .i64 (t.n:Int),.int .i64 t.mn,.int .i64 t.mx,.slice q8 C.length k8] 116)).grownBy w10 (Value.slice qv D.length kv).ownBlock ->
      RD w10 (w.heap.size+1+1+1) s m q (.slice qv D.length kv)/\TL w.heap.size w10 (.slice (some ⟨g,0,none⟩) (D.length+1) c) (D ++ [d])/\Fr (fun k=>(Value.slice qv D.length kv).ownBlock=some k) (V9.alloc (.cells #[.int .i64 (t.kind:Int),.int .i64 (pos:Int),.int .i64 (q:Int),.int .i64 (t.n:Int),.int .i64 t.mn,.int .i64 t.mx,.slice q8 C.length k8] 116)) w10):=fun g c w10 h1 h2=>by
     have e5:=X9.out.2.2.2.2.1
     have e6:=X9.out.2.2.2.2.2
     refine bF9 (d:=d) X9.out.1 X9.out.2.1 (bz9) (by rw [e5];exact X9.out.2.2.1.mono (by omega)) (by rw [e5];exact X8.out.2.2.2) (fun a ha k hk hk2=>?_) (by rw [e6];exact h1) h2
     rw [e5] at hk2
     have h3:=(aG X9.out.2.2.1 hk2).1
     have h4:=(G.out.2.1.lt ha hk).2
     omega
    go_wp2_with (at_builtin;refine wpList_append_own_at _ rfl _ _ 68 rfl w.heap.size 116 i0 (.agg #[.int .i64 0,.int .i64 0,.int .i64 0,.int .i64 0,.int .i64 0,.int .i64 0,.slice none 0 0]) 7 72 aN8 ti hz0 hz1 hz2 rfl (by decide) (.slice qv D.length kv) D.length (tcs D) rfl OW.out ⟨V9.heap.size,0,none⟩ 1 1 [.int .i64 (t.kind:Int),.int .i64 (pos:Int),.int .i64 (q:Int),.int .i64 (t.n:Int),.int .i64 t.mn,.int .i64 t.mx,.slice q8 C.length k8] rfl rfl NW.out O1 (by unfold maxLen;omega) (by omega) hz9 ?_;intro v' w10 hown' hgrow _ hblk;obtain⟨g10,c10,rfl⟩:=aH hown' (Nat.succ_pos _);have X10:Hid (RD w10 (w.heap.size+1+1+1) s m q (.slice qv D.length kv)/\TL w.heap.size w10 (.slice (some ⟨g10,0,none⟩) (D.length+1) c10) (D ++ [d])/\Fr (fun k=>(Value.slice qv D.length kv).ownBlock=some k) (V9.alloc (.cells #[.int .i64 (t.kind:Int),.int .i64 (pos:Int),.int .i64 (q:Int),.int .i64 (t.n:Int),.int .i64 t.mn,.int .i64 t.mx,.slice q8 C.length k8] 116)) w10):=AP.out g10 c10 w10 hown' hgrow;have m4:=X10.out.1.c4;have mf:=X10.out.1.frz 4;clear hown' hgrow hblk)
    have R11:RD (w10.setCell ⟨w.heap.size+1+1+1,4,none⟩ (.slice (some ⟨g10,0,none⟩) (D.length+1) c10)) (w.heap.size+1+1+1) s m q (.slice (some ⟨g10,0,none⟩) (D.length+1) c10):=aL X10.out.1 4 _
    have F11:Fr (At (w.heap.size+1+1+1)) w10 (w10.setCell ⟨w.heap.size+1+1+1,4,none⟩ (.slice (some ⟨g10,0,none⟩) (D.length+1) c10)):=Fr.setCell (S:=At (w.heap.size+1+1+1)) (Fr.refl _ _) (p:=⟨w.heap.size+1+1+1,4,none⟩) rfl _
    have FA:=X9.out.2.2.2.1.kept ((Below.refl _ _).alloc lz9 (.cells #[.int .i64 (t.kind:Int),.int .i64 (pos:Int),.int .i64 (q:Int),.int .i64 (t.n:Int),.int .i64 t.mn,.int .i64 t.mx,.slice q8 C.length k8] 116))
    have FB:=FA.fr X10.out.2.2 (aK OW.out FA.toks (by decide)) (aK OW.out FA.err (by decide)) (fun k hk=>(aG OW.out hk).1)
    have FC:=FB.fr F11 (by intro q;have:w.heap.size+1=w.heap.size+1+1+1:=q;omega) (by intro q;have:w.heap.size+1+1=w.heap.size+1+1+1:=q;omega) (fun k hk=>by have:k=w.heap.size+1+1+1:=hk;omega)
    have TC:=X10.out.2.1.at X10.out.1 F11
    go_roundw
    case rel=>exact⟨T ++ [(t,pos,q)],D ++ [d],_,q,f,R11,TC,by rw [List.map_append,G.out.2.2.1,List.map_singleton,X9.out.2.2.2.2.1],fun h=>by simp at h,G.out.2.2.2.1.add hq2 hq1 hok,FC,hq1,by omega,E9.out⟩
    case measure=>rw [R11.pos,PO.out];omega
  ·rw [if_neg hlt] at g9
   subst g9
   have j1:¬ (pos:Int) < (s.size:Int):=by omega
   have x1:=aB G.out.2.2.2.2.1.toks (i:=0) rfl
   have x2:=aB G.out.2.2.2.2.1.err (i:=0) rfl
   have x3:=aQ G.out.2.2.2.2.1.toks 0
   have x4:=aQ G.out.2.2.2.2.1.err 0
   obtain⟨qv,kv,rfl⟩:=aI G.out.2.1.own
   go_wp2
   have F1:Fr (At (w.heap.size+1)) wr (wr.setCell ⟨w.heap.size+1,0,none⟩ (.slice qv D.length kv)):=Fr.setCell (S:=At (w.heap.size+1)) (Fr.refl _ _) (p:=⟨w.heap.size+1,0,none⟩) rfl _
   have F2:Fr (At (w.heap.size+1+1)) (wr.setCell ⟨w.heap.size+1,0,none⟩ (.slice qv D.length kv)) ((wr.setCell ⟨w.heap.size+1,0,none⟩ (.slice qv D.length kv)).setCell ⟨w.heap.size+1+1,0,none⟩ .nilIface):=Fr.setCell (S:=At (w.heap.size+1+1)) (Fr.refl _ _) (p:=⟨w.heap.size+1+1,0,none⟩) rfl _
   have y1:=aL G.out.2.2.2.2.1.toks 0 (.slice qv D.length kv)
   have y2:=(F2.block _ (aA y1) (by intro q;have:w.heap.size+1=w.heap.size+1+1:=q;omega)).trans y1
   have y3:=(F1.block _ (aA G.out.2.2.2.2.1.err) (by intro q;have:w.heap.size+1+1=w.heap.size+1:=q;omega)).trans G.out.2.2.2.2.1.err
   have y4:=aL y3 0 .nilIface
   have z1:=aB y2 (i:=0) rfl
   have z2:=aB y4 (i:=0) rfl
   have T1:=G.out.2.1.fr F1 (fun k hk e=>aK G.out.2.1.own G.out.2.2.2.2.1.toks (by decide) (by rw [hk,show k=_ from e])) (fun d hd k hk e=>aK (G.out.2.1.each d hd).1 G.out.2.2.2.2.1.toks (by decide) (by rw [hk,show k=_ from e]))
   have T2:=T1.fr F2 (fun k hk e=>aK T1.own y3 (by decide) (by rw [hk,show k=_ from e])) (fun d hd k hk e=>aK (T1.each d hd).1 y3 (by decide) (by rw [hk,show k=_ from e]))
   have B2:Below w.heap.size w ((wr.setCell ⟨w.heap.size+1,0,none⟩ (.slice qv D.length kv)).setCell ⟨w.heap.size+1+1,0,none⟩ .nilIface):=(G.out.2.2.2.2.1.low.trans (F1.below G.out.2.2.2.2.1.low.size (fun k hk=>by have:k=w.heap.size+1:=hk;omega))).trans (F2.below (Nat.le_trans G.out.2.2.2.2.1.low.size F1.size) (fun k hk=>by have:k=w.heap.size+1+1:=hk;omega))
   have hL:oQ w (.ok T) (.returned (.tuple #[.slice qv D.length kv,.nilIface])) ((wr.setCell ⟨w.heap.size+1,0,none⟩ (.slice qv D.length kv)).setCell ⟨w.heap.size+1+1,0,none⟩ .nilIface):=⟨B2,_,D,rfl,T2,G.out.2.2.1⟩
   refine leaves_cons (f:=64) (args:=#[.pointer (some ⟨w.heap.size+1,0,none⟩),.pointer (some ⟨w.heap.size+1+1,0,none⟩)]) (by simp) (by simp [go_sem]) ?_
   refine(aC3 ⟨w.heap.size+1,0,none⟩ ⟨w.heap.size+1+1,0,none⟩ _).mono ?_
   rintro e u' w'' ⟨rfl,rfl,rfl⟩
   clear F1 F2 y1 y2 y3 y4 T1 T2 B2
   generalize (wr.setCell ⟨w.heap.size+1,0,none⟩ (.slice qv D.length kv)).setCell ⟨w.heap.size+1+1,0,none⟩ .nilIface=W at *
   generalize oQ w (.ok T)=R at *
   simp [Leaves,settle,results,Tryz.results28,go_sem,z1,z2]
   exact hL
theorem aS9{w:World}(hG:Glb w)(s:ByteArray)(m:Md) :
  Calls Tryz.prog 28 #[.string s,.agg #[.bool m.c,.bool m.f]] w (oQ w (iY m s)):=by
 unfold iY
 split
 ·rename_i h;exact aS8 s m h
 ·exact aL2 hG s m (by omega)
end
theorem bB9{base:Nat}{N:Nat->Prop}:∀ (m:Nat) (x:Ps) (W:World) (v:Value),x.sz<=m->x.sz<=100000->wf x->PV base N W x v->base<=W.heap.size->Calls Tryz.prog 32 #[v] W (gY base W x):=by
 intro m
 induction m with
 | zero=>intro x W v hm;exact absurd (kS x) (by omega)
 | succ m ih=>
  intro x W v hm hsz hw h hb
  have nd:∀ W v,PV base N W x v->base<=W.heap.size->Calls Tryz.prog 73 #[v] W (gI base W x):=fun W v hv hb'=>aR5 (fun y W' v' hy hv' hb''=>by
   have h1:=tS hy
   exact ih y W' v' (by omega) (by omega) (bH9 hw hy) hv' hb'') (by omega) hb' hv
  cases x with
  | lf k n rs=>exact aK5 h
  | grp n k=>exact zY h hb nd
  | rep a b k=>exact zX h hb nd
  | row l=>exact aR6 h hw hb hsz nd
  | alt l=>exact wK h hw hb hsz nd
abbrev zV:Value:=.agg #[.int .i64 0,.int .i64 0,.int .i64 0,.int .i64 0,.slice none 0 0,.slice none 0 0]
def fH(w:World)(c a:Nat)(e:Ending)(w':World):Prop:=∃ g,w.heap.size<=g/\e=.returned (.tuple #[zV,.iface 111 (.pointer (some ⟨g,0,none⟩))])/\bI w' g c a/\Below w.heap.size w w'
def uW(w:World)(x:Ps)(e:Ending)(w':World):Prop:=∃ t',e=.returned (.tuple #[.agg #[.int .i64 t'.f.k,.int .i64 t'.f.n,.int .i64 t'.f.mn,.int .i64 t'.f.mx,.slice t'.f.rq t'.f.rs.length t'.f.rc,.slice t'.f.kq t'.f.kl t'.f.kc],.nilIface])/\TA w' t'/\er t'=te x/\Foot (fun k=>w.heap.size<=k) t'/\Below w.heap.size w w'
theorem iQ{R:Ending->World->Prop}{a:Act}{W:World}{b:Nat}{f:Fl}{x:Value}(h:Six W b 0 f)(ha:a.tmps[4]?.getD undef=.pointer (some ⟨b,0,none⟩))(hb:a.tmps[5]?.getD undef=x)(hd:a.defers=[])(hR:R (.returned (.tuple #[.agg #[.int .i64 f.k,.int .i64 f.n,.int .i64 f.mn,.int .i64 f.mx,.slice f.rq f.rs.length f.rc,.slice f.kq f.kl f.kc],x])) W):bodyPost Tryz.prog Tryz.f12 R .ret a W:=by
 obtain⟨z0,z1,z2,z3,z4,z5⟩:=h
 simp only [Nat.zero_add] at z1 z2 z3 z4 z5
 refine bodyPost_ret (v:=.tuple #[.agg #[.int .i64 f.k,.int .i64 f.n,.int .i64 f.mn,.int .i64 f.mx,.slice f.rq f.rs.length f.rc,.slice f.kq f.kl f.kc],x]) ?_ hd hR
 simp [results,Tryz.results12,go_sem,ha,hb,z0,z1,z2,z3,z4,z5]
theorem mR{w w5:World}{g c a:Nat}(hz:w5.heap[w.heap.size+1]?=some bC)(hb:bI w5 g c a)(hg:w.heap.size+1 < g)(hB:Below w.heap.size w w5) :
  Six (cW w5 (w.heap.size+1) 0 (bare 0)) (w.heap.size+1) 0 (bare 0)/\fH w c a (.returned (.tuple #[zV,.iface 111 (.pointer (some ⟨g,0,none⟩))])) (cW w5 (w.heap.size+1) 0 (bare 0)):=by
 have F:=jI w5 (w.heap.size+1) 0 (bare 0)
 refine⟨iU (f:=bare 0) ⟨aB hz (i:=0) rfl,aB hz (i:=1) rfl,aB hz (i:=2) rfl,aB hz (i:=3) rfl,aB hz (i:=4) rfl,aB hz (i:=5) rfl⟩,g,by omega,rfl,(F.block _ (aA hb) (by omega)).trans hb,bK hB F lz9 (fun k e=>by omega)⟩
theorem aK1{w:World}(hG:Glb w)(s:ByteArray)(m:Md){c a:Nat}(hl:iY m s=.error (c,a)) :
  Calls Tryz.prog 12 #[.string s,.agg #[.bool m.c,.bool m.f]] w (fH w c a):=by
 have B1:Below w.heap.size w ((w.alloc (.cells #[.bool m.c,.bool m.f] 27)).alloc bC):=(bz9).alloc (by simp) _
 have LC:=aS9 (hG.kept B1) s m
 rw [hl] at LC
 have HL:=aC LC
 have HB1:=aC B1
 have M1:((w.alloc (.cells #[.bool m.c,.bool m.f] 27)).alloc bC).heap[w.heap.size]?=some (.cells #[.bool m.c,.bool m.f] 27 (0,0)):=(Below.heap_alloc _ _ _ (by simp)).trans (aE w _)
 have Z1:((w.alloc (.cells #[.bool m.c,.bool m.f] 27)).alloc bC).heap[w.heap.size+1]?=some bC:=(by
  have:=aE (w.alloc (.cells #[.bool m.c,.bool m.f] 27)) bC
  rwa [World.size_alloc] at this)
 have HM1:=aC M1
 have HZ1:=aC Z1
 clear hG hl LC B1 M1 Z1
 go_enter Tryz.func12,Tryz.ntmps12
 go_upto_region 1 with fail
 generalize ((w.alloc (.cells #[.bool m.c,.bool m.f] 27)).alloc bC)=W1 at HL HB1 HM1 HZ1 ⊢
 have m0:=aB HM1.out (i:=0) rfl
 have m1:=aB HM1.out (i:=1) rfl
 have lz:=aA HZ1.out
 go_wp2_with (go_at_call 28;(with_reducible refine(HL.out).mono ?_);rintro e w5 ⟨h1,g5,h2,rfl,h3⟩;have B5:=aC h1;have X5:=aC (⟨h2,h3⟩:_/\bI w5 g5 c a);have Z5:w5.heap[w.heap.size+1]?=some bC:=(h1.block _ lz).trans HZ1.out;have l5:=aA Z5;have r0:=aB Z5 (i:=0) rfl;have r1:=aB Z5 (i:=1) rfl;have r2:=aB Z5 (i:=2) rfl;have r3:=aB Z5 (i:=3) rfl;have r4:=aB Z5 (i:=4) rfl;have r5:=aB Z5 (i:=5) rfl;have fz:=fun z=>aQ Z5 z;have HZ5:=aC Z5;clear h1 h2 h3)
 obtain⟨E1,E2⟩:=mR HZ5.out X5.out.2 (by have:=X5.out.1;omega) (aD HB1.out B5.out lz9)
 exact iQ E1 rfl rfl rfl E2
theorem oK{w:World}(hG:Glb w)(s:ByteArray)(m:Md){T:List Tp}(hl:iY m s=.ok T):∀ W1,Below w.heap.size w W1->Calls Tryz.prog 28 #[.string s,.agg #[.bool m.c,.bool m.f]] W1 fun e w5=>∃ q c D,e=.returned (.tuple #[.slice q D.length c,.nilIface])/\Below W1.heap.size W1 w5/\TL W1.heap.size w5 (.slice q D.length c) D/\D.map Prod.fst=T/\(∀ d∈D,gA d.1.1/\d.2.2.length<=1000000)/\D.length<=2000:=fun W1 hW=>by
 have LC:=aS9 (hG.kept hW) s m
 rw [hl] at LC
 refine LC.mono fun e w5 ⟨h1,v,D,h2,h3,h4⟩=>?_
 obtain⟨q,c,rfl⟩:=aI h3.own
 have h5:=aD4 hl h4 (fun d hd=>(h3.each d hd).2)
 exact⟨q,c,D,h2,h1,h3,h4,h5.1,h5.2.1⟩
theorem zQ{w:World}(hG:Glb w)(s:ByteArray)(m:Md){T:List Tp}(hl:iY m s=.ok T){c a:Nat}(hh:fW T=some (c,a)) :
  Calls Tryz.prog 12 #[.string s,.agg #[.bool m.c,.bool m.f]] w (fH w c a):=by
 have B1:Below w.heap.size w ((w.alloc (.cells #[.bool m.c,.bool m.f] 27)).alloc bC):=(bz9).alloc (by simp) _
 have HL:=aC (oK hG s m hl _ B1)
 have HB1:=aC B1
 have M1:((w.alloc (.cells #[.bool m.c,.bool m.f] 27)).alloc bC).heap[w.heap.size]?=some (.cells #[.bool m.c,.bool m.f] 27 (0,0)):=(Below.heap_alloc _ _ _ (by simp)).trans (aE w _)
 have Z1:((w.alloc (.cells #[.bool m.c,.bool m.f] 27)).alloc bC).heap[w.heap.size+1]?=some bC:=(by
  have:=aE (w.alloc (.cells #[.bool m.c,.bool m.f] 27)) bC
  rwa [World.size_alloc] at this)
 have HM1:=aC M1
 have HZ1:=aC Z1
 have HH:=aC hh
 clear hG hl hh B1 M1 Z1
 go_enter Tryz.func12,Tryz.ntmps12
 go_upto_region 1 with fail
 generalize ((w.alloc (.cells #[.bool m.c,.bool m.f] 27)).alloc bC)=W1 at HL HB1 HM1 HZ1 ⊢
 have m0:=aB HM1.out (i:=0) rfl
 have m1:=aB HM1.out (i:=1) rfl
 have lz:=aA HZ1.out
 go_wp2_with first
  |(go_at_call 28;(with_reducible refine(HL.out).mono ?_);rintro e w5 ⟨q5,c5,D,rfl,h1,h2,h3,h4,h5⟩;have B5:=aC h1;have GC0:=sR h2 (fun d hd=>(h4 d hd).1) h5;rw [h3,HH.out] at GC0;have GC:=aC GC0;clear h1 h2 h3 h4 h5 GC0)
  |(go_at_call 29;(with_reducible refine(GC.out).mono ?_);rintro e w6 ⟨h1,g6,h2,rfl,h3⟩;have B6:=aC h1;have X6:=aC (⟨h2,h3⟩:_/\bI w6 g6 c a);have Z6:w6.heap[w.heap.size+1]?=some bC:=(h1.block _ (Nat.lt_of_lt_of_le lz B5.out.size)).trans ((B5.out.block _ lz).trans HZ1.out);have l6:=aA Z6;have r0:=aB Z6 (i:=0) rfl;have r1:=aB Z6 (i:=1) rfl;have r2:=aB Z6 (i:=2) rfl;have r3:=aB Z6 (i:=3) rfl;have r4:=aB Z6 (i:=4) rfl;have r5:=aB Z6 (i:=5) rfl;have fz:=fun z=>aQ Z6 z;have HZ6:=aC Z6;clear h1 h2 h3)
 obtain⟨E1,E2⟩:=mR HZ6.out X6.out.2 (by have:=X6.out.1;have:=B5.out.size;omega) (aD (aD HB1.out B5.out lz9) B6.out lz9)
 exact iQ E1 rfl rfl rfl E2
def fS(w:World)(x:Ps)(e:Ending)(w':World):Prop:=if 40 < x.dp then fH w 43 0 e w' else if 2000 < x.sz then fH w 42 0 e w' else uW w x e w'
theorem pZ{w:World}(hG:Glb w)(s:ByteArray)(m:Md){T:List Tp}(hl:iY m s=.ok T)(hh:fW T=none){x:Ps}(hw:wf x)(hx:pfl x=iH 0 T) :
  Calls Tryz.prog 12 #[.string s,.agg #[.bool m.c,.bool m.f]] w (fS w x):=by
 have hsz:x.sz<=100000:=by
  have h1:=(aJ6 x hw).1
  have h2:=sM m s
  rw [hl] at h2
  have h3:=(show Stands s T s.size from h2).few
  rw [hx,hZ] at h1
  have h4:s.size<=2000:=by
   unfold iY at hl
   split at hl
   ·cases hl
   ·omega
  omega
 have B1:Below w.heap.size w ((w.alloc (.cells #[.bool m.c,.bool m.f] 27)).alloc bC):=(bz9).alloc (by simp) _
 have HL:=aC (oK hG s m hl _ B1)
 have HB1:=aC B1
 have M1:((w.alloc (.cells #[.bool m.c,.bool m.f] 27)).alloc bC).heap[w.heap.size]?=some (.cells #[.bool m.c,.bool m.f] 27 (0,0)):=(Below.heap_alloc _ _ _ (by simp)).trans (aE w _)
 have Z1:((w.alloc (.cells #[.bool m.c,.bool m.f] 27)).alloc bC).heap[w.heap.size+1]?=some bC:=(by
  have:=aE (w.alloc (.cells #[.bool m.c,.bool m.f] 27)) bC
  rwa [World.size_alloc] at this)
 have HM1:=aC M1
 have HZ1:=aC Z1
 have HH:=aC hh
 have HW:=aC hw
 have HXX:=aC hx
 have HSZ:=aC hsz
 clear hG hl hh B1 M1 Z1 hw hx hsz
 go_enter Tryz.func12,Tryz.ntmps12
 go_upto_region 1 with fail
 generalize ((w.alloc (.cells #[.bool m.c,.bool m.f] 27)).alloc bC)=W1 at HL HB1 HM1 HZ1 ⊢
 have m0:=aB HM1.out (i:=0) rfl
 have m1:=aB HM1.out (i:=1) rfl
 have lz:=aA HZ1.out
 go_upto_region 9 with first
  |(go_at_call 28;(with_reducible refine(HL.out).mono ?_);rintro e w5 ⟨q5,c5,D,rfl,h1,h2,h3,h4,h5⟩;have B5:=aC h1;have T5:=aC h2;have E5:=aC h3;have K5:=aC h4;have N5:=aC h5;have GC0:=sR h2 (fun d hd=>(h4 d hd).1) h5;rw [h3,HH.out] at GC0;have GC:=aC GC0;clear h1 h2 h3 h4 h5 GC0)
  |(go_at_call 29;(with_reducible refine(GC.out).mono ?_);rintro e w6 ⟨h1,rfl⟩;have B6:=aC h1;have B7:Hid (Below w6.heap.size w6 (w6.alloc (.cells #[.slice q5 D.length c5,.int .i64 0,.int .i64 0] 73))):=bz9;have PB7:Hid (PB W1.heap.size (w6.alloc (.cells #[.slice q5 D.length c5,.int .i64 0,.int .i64 0] 73)) w6.heap.size (.slice q5 D.length c5) D 0 0):=⟨aE w6 _,(T5.out.kept B6.out).kept B7.out,Nat.zero_le _,N5.out,Nat.le_refl _,K5.out,Nat.le_trans B5.out.size B6.out.size⟩;have PT:=aC (bB7 x HW.out _ _ 0 0 _ _ _ [] PB7.out (by rw [List.append_nil,HXX.out,<- E5.out];rfl) (.inl rfl));clear h1)
  |(go_at_call 30;(with_reducible refine(PT.out).mono ?_);rintro e w8 ⟨v8,rfl,h1,h2,h3⟩;obtain⟨T8,u8,rfl⟩:=h1.shape;have V8:=aC h1;have F8:=aC h3;have SC:=aC (aZ8 h1 (by have:=HSZ.out;omega));clear h1 h2 h3)
 have B8:Hid (Below w.heap.size w w8):=bK (aD (aD (aD HB1.out B5.out lz9) B6.out lz9) B7.out lz9) F8.out lz9 (fun k hk=>by have:k=w6.heap.size:=hk;have:=HB1.out.size;have:=B5.out.size;have:=B6.out.size;omega)
 have Z8:Hid (w8.heap[w.heap.size+1]?=some bC):=(F8.out.block _ (Nat.lt_of_lt_of_le lz (Nat.le_trans B5.out.size (Nat.le_trans B6.out.size B7.out.size))) (fun e=>by have e':w.heap.size+1=w6.heap.size:=e;have:=B5.out.size;have:=B6.out.size;omega)).trans ((B7.out.block _ (Nat.lt_of_lt_of_le lz (Nat.le_trans B5.out.size B6.out.size))).trans ((B6.out.block _ (Nat.lt_of_lt_of_le lz B5.out.size)).trans ((B5.out.block _ lz).trans HZ1.out)))
 have S8:Hid (W1.heap.size<=w8.heap.size):=Nat.le_trans (Nat.le_trans B5.out.size (Nat.le_trans B6.out.size B7.out.size)) F8.out.size
 clear m0 m1
 by_cases hd:40 < x.dp
 ·rw [if_pos hd] at SC
  have RES:Hid (∀ e w',fH w 43 0 e w'->fS w x e w'):=fun e w' h=>(by unfold fS;rw [if_pos hd];exact h)
  clear hd
  go_wp2_with (go_at_call 31;(with_reducible refine(SC.out).mono ?_);rintro e w9 ⟨h1,g9,h2,rfl,h3⟩;have B9:=aC h1;have X9:=aC (⟨h2,h3⟩:_/\bI w9 g9 43 0);have Z9:w9.heap[w.heap.size+1]?=some bC:=(h1.block _ (aA Z8.out)).trans Z8.out;have l9:=aA Z9;have r0:=aB Z9 (i:=0) rfl;have r1:=aB Z9 (i:=1) rfl;have r2:=aB Z9 (i:=2) rfl;have r3:=aB Z9 (i:=3) rfl;have r4:=aB Z9 (i:=4) rfl;have r5:=aB Z9 (i:=5) rfl;have fz:=fun z=>aQ Z9 z;have HZ9:=aC Z9;clear h1 h2 h3)
  obtain⟨E1,E2⟩:=mR HZ9.out X9.out.2 (by have:=X9.out.1;have:=S8.out;omega) (aD B8.out B9.out lz9)
  exact iQ E1 rfl rfl rfl (RES.out _ _ E2)
 ·rw [if_neg hd] at SC
  by_cases hn:2000 < x.sz
  ·rw [if_pos hn] at SC
   have RES:Hid (∀ e w',fH w 42 0 e w'->fS w x e w'):=fun e w' h=>(by unfold fS;rw [if_neg hd,if_pos hn];exact h)
   clear hd hn
   go_wp2_with (go_at_call 31;(with_reducible refine(SC.out).mono ?_);rintro e w9 ⟨h1,g9,h2,rfl,h3⟩;have B9:=aC h1;have X9:=aC (⟨h2,h3⟩:_/\bI w9 g9 42 0);have Z9:w9.heap[w.heap.size+1]?=some bC:=(h1.block _ (aA Z8.out)).trans Z8.out;have l9:=aA Z9;have r0:=aB Z9 (i:=0) rfl;have r1:=aB Z9 (i:=1) rfl;have r2:=aB Z9 (i:=2) rfl;have r3:=aB Z9 (i:=3) rfl;have r4:=aB Z9 (i:=4) rfl;have r5:=aB Z9 (i:=5) rfl;have fz:=fun z=>aQ Z9 z;have HZ9:=aC Z9;clear h1 h2 h3)
   obtain⟨E1,E2⟩:=mR HZ9.out X9.out.2 (by have:=X9.out.1;have:=S8.out;omega) (aD B8.out B9.out lz9)
   exact iQ E1 rfl rfl rfl (RES.out _ _ E2)
  ·rw [if_neg hn] at SC
   have RES:Hid (∀ e w',uW w x e w'->fS w x e w'):=fun e w' h=>(by unfold fS;rw [if_neg hd,if_neg hn];exact h)
   clear hd hn
   go_wp2_with first
    |(go_at_call 31;(with_reducible refine(SC.out).mono ?_);rintro e w9 ⟨h1,rfl⟩;have B9:=aC h1;have NC:=aC (bB9 x.sz x w9 _ lz9 HSZ.out HW.out (V8.out.kept h1) (Nat.le_trans S8.out h1.size));clear h1)
    |(go_at_call 32;(with_reducible refine(NC.out).mono ?_);rintro e wA ⟨tA,rfl,h1,h2,h3,h4,h5⟩;have BA:=aC h3;have EA:=aC h2;have ZA:wA.heap[w.heap.size+1]?=some bC:=(h3.block _ (Nat.lt_of_lt_of_le (aA Z8.out) B9.out.size)).trans ((B9.out.block _ (aA Z8.out)).trans Z8.out);have lA:=aA ZA;have r0:=aB ZA (i:=0) rfl;have r1:=aB ZA (i:=1) rfl;have r2:=aB ZA (i:=2) rfl;have r3:=aB ZA (i:=3) rfl;have r4:=aB ZA (i:=4) rfl;have r5:=aB ZA (i:=5) rfl;have fz:=fun z=>aQ ZA z;have sA:=S8.out;have s9:=B9.out.size;have s1:=HB1.out.size;have FKA:=aC (h4.mono (M:=fun k=>w.heap.size+1 < k) (fun k hk=>by omega));have FTA:=aC (bH4 (h4.mono (M:=fun k=>w.heap.size<=k) (fun k hk=>by omega)) (h5.mono (M:=fun k=>w.heap.size<=k) (fun k hk=>by omega)));have L9:=aC (mV (bz:=w.heap.size+1) (f:=bare 0) h1 FKA.out ⟨_,ZA⟩ ⟨r0,r1,r2,r3,r4,r5⟩);unfold cW at L9;clear h1 h2 h3 h4 h5)
   exact iQ L9.out.1 rfl rfl rfl (RES.out _ _ ⟨tA,rfl,L9.out.2.1,EA.out,FTA.out,bK (aD (aD B8.out B9.out lz9) BA.out lz9) L9.out.2.2.1 lz9 (fun k e=>by omega)⟩)
section
attribute [local go_sem] aV
abbrev m09:Md:=⟨false,false⟩
abbrev qA:Int->Prop:=eN m09 [(97,97)] false
end
section
attribute [local go_sem] aV
theorem aC4{P:Program}{f:FuncId}{args:Array Value}{w:World}{Q:Ending->World->Prop}(h:Calls P f args w Q):∃ e w',Q e w':=by
 obtain⟨e,w',fr,hq,-⟩:=h []
 exact⟨e,w',hq⟩
theorem bK2{w:World}(hG:Glb w){s:ByteArray}{m:Md}{T:List Tp}(hl:iY m s=.ok T):∀ g,∀ z∈iH g T,fI m.c m.f z:=by
 have LC:=aS9 hG s m
 rw [hl] at LC
 obtain⟨e,w',-,v,D,-,h3,h4⟩:=aC4 LC
 have h5:=aD4 hl h4 (fun d hd=>(h3.each d hd).2)
 intro g
 rw [<- h4]
 exact bG9 D g (fun d hd=>⟨(h3.each d hd).2,h5.2.2.1 d hd⟩)
end
abbrev aH7(s:ByteArray)(m:Md)(W:World)(Q:Ending->World->Prop):Prop:=Calls Tryz.prog 12 #[.string s,.agg #[.bool m.c,.bool m.f]] W Q
structure Takes(m:Md)(s:ByteArray)(x:Ps)(T:List Tp):Prop where
 lex:iY m s=.ok T
 held:fW T=none
 wf:wf x
 pfl:pfl x=iH 0 T
 dp:x.dp<=40
 sz:x.sz<=2000
theorem Takes.hk{m:Md}{s:ByteArray}{x:Ps}{T:List Tp}(h:Takes m s x T):hk 0 [] [] (Go.Proofs.YticfnglebbakkaaGreatDoor.pfl x):=by
 have:=aG1 h.held
 rw [<- h.pfl] at this
 exact this
theorem Takes.calls{m:Md}{s:ByteArray}{x:Ps}{T:List Tp}(h:Takes m s x T){w:World}(hG:Glb w):aH7 s m w (uW w x):=by
 refine(pZ hG s m h.lex h.held h.wf h.pfl).mono fun e w' q=>?_
 unfold fS at q
 rw [if_neg (by have:=h.dp;omega),if_neg (by have:=h.sz;omega)] at q
 exact q
theorem aK2{w:World}(hG:Glb w)(s:ByteArray)(m:Md):(∃ c a,∀ W,Below w.heap.size w W->aH7 s m W (fH W c a))\/∃ x T,Takes m s x T:=by
 cases hl:iY m s with
 | error y=>exact .inl ⟨y.1,y.2,fun W hW=>aK1 (hG.kept hW) s m hl⟩
 | ok T=>
  cases hh:fW T with
  | some y=>exact .inl ⟨y.1,y.2,fun W hW=>zQ (hG.kept hW) s m hl hh⟩
  | none=>
   obtain⟨x,hw,hx⟩:=aZ1 hl hh
   have PT:∀ W,Below w.heap.size w W->aH7 s m W (fS W x):=fun W hW=>pZ (hG.kept hW) s m hl hh hw hx
   unfold fS at PT
   by_cases hd:40 < x.dp
   ·simp only [if_pos hd] at PT
    exact .inl ⟨43,0,PT⟩
   ·by_cases hn:2000 < x.sz
    ·simp only [if_neg hd,if_pos hn] at PT
     exact .inl ⟨42,0,PT⟩
    ·exact .inr ⟨x,T,hl,hh,hw,hx,by omega,by omega⟩
theorem aL3{m:Md}{s:ByteArray}{T:List Tp}(h:iY m s=.ok T):∀ t∈T,1<=t.1.kind/\t.1.kind<=8:=fun t ht=>by
 obtain⟨p,hb⟩:=lU h
 exact⟨(hb.tok t ht).ok.1,(hb.tok t ht).ok.2.1⟩
section
open Go
def sl(s:ByteArray)(p n:Nat):List UInt8:=(s.data.toList.drop p).take n
theorem bO0(s:ByteArray)(p:Nat):Lib.decodeL (s.data.toList.drop p)=Utf8.decode s p:=by
 rw [Lib.decodeL_N,Lib.decode_N,List.length_drop]
 simp only [List.getD_eq_getElem?_getD,List.getElem?_drop,Nat.add_zero]
theorem bL5(s:ByteArray)(p:Nat)(hp:p < s.size)(hb:bad s p=false):Lib.encodeRune ((Utf8.decode s p).1:Int)=sl s p (wd s p):=by
 have hne:s.data.toList.drop p≠[]:=by
  intro e
  have:=congrArg List.length e
  rw [List.length_drop,bH] at this
  simp at this;omega
 have:=Lib.encode_decode (s.data.toList.drop p) hne (by
  rw [bO0]
  rintro ⟨h1,h2⟩
  have:bad s p=true:=by
   unfold bad
   rw [decide_eq_true_eq]
   exact Prod.ext h1 h2
  rw [hb] at this;cases this)
 rw [bO0] at this
 exact this
theorem lH{s:ByteArray}{p n i:Nat}{l:List UInt8}(h:sl s p n=l)(hi:i < l.length):bt s (p+i)=(l[i]).toNat/\i < s.size - p:=by
 have hl:i < ((s.data.toList.drop p).take n).length:=by rw [show (s.data.toList.drop p).take n=l from h];exact hi
 have hl':=hl
 rw [List.length_take,List.length_drop,bH] at hl'
 have e:l[i]?=s.data.toList[p+i]?:=by
  rw [<- h,sl,List.getElem?_take_of_lt (by omega),List.getElem?_drop]
 rw [List.getElem?_eq_getElem hi] at e
 refine⟨?_,by omega⟩
 unfold bt
 rw [List.getD_eq_getElem?_getD,<- e]
 rfl
theorem aB4{s:ByteArray}{p:Nat}{c:Int}(hc:0<=c/\c<=1114111/\(c < 55296\/57343 < c))(h:sl s p (Lib.encodeRune c).length=Lib.encodeRune c):((Utf8.decode s p).1:Int)=c/\wd s p=(Lib.encodeRune c).length/\bad s p=false:=by
 obtain⟨r0,r1,r2⟩:=hc
 have key:∀ (m:Nat),Utf8.decode s p=(c.toNat,m)->(c.toNat,m)≠((65533,1):Nat × Nat)->((Utf8.decode s p).1:Int)=c/\wd s p=m/\bad s p=false:=fun m e hne=>by
  refine⟨by rw [e];simp only;omega,by unfold wd;rw [e],?_⟩
  unfold bad
  rw [e]
  simpa using hne
 by_cases h1:c<=127
 ·have hE:Lib.encodeRune c=[c].map fun x=>x.toNat.toUInt8:=by rw [Lib.encodeRune,Lib.encodeRuneZ_one r0 h1]
  rw [hE] at h ⊢
  obtain⟨b0,s0⟩:=lH h (i:=0) (by simp)
  simp at b0
  refine key 1 ?_ (by simp;omega)
  rw [mA]
  have:bt s p=c.toNat:=by omega
  rw [this]
  unfold Lib.decodeN
  rw [if_pos (by omega)]
 by_cases h2:c<=2047
 ·have hE:Lib.encodeRune c=[192+c / 64,128+c % 64].map fun x=>x.toNat.toUInt8:=by rw [Lib.encodeRune,Lib.encodeRuneZ_two (by omega) h2]
  rw [hE] at h ⊢
  obtain⟨b0,s0⟩:=lH h (i:=0) (by simp)
  obtain⟨b1,s1⟩:=lH h (i:=1) (by simp)
  simp at b0 b1
  refine key 2 ?_ (by simp)
  rw [mA]
  have e0:bt s p=192+c.toNat / 64:=by omega
  have e1:bt s (p+1)=128+c.toNat % 64:=by omega
  have hl:c.toNat<=2047:=by omega
  have hg:128<=c.toNat:=by omega
  rw [e0,e1]
  generalize c.toNat=m at *
  unfold Lib.decodeN
  rw [if_neg (by omega),if_pos (by omega),if_pos (by omega)]
  apply Prod.ext <;> simp only <;> omega
 by_cases h3:c<=65535
 ·have hE:Lib.encodeRune c=[224+c / 4096,128+c / 64 % 64,128+c % 64].map fun x=>x.toNat.toUInt8:=by rw [Lib.encodeRune,Lib.encodeRuneZ_three (by omega)]
  rw [hE] at h ⊢
  obtain⟨b0,s0⟩:=lH h (i:=0) (by simp)
  obtain⟨b1,s1⟩:=lH h (i:=1) (by simp)
  obtain⟨b2,s2⟩:=lH h (i:=2) (by simp)
  simp at b0 b1 b2
  refine key 3 ?_ (by simp)
  rw [mA]
  have e0:bt s p=224+c.toNat / 4096:=by omega
  have e1:bt s (p+1)=128+c.toNat / 64 % 64:=by omega
  have e2:bt s (p+2)=128+c.toNat % 64:=by omega
  have hl:c.toNat<=65535:=by omega
  have hg:2048<=c.toNat:=by omega
  have hv:c.toNat < 55296\/57344<=c.toNat:=by omega
  rw [e0,e1,e2]
  generalize c.toNat=m at *
  unfold Lib.decodeN
  rw [if_neg (by omega),if_neg (by omega),if_pos (by omega),if_pos (by omega)]
  apply Prod.ext <;> simp only <;> omega
 ·have hE:Lib.encodeRune c=[240+c / 262144,128+c / 4096 % 64,128+c / 64 % 64,128+c % 64].map fun x=>x.toNat.toUInt8:=by rw [Lib.encodeRune,Lib.encodeRuneZ_four (by omega) (by omega)]
  rw [hE] at h ⊢
  obtain⟨b0,s0⟩:=lH h (i:=0) (by simp)
  obtain⟨b1,s1⟩:=lH h (i:=1) (by simp)
  obtain⟨b2,s2⟩:=lH h (i:=2) (by simp)
  obtain⟨b3,s3⟩:=lH h (i:=3) (by simp)
  simp at b0 b1 b2 b3
  refine key 4 ?_ (by simp)
  rw [mA]
  have e0:bt s p=240+c.toNat / 262144:=by omega
  have e1:bt s (p+1)=128+c.toNat / 4096 % 64:=by omega
  have e2:bt s (p+2)=128+c.toNat / 64 % 64:=by omega
  have e3:bt s (p+3)=128+c.toNat % 64:=by omega
  have hl:c.toNat<=1114111:=by omega
  have hg:65536<=c.toNat:=by omega
  rw [e0,e1,e2,e3]
  generalize c.toNat=m at *
  unfold Lib.decodeN
  rw [if_neg (by omega),if_neg (by omega),if_neg (by omega),if_pos (by omega),if_pos (by omega)]
  apply Prod.ext <;> simp only <;> omega
end
section
open Go
theorem wI(l:List UInt8)(x:UInt8):fJ (l ++ [x])=min (10 * fJ l+(x.toNat - 48)) 256:=by
 unfold fJ
 rw [List.foldl_append]
 rfl
def bO(n:Nat):List UInt8:=if h:n < 10 then [UInt8.ofNat (48+n)] else bO (n / 10) ++ [UInt8.ofNat (48+n % 10)]
termination_by n
decreasing_by omega
theorem eS{n:Nat}(h:n < 10):bO n=[UInt8.ofNat (48+n)]:=by rw [bO];simp [h]
theorem mT{n:Nat}(h:¬ n < 10):bO n=bO (n / 10) ++ [UInt8.ofNat (48+n % 10)]:=by rw [bO];simp [h]
theorem uM{r:Nat}(h:r < 10):dig (UInt8.ofNat (48+r))=true/\(UInt8.ofNat (48+r)).toNat - 48=r:=by
 have:∀ r:Fin 10,dig (UInt8.ofNat (48+r.1))=true/\(UInt8.ofNat (48+r.1)).toNat - 48=r.1:=by decide
 exact this ⟨r,h⟩
theorem qF:∀ (k n:Nat),n<=k->∀ x∈bO n,dig x=true
 | k,n,hk,x,hx=>by
  by_cases h:n < 10
  ·rw [eS h] at hx;rw [List.mem_singleton.1 hx];exact(uM h).1
  ·rw [mT h] at hx
   rcases List.mem_append.1 hx with hx | hx
   ·cases k with
    | zero=>omega
    | succ k=>exact qF k (n / 10) (by omega) x hx
   ·rw [List.mem_singleton.1 hx];exact(uM (by omega)).1
theorem wL(n:Nat):0 < (bO n).length:=by
 by_cases h:n < 10
 ·rw [eS h];simp
 ·rw [mT h];simp
theorem wM:∀ (k n:Nat),n < 10 ^ k->1<=k->(bO n).length<=k
 | 0,n,h,h1=>by omega
 | k+1,n,h,_=>by
  by_cases h10:n < 10
  ·rw [eS h10];simp
  ·rw [mT h10,List.length_append,List.length_singleton]
   have h2:n / 10 < 10 ^ k:=by rw [Nat.pow_succ] at h;omega
   cases k with
   | zero=>simp at h2;omega
   | succ k=>have:=wM (k+1) (n / 10) h2 (by omega);omega
theorem qE:∀ (k n:Nat),n<=k->fJ (bO n)=min n 256
 | k,n,hk=>by
  by_cases h:n < 10
  ·rw [eS h]
   have:=wI [] (UInt8.ofNat (48+n))
   rw [List.nil_append] at this
   rw [this,(uM h).2]
   simp [fJ]
  ·rw [mT h,wI,(uM (by omega)).2]
   cases k with
   | zero=>omega
   | succ k=>rw [qE k (n / 10) (by omega)];omega
theorem iG{p:UInt8->Bool}(x:UInt8)(hx:p x=false)(r:List UInt8):∀ l:List UInt8,(∀ y∈l,p y=true)->(l ++ x :: r).takeWhile p=l
 | [],_=>by simp [hx]
 | a :: l,h=>by
  rw [List.cons_append,List.takeWhile_cons,if_pos (h a (by simp)),iG x hx r l fun y hy=>h y (by simp [hy])]
theorem bN{s:ByteArray}{A B:List UInt8}(h:s.data.toList=A ++ B)(t:List UInt8):aJ s A.length t=t.isPrefixOf B:=by
 unfold aJ Lib.hasPrefix
 rw [h,List.drop_left]
theorem uL{s:ByteArray}{A B:List UInt8}(h:s.data.toList=A ++ B):cH s A.length=B.takeWhile dig:=by
 unfold cH
 rw [h,List.drop_left]
end
section
open Go
def spE(x:Int):Bool:=x==93 || x==91 || x==45 || x==94
def cP(x:Int):List Int:=if spE x then [91,46,x,46,93] else [x]
def jX(r:Int × Int):List Int:=cP r.1 ++ (if r.1 < r.2 then 45 :: cP r.2 else [])
def dT:List (Int × Int)->List Int
 | []=>[]
 | r :: l=>jX r ++ dT l
def dR(c:Bool):List (Int × Int):=if c then [(0,55295),(57344,1114111)] else [(0,255)]
def spA(x:Int):Bool:=x==46 || x==91 || x==42 || x==94 || x==36 || x==92
def dQ(x:Int):List Int:=if spA x then [92,x] else [x]
def eW(c:Bool)(L:List (Int × Int)):List Int:=
 if L=[] then [91,94] ++ dT (dR c) ++ [93]
 else if L=dR c then [46]
 else if L.length=1/\(L.headD (0,0)).1=(L.headD (0,0)).2 then dQ (L.headD (0,0)).1
 else [91] ++ dT L ++ [93]
def nE(c:Bool)(x:Int):List UInt8:=if c then Lib.encodeRune x else [UInt8.ofNat x.toNat]
def bP(c:Bool)(l:List Int):List UInt8:=l.flatMap (nE c)
def cM(c:Bool)(L:List (Int × Int)):List UInt8:=bP c (eW c L)
theorem fY(c:Bool)(a b:List Int):bP c (a ++ b)=bP c a ++ bP c b:=by simp [bP]
theorem bM(c:Bool)(x:Int)(b:List Int):bP c (x :: b)=nE c x ++ bP c b:=by simp [bP]
theorem gU(c:Bool):bP c []=[]:=rfl
theorem cF{c:Bool}{x:Int}(h0:0<=x)(h1:x < 128):nE c x=[UInt8.ofNat x.toNat]:=by
 unfold nE
 split
 ·rw [Lib.encodeRune,Lib.encodeRuneZ_one h0 (by omega)];rfl
 ·rfl
theorem jW{x:Int}(h0:0<=x)(h1:x<=255):((UInt8.ofNat x.toNat).toNat:Int)=x:=by
 rw [UInt8.toNat_ofNat']
 omega
theorem nD{c:Bool}{x:Int}(h:aU c x):∃ b t,nE c x=b :: t/\((x < 128/\(b.toNat:Int)=x/\t=[])\/(128<=x/\128<=b.toNat)):=by
 obtain⟨h0,h1,h2⟩:=h
 by_cases hx:x < 128
 ·exact⟨_,_,cF h0 hx,.inl ⟨hx,jW h0 (by omega),rfl⟩⟩
 ·unfold nE
  cases c with
  | false=>
   simp only [top,Bool.false_eq_true,if_false] at h1 ⊢
   exact⟨_,_,rfl,.inr ⟨by omega,by have:=jW h0 h1;omega⟩⟩
  | true=>
   simp only [top,if_true] at h1 ⊢
   have h3:=h2 rfl
   have key:∀ z:Int,128<=z->z<=255->128<=(z.toNat.toUInt8).toNat:=fun z q0 q1=>by
    have:(z.toNat.toUInt8).toNat=z.toNat % 256:=UInt8.toNat_ofNat'
    omega
   unfold Lib.encodeRune
   by_cases g1:x<=2047
   ·rw [Lib.encodeRuneZ_two (by omega) g1]
    exact⟨_,_,rfl,.inr ⟨by omega,key _ (by omega) (by omega)⟩⟩
   ·by_cases g2:x<=65535
    ·rw [Lib.encodeRuneZ_three (by omega)]
     exact⟨_,_,rfl,.inr ⟨by omega,key _ (by omega) (by omega)⟩⟩
    ·rw [Lib.encodeRuneZ_four (by omega) h1]
     exact⟨_,_,rfl,.inr ⟨by omega,key _ (by omega) (by omega)⟩⟩
theorem bE3(c:Bool)(x:Int):(nE c x).length<=4:=by
 unfold nE
 split
 ·have:=(Lib.runeCells_le x).2
  rwa [Lib.runeCells_length] at this
 ·simp
theorem aV6(c:Bool)(l:List Int):(bP c l).length<=4 * l.length:=by
 induction l with
 | nil=>simp [bP]
 | cons x l ih=>rw [bM,List.length_append,List.length_cons];have:=bE3 c x;omega
theorem fC(k b:UInt8)(t:List UInt8):[k].isPrefixOf (b :: t)=(k==b):=by simp [List.isPrefixOf]
theorem kU(k j b c:UInt8)(t:List UInt8):[k,j].isPrefixOf (b :: c :: t)=(k==b && j==c):=by simp [List.isPrefixOf]
theorem jJ{k b:UInt8}(j:List UInt8)(t:List UInt8)(h:b≠k):(k :: j).isPrefixOf (b :: t)=false:=by
 simp [List.isPrefixOf,Ne.symm h]
theorem aB8{m:Md}{s:ByteArray}{A R:List UInt8}{x:Int}(h:s.data.toList=A ++ (nE m.c x ++ R))(hx:aU m.c x):chr m s A.length=.ok (x,A.length+(nE m.c x).length):=by
 obtain⟨h0,h1,h2⟩:=hx
 have key:un m s A.length=(x,(nE m.c x).length):=by
  unfold un nE at *
  cases hc:m.c with
  | true=>
   rw [hc] at h h1 h2
   simp only [if_true,top] at h h1 ⊢
   have hs:sl s A.length (Lib.encodeRune x).length=Lib.encodeRune x:=by
    unfold sl
    rw [h];simp
   obtain⟨q1,q2,q3⟩:=aB4 ⟨h0,h1,h2 rfl⟩ hs
   rw [uN q3,q1,q2]
  | false=>
   rw [hc] at h h1
   simp only [top,Bool.false_eq_true,if_false] at h h1 ⊢
   have:=(fL (s:=s) (p:=A.length) (x:=UInt8.ofNat x.toNat)).1 (by rw [h];simp)
   rw [this.2,jW h0 h1];rfl
 unfold chr
 rw [key,if_neg (by simp only;omega)]
theorem qN{c:Bool}{x:Int}(h:aU c x):∃ b t,bP c (cP x)=b :: t/\b≠93/\b≠45/\b≠94/\((b=91/\∃ t',t=46 :: t')\/(b≠91/\spE x=false)):=by
 unfold cP
 split
 ·rename_i hs
  refine⟨91,_,by rw [bM,cF (by decide) (by decide)];rfl,by decide,by decide,by decide,.inl ⟨rfl,?_⟩⟩
  exact⟨_,by rw [bM,cF (by decide) (by decide)];rfl⟩
 ·rename_i hs
  have hs':spE x=false:=by simpa using hs
  obtain⟨b,t,e,hb⟩:=nD h
  have hn:∀ k:UInt8,k.toNat < 128->(k.toNat:Int)≠x->b≠k:=fun k hk hx e2=>by
   subst e2
   rcases hb with⟨_,q,_⟩ | ⟨_,q⟩
   ·exact hx q
   ·omega
  simp only [spE,Bool.or_eq_false_iff,beq_eq_false_iff_ne] at hs'
  refine⟨b,t,by rw [bM,gU,List.append_nil];exact e,hn 93 (by decide) (fun q=>hs'.1.1.1 q.symm),hn 45 (by decide) (fun q=>hs'.1.2 q.symm),hn 94 (by decide) (fun q=>hs'.2 q.symm),.inr ⟨hn 91 (by decide) (fun q=>hs'.1.1.2 q.symm),?_⟩⟩
  simpa using hs
theorem rY{x:Int}(h:spE x=true):x=93\/x=91\/x=45\/x=94:=by
 simp only [spE,Bool.or_eq_true,beq_iff_eq] at h
 omega
theorem gL{s:ByteArray}{l:List UInt8}(h:s.data.toList=l):s.size=l.length:=by rw [<- bH,h]
theorem uJ{m:Md}{s:ByteArray}{A R:List UInt8}{x:Int}(h:s.data.toList=A ++ (bP m.c (cP x) ++ R))(hx:aU m.c x)(o:Nat):oX m s o A.length=.ok (x,A.length+(bP m.c (cP x)).length):=by
 obtain⟨b,t,e,-,-,-,hb⟩:=qN hx
 have hz:=gL h
 have hlt:A.length < s.size:=by rw [hz,e];simp
 unfold oX
 rw [if_neg (by omega)]
 rcases hb with⟨rfl,t',rfl⟩ | ⟨hb,hs⟩
 ·have hsp:spE x=true:=by
   cases hq:spE x with
   | true=>rfl
   | false=>
    exfalso
    unfold cP at e
    rw [hq] at e
    simp only [Bool.false_eq_true,if_false] at e
    rw [bM,gU,List.append_nil] at e
    obtain⟨b,t,e2,q⟩:=nD hx
    rw [e] at e2
    injection e2 with e3 e4
    subst e3
    rcases q with⟨_,q,_⟩ | ⟨_,q⟩
    ·rw [<- q] at hq;simp [spE] at hq
    ·revert q;decide
  have hxl:0<=x/\x < 128:=by have:=rY hsp;omega
  have e5:bP m.c (cP x)=[91,46,UInt8.ofNat x.toNat,46,93]:=by
   unfold cP
   rw [hsp,if_pos rfl]
   simp only [bM,gU]
   rw [cF (x:=91) (by decide) (by decide),cF (x:=46) (by decide) (by decide),cF (x:=93) (by decide) (by decide),cF hxl.1 hxl.2]
   rfl
  rw [e5] at h hz ⊢
  have hs2:aJ s A.length [91,46]=true:=by rw [bN h];simp [List.isPrefixOf]
  rw [if_pos hs2]
  have hz2:s.size=A.length+5+R.length:=by rw [hz];simp;omega
  have w1:wit s o A.length 1=.ok (A.length+3):=by
   unfold wit
   have hb1:bt s (A.length+1)=46:=((fL (x:=46)).1 (by rw [h];simp)).2
   rw [hb1,show A.length+2+min 1 (s.size - (A.length+2))=A.length+3 by omega]
   rw [bL0 (e:=A.length+3) (by simp) lz9 ?_ (fun j h1 h2=>by omega)]
   rw [eE]
   exact⟨by omega,((fL (x:=46)).1 (by rw [h];simp)).2,((fL (x:=93)).1 (by rw [h,show A.length+3+1=A.length+4 by omega];simp)).2⟩
  unfold qQ
  rw [w1]
  simp only
  have hex:s.extract (A.length+2) (A.length+3)=⟨#[UInt8.ofNat x.toNat]⟩:=by
   apply ByteArray.ext
   apply Array.ext'
   rw [ByteArray.data_extract,Array.toList_extract,List.extract_eq_take_drop,h,show A.length+3 - (A.length+2)=1 by omega]
   rw [List.drop_append,List.drop_of_length_le (by omega),show A.length+2 - A.length=2 by omega]
   simp
  have hu:un m (⟨#[UInt8.ofNat x.toNat]⟩:ByteArray) 0=(x,1):=by
   have hc:=aB8 (m:=m) (s:=⟨#[UInt8.ofNat x.toNat]⟩) (A:=[]) (R:=[]) (x:=x) (by rw [cF hxl.1 hxl.2];rfl) hx
   unfold chr at hc
   rw [List.length_nil,cF hxl.1 hxl.2] at hc
   split at hc
   ·cases hc
   ·injection hc with hc
    injection hc with h1 h2
    refine Prod.ext h1 ?_
    simp only [List.length_singleton] at h2
    omega
  rw [hex,hu,if_neg (by simp only;omega)]
  rfl
 ·have e5:bP m.c (cP x)=nE m.c x:=by
   unfold cP
   rw [hs]
   simp [bP]
  have hs2:aJ s A.length [91,46]=false:=by rw [bN h,e];exact jJ _ _ hb
  rw [hs2,e5]
  rw [e5] at h
  exact aB8 h hx
def jH(c:Bool)(r:Int × Int):List UInt8:=bP c (jX r)
def eZ(c:Bool)(l:List (Int × Int)):List UInt8:=bP c (dT l)
theorem dL(c:Bool)(r:Int × Int)(l:List (Int × Int)):eZ c (r :: l)=jH c r ++ eZ c l:=by rw [eZ,dT,fY];rfl
theorem vS{c:Bool}{r:Int × Int}(h:r.1 < r.2):jH c r=bP c (cP r.1) ++ 45 :: bP c (cP r.2):=by
 unfold jH jX
 rw [if_pos h,fY,bM,cF (x:=45) (by decide) (by decide)]
 rfl
theorem vT{c:Bool}{r:Int × Int}(h:¬ r.1 < r.2):jH c r=bP c (cP r.1):=by
 unfold jH jX
 rw [if_neg h,List.append_nil]
def jE(c:Bool)(r:Int × Int):Prop:=aU c r.1/\aU c r.2/\r.1<=r.2
theorem iO{c:Bool}{r:Int × Int}(h:jE c r):∃ b t,jH c r=b :: t/\b≠93/\b≠45/\b≠94/\((b=91/\∃ t',t=46 :: t')\/b≠91):=by
 obtain⟨b,t,e,h1,h2,h3,h4⟩:=qN h.1
 have:∃ u,jH c r=bP c (cP r.1) ++ u:=by
  by_cases q:r.1 < r.2
  ·exact⟨_,vS q⟩
  ·exact⟨[],by rw [vT q,List.append_nil]⟩
 obtain⟨u,hu⟩:=this
 rw [e] at hu
 refine⟨b,t ++ u,hu,h1,h2,h3,?_⟩
 rcases h4 with⟨q,t',rfl⟩ | ⟨q,-⟩
 ·exact .inl ⟨q,t' ++ u,rfl⟩
 ·exact .inr q
theorem bI8{m:Md}{s:ByteArray}{A R:List UInt8}{r:Int × Int}(h:s.data.toList=A ++ (jH m.c r ++ R))(hr:jE m.c r)(hR:∀ t,R≠45 :: t)(o:Nat):spn m s o A.length=.ok ([r],A.length+(jH m.c r).length):=by
 obtain⟨h1,h2,h3⟩:=hr
 unfold spn
 by_cases q:r.1 < r.2
 ·rw [vS q] at h ⊢
  have h':s.data.toList=A ++ (bP m.c (cP r.1) ++ (45 :: (bP m.c (cP r.2) ++ R))):=by rw [h];simp
  rw [uJ h' h1 o]
  simp only
  obtain⟨b,t,e,n93,n45,n94,hb⟩:=qN h2
  have hq:s.data.toList=(A ++ bP m.c (cP r.1)) ++ (45 :: (bP m.c (cP r.2) ++ R)):=by rw [h];simp
  have hq1:s.data.toList=(A ++ bP m.c (cP r.1) ++ [45]) ++ (bP m.c (cP r.2) ++ R):=by rw [h];simp
  have l1:A.length+(bP m.c (cP r.1)).length=(A ++ bP m.c (cP r.1)).length:=by simp
  have l2:A.length+(bP m.c (cP r.1)).length+1=(A ++ bP m.c (cP r.1) ++ [45]).length:=by simp;omega
  rw [l2,uJ hq1 h2 o]
  rw [l1]
  rw [bN hq,bN hq,bN hq1,bN hq1,e]
  have c1:([45,93]:List UInt8).isPrefixOf (45 :: (b :: t ++ R))=false:=by rw [List.cons_append,kU];simp [Ne.symm n93]
  have c2:([45]:List UInt8).isPrefixOf (45 :: (b :: t ++ R))=true:=by rw [fC];rfl
  have c3:∀ k:UInt8,k≠46->([91,k]:List UInt8).isPrefixOf (b :: t ++ R)=false:=fun k hk=>by
   rcases hb with⟨rfl,t',rfl⟩ | ⟨hb,-⟩
   ·rw [List.cons_append,List.cons_append,kU];simp [hk]
   ·rw [List.cons_append];exact jJ _ _ hb
  rw [c1,c2,c3 58 (by decide),c3 61 (by decide)]
  simp only [Bool.not_true,Bool.or_self,Bool.false_eq_true,if_false]
  rw [if_neg (by omega)]
  simp only [List.length_append,List.length_cons,List.length_nil]
  refine congrArg Except.ok (Prod.ext rfl ?_)
  simp only
  omega
 ·rw [vT q] at h ⊢
  rw [uJ h h1 o]
  simp only
  have hq:s.data.toList=(A ++ bP m.c (cP r.1)) ++ R:=by rw [h];simp
  have l1:A.length+(bP m.c (cP r.1)).length=(A ++ bP m.c (cP r.1)).length:=by simp
  rw [l1,bN hq,bN hq]
  have c2:([45]:List UInt8).isPrefixOf R=false:=by
   match R,hR with
   | [],_=>rfl
   | b :: t,hR=>exact jJ _ _ (fun e=>hR t (by rw [e]))
  rw [c2]
  simp only [Bool.not_false,Bool.or_true,if_true]
  have e:r=(r.1,r.1):=Prod.ext rfl (by simp only;omega)
  rw [<- e]
theorem aP7{m:Md}{s:ByteArray}{A R:List UInt8}{r:Int × Int}(h:s.data.toList=A ++ (jH m.c r ++ R))(hr:jE m.c r)(hR:∀ t,R≠45 :: t)(o:Nat):sgl m s o A.length=.ok ([r],A.length+(jH m.c r).length):=by
 obtain⟨b,t,e,n93,n45,n94,hb⟩:=iO hr
 have c3:∀ k:UInt8,k≠46->aJ s A.length [91,k]=false:=fun k hk=>by
  rw [bN h,e]
  rcases hb with⟨rfl,t',rfl⟩ | hb
  ·rw [List.cons_append,List.cons_append,kU];simp [hk]
  ·rw [List.cons_append];exact jJ _ _ hb
 unfold sgl
 rw [c3 58 (by decide),c3 61 (by decide)]
 simp only [Bool.false_eq_true,if_false]
 exact bI8 h hr hR o
theorem aT4{m:Md}{s:ByteArray}{R:List UInt8}(o:Nat):∀ (l:List (Int × Int)) (f:Nat) (A:List UInt8) (acc:List (Int × Int)),s.data.toList=A ++ (eZ m.c l ++ 93 :: R)->(∀ r∈l,jE m.c r)->l.length < f->its m s o f A.length acc=.ok (acc ++ l,A.length+(eZ m.c l).length+1)
 | l,0,A,acc,_,_,hf=>by omega
 | [],f+1,A,acc,h,hl,hf=>by
  have h':s.data.toList=A ++ (93 :: R):=by rw [h];rfl
  unfold its
  rw [bN h',fC]
  simp [eZ,dT,bP]
 | r :: l,f+1,A,acc,h,hl,hf=>by
  have hr:=hl r (List.mem_cons_self ..)
  obtain⟨b,t,e,n93,n45,n94,hb⟩:=iO hr
  rw [dL] at h ⊢
  have h':s.data.toList=A ++ (jH m.c r ++ (eZ m.c l ++ 93 :: R)):=by rw [h];simp
  have hR:∀ t,eZ m.c l ++ 93 :: R≠45 :: t:=by
   intro t ht
   cases l with
   | nil=>rw [show eZ m.c []=[] from rfl,List.nil_append] at ht;injection ht with h1 _;revert h1;decide
   | cons r2 l=>
    obtain⟨b2,t2,e2,_,n2,_,_⟩:=iO (hl r2 (by simp))
    rw [dL,e2] at ht
    injection ht with h1 _
    exact n2 h1
  have s93:aJ s A.length [93]=false:=by rw [bN h',e];exact jJ _ _ n93
  have s45:aJ s A.length [45]=false:=by rw [bN h',e];exact jJ _ _ n45
  unfold its
  rw [s93]
  simp only [Bool.false_eq_true,if_false]
  unfold itm
  rw [s45]
  simp only [Bool.not_false,Bool.true_or,if_true]
  rw [aP7 h' hr hR o]
  simp only
  have l1:A.length+(jH m.c r).length=(A ++ jH m.c r).length:=by simp
  rw [l1,aT4 (R:=R) o l f (A ++ jH m.c r) (acc ++ [r]) (by rw [h];simp) (fun x hx=>hl x (List.mem_cons_of_mem _ hx)) (by simp at hf;omega)]
  simp only [List.length_append,List.append_assoc,List.singleton_append]
  refine congrArg Except.ok (Prod.ext rfl ?_)
  simp only
  omega
theorem vR{c:Bool}:∀ (l:List (Int × Int)),(∀ r∈l,jE c r)->l.length<=(eZ c l).length
 | [],_=>Nat.zero_le _
 | r :: l,h=>by
  obtain⟨b,t,e,-⟩:=iO (h r (List.mem_cons_self ..))
  have:=vR l (fun x hx=>h x (List.mem_cons_of_mem _ hx))
  rw [dL,e,List.length_append,List.length_cons,List.length_cons]
  omega
theorem aX5{m:Md}{s:ByteArray}{A R:List UInt8}{l:List (Int × Int)}(v:Bool)(hne:l≠[])(h:s.data.toList=A ++ (91 :: ((if v then [94] else []) ++ (eZ m.c l ++ 93 :: R))))(hl:∀ r∈l,jE m.c r) :
  brk m s A.length=.ok (bJ m l v,A.length+1+(if v then 1 else 0)+(eZ m.c l).length+1):=by
 match l,hne with
 | r :: l,_=>
  have hr:=hl r (List.mem_cons_self ..)
  obtain⟨b,t,e,n93,n45,n94,hb⟩:=iO hr
  have hz:=gL h
  have h1:s.data.toList=(A ++ [91]) ++ ((if v then [94] else []) ++ (eZ m.c (r :: l) ++ 93 :: R)):=by rw [h];simp
  have sv:aJ s (A.length+1) [94]=v:=by
   have l1:A.length+1=(A ++ [91]).length:=by simp
   rw [l1,bN h1]
   cases v with
   | true=>simp
   | false=>rw [dL,e];exact jJ _ _ n94
  have h2:s.data.toList=(A ++ [91] ++ (if v then [94] else [])) ++ (jH m.c r ++ (eZ m.c l ++ 93 :: R)):=by rw [h,dL];simp
  have l2:(if v then A.length+2 else A.length+1)=(A ++ [91] ++ (if v then [94] else [])).length:=by cases v <;> simp
  have hR:∀ t,eZ m.c l ++ 93 :: R≠45 :: t:=by
   intro t ht
   cases l with
   | nil=>rw [show eZ m.c []=[] from rfl,List.nil_append] at ht;injection ht with h1 _;revert h1;decide
   | cons r2 l=>
    obtain⟨b2,t2,e2,_,n2,_,_⟩:=iO (hl r2 (by simp))
    rw [dL,e2] at ht
    injection ht with h1 _
    exact n2 h1
  unfold brk
  rw [sv,l2,aP7 h2 hr hR]
  simp only
  have l3:(A ++ [91] ++ (if v then [94] else [])).length+(jH m.c r).length=(A ++ [91] ++ (if v then [94] else []) ++ jH m.c r).length:=by simp only [List.length_append]
  have hll:=vR l (fun x hx=>hl x (List.mem_cons_of_mem _ hx))
  rw [l3,aT4 (R:=R) A.length l (s.size+1) (A ++ [91] ++ (if v then [94] else []) ++ jH m.c r) [r] (by rw [h2];simp) (fun x hx=>hl x (List.mem_cons_of_mem _ hx)) (by
   rw [hz,dL];simp only [List.length_append,List.length_cons];omega)]
  simp only [List.singleton_append]
  refine congrArg Except.ok (Prod.ext rfl ?_)
  rw [dL]
  simp only [List.length_append,List.length_cons,List.length_nil]
  cases v <;> simp <;> omega
theorem oD(c:Bool):∀ r∈dR c,jE c r:=by
 intro r hr
 unfold jE aU
 cases c with
 | true=>
  simp only [dR,if_true,List.mem_cons,List.not_mem_nil,or_false,top] at hr ⊢
  rcases hr with rfl | rfl <;> simp
 | false=>
  simp only [dR,Bool.false_eq_true,if_false,List.mem_cons,List.not_mem_nil,or_false,top] at hr ⊢
  subst hr;simp
theorem aC8(c:Bool)(x:Int):In (dR c) x ↔ aU c x:=by
 unfold aU dR top
 cases c with
 | true=>simp only [if_true,bD,eU,or_false,true_imp_iff];omega
 | false=>simp only [Bool.false_eq_true,if_false,bD,eU,or_false,false_imp_iff,and_true]
theorem oE(c:Bool):IsC (dR c) (aU c):=by
 refine⟨?_,?_,aC8 c⟩
 ·cases c with
  | true=>exact⟨fun r hr=>(oD true r hr).2.2,by simp [dR]⟩
  | false=>exact⟨fun r hr=>(oD false r hr).2.2,by simp [dR]⟩
 ·intro r hr
  have:=oD c r hr
  unfold jE aU top at this
  cases c <;> simp only [if_true,Bool.false_eq_true,if_false] at this <;> omega
theorem gR{c f:Bool}{L:List (Int × Int)}(h:mL c f L):∀ r∈L,jE c r:=by
 intro r hr
 have hs:=h.1.cls.some r hr
 exact⟨((h.1.mem r.1).1 ⟨r,hr,Int.le_refl _,hs⟩).2,((h.1.mem r.2).1 ⟨r,hr,hs,Int.le_refl _⟩).2,hs⟩
theorem vO{c f:Bool}{L:List (Int × Int)}(h:mL c f L){x:Int}(hx:In L x):aU c x:=((h.1.mem x).1 hx).2
theorem aE0{m:Md}{L:List (Int × Int)}(h:mL m.c m.f L)(x:Int):eN m L false x ↔ In L x:=by
 unfold eN
 simp only [Bool.false_eq_true,if_false]
 have key:(if m.f=true then kG (In L) x else In L x) ↔ In L x:=by
  cases hf:m.f with
  | false=>simp
  | true=>simp only [if_true];exact(h.2 hf x).symm
 rw [key]
 exact⟨fun q=>q.2,fun q=>⟨vO h q,q⟩⟩
theorem kO{m:Md}{s:ByteArray}{p last:Nat}{b:UInt8}(hp:p < s.size)(hb:bt s p=b.toNat)(n1:b≠92)(n2:b≠42)(n3:b≠94)(n4:b≠36):tok m s p last=if b=46 then .ok (bJ m [] true,p+1) else if b=91 then brk m s p else (match chr m s p with
  | .error e=>.error e
  | .ok (c,q)=>.ok (bJ m [(c,c)] false,q)):=by
 have hs:∀ k:UInt8,aJ s p [k]=decide (b=k):=fun k=>by
  rw [Bool.eq_iff_iff,iN,decide_eq_true_eq,hb]
  exact⟨fun q=>UInt8.toNat_inj.1 q.2,fun q=>⟨hp,by rw [q]⟩⟩
 unfold tok
 rw [hs,hs,hs,hs,hs,hs,decide_eq_false n1,decide_eq_false n2,decide_eq_false n3,decide_eq_false n4]
 simp only [Bool.false_and,Bool.false_eq_true,if_false,decide_eq_true_eq]
 rfl
theorem bL2(m:Md)(s:ByteArray)(p last:Nat)(h1:¬ p+1=s.size)(hx:bt s (p+1)=46\/bt s (p+1)=91\/bt s (p+1)=93\/bt s (p+1)=42\/bt s (p+1)=94\/bt s (p+1)=36\/bt s (p+1)=92\/bt s (p+1)=47):esc m s p last=.ok (bJ m [((bt s (p+1):Int),(bt s (p+1):Int))] false,p+2):=by
 unfold esc
 rw [if_neg h1,if_neg (by omega),if_neg (by omega),if_neg (by omega),if_neg (by omega),if_neg (by omega),if_pos hx]
theorem aD6{m:Md}{s:ByteArray}{A R:List UInt8}{L:List (Int × Int)}(hL:mL m.c m.f L)(h:s.data.toList=A ++ (cM m.c L ++ R))(last:Nat) :
  ∃ t,tok m s A.length last=.ok (t,A.length+(cM m.c L).length)/\t.kind=1/\rsQ t.q=L:=by
 have fin:∀ M v,(∀ x,eN m M v x ↔ In L x)->∃ t,(.ok (bJ m M v,A.length+(cM m.c L).length):Rs (Tk × Nat))=.ok (t,A.length+(cM m.c L).length)/\t.kind=1/\rsQ t.q=L:=fun M v q=>
  ⟨_,rfl,rfl,zH (hL.1.to fun x=>⟨fun k=>(q x).2 k.1,fun k=>⟨(q x).1 k,vO hL ((q x).1 k)⟩⟩)⟩
 have e91:∀ l,bP m.c ([91] ++ l ++ [93])=91 :: (bP m.c l ++ [93]):=fun l=>by
  rw [fY,fY,bM,gU,bM,gU,cF (x:=91) (by decide) (by decide),cF (x:=93) (by decide) (by decide)]
  rfl
 have hb0:∀ b t,cM m.c L=b :: t->A.length < s.size/\bt s A.length=b.toNat:=fun b t e=>fL.1 (by rw [h,e];simp)
 by_cases c1:L=[]
 ·subst c1
  have e:cM m.c []=91 :: ([94] ++ (eZ m.c (dR m.c) ++ [93])):=by
   unfold cM eW
   rw [if_pos rfl,show ([91,94] ++ dT (dR m.c) ++ [93]:List Int)=[91] ++ (94 :: dT (dR m.c)) ++ [93] from rfl,e91,bM,cF (x:=94) (by decide) (by decide)]
   rfl
  obtain⟨q1,q2⟩:=hb0 _ _ e
  rw [kO q1 q2 (by decide) (by decide) (by decide) (by decide),if_neg (by decide),if_pos rfl]
  rw [aX5 true (l:=dR m.c) (R:=R) (by cases m.c <;> simp [dR]) (by rw [h,e];simp) (oD m.c)]
  have el:A.length+1+(if true=true then 1 else 0)+(eZ m.c (dR m.c)).length+1=A.length+(cM m.c []).length:=by rw [e];simp;omega
  rw [el]
  refine fin _ _ fun x=>?_
  unfold eN
  simp only [if_true]
  refine⟨fun q=>?_,fun q=>absurd q (eU _)⟩
  exfalso
  refine q.2 ?_
  have:=(aC8 m.c x).2 q.1
  cases m.f with
  | false=>simpa using this
  | true=>simp only [if_true];exact .inl this
 by_cases c2:L=dR m.c
 ·have e:cM m.c L=[46]:=by
   unfold cM eW
   rw [if_neg c1,if_pos c2,bM,gU,cF (x:=46) (by decide) (by decide)]
   rfl
  obtain⟨q1,q2⟩:=hb0 _ _ e
  rw [kO q1 q2 (by decide) (by decide) (by decide) (by decide),if_pos rfl]
  have el:A.length+1=A.length+(cM m.c L).length:=by rw [e];simp
  rw [el]
  refine fin _ _ fun x=>?_
  rw [c2,aC8]
  unfold eN
  simp only [if_true]
  refine⟨fun q=>q.1,fun q=>⟨q,?_⟩⟩
  cases m.f with
  | false=>simpa using eU x
  | true=>simp only [if_true,kG];simp [eU]
 by_cases c3:L.length=1/\(L.headD (0,0)).1=(L.headD (0,0)).2
 ·obtain⟨r,rfl⟩:∃ r,L=[r]:=by
   match L,c3.1 with
   | [r],_=>exact⟨r,rfl⟩
  have c4:r.1=r.2:=c3.2
  have hr:=gR hL r (by simp)
  obtain⟨x,rfl⟩:∃ x,r=(x,x):=⟨r.1,Prod.ext rfl c4.symm⟩
  have e:cM m.c [(x,x)]=bP m.c (dQ x):=by
   unfold cM eW
   rw [if_neg c1,if_neg c2,if_pos c3]
   rfl
  have hq:∀ y,eN m [(x,x)] false y ↔ In [(x,x)] y:=aE0 hL
  cases hsp:spA x with
  | true=>
   have hx:x=46\/x=91\/x=42\/x=94\/x=36\/x=92:=by simp only [spA,Bool.or_eq_true,beq_iff_eq] at hsp;omega
   have e2:cM m.c [(x,x)]=[92,UInt8.ofNat x.toNat]:=by
    rw [e,dQ,hsp,if_pos rfl,bM,bM,gU,cF (x:=92) (by decide) (by decide),cF (x:=x) (by omega) (by omega)]
    rfl
   have h':s.data.toList=A ++ (92 :: UInt8.ofNat x.toNat :: R):=by rw [h,e2];rfl
   obtain⟨q1,q2⟩:=fL.1 (show s.data.toList[A.length]?=some 92 by rw [h'];simp)
   obtain⟨q3,q4⟩:=fL.1 (show s.data.toList[A.length+1]?=some (UInt8.ofNat x.toNat) by rw [h'];simp)
   have q5:(bt s (A.length+1):Int)=x:=by rw [q4];exact jW (by omega) (by omega)
   have ht:tok m s A.length last=esc m s A.length last:=by
    unfold tok
    rw [if_pos (iN.2 ⟨q1,q2⟩)]
   rw [ht,bL2 m s A.length last (by omega) (by omega),q5]
   have el:A.length+2=A.length+(cM m.c [(x,x)]).length:=by rw [e2];rfl
   rw [el]
   exact fin _ _ hq
  | false=>
   have e2:cM m.c [(x,x)]=nE m.c x:=by
    rw [e,dQ,hsp]
    simp [bP]
   obtain⟨b,t,e3,hb⟩:=nD hr.1
   have hn:∀ k:UInt8,k.toNat < 128->(k.toNat:Int)≠x->b≠k:=fun k hk hx e2=>by
    subst e2
    rcases hb with⟨_,q,_⟩ | ⟨_,q⟩
    ·exact hx q
    ·omega
   simp only [spA,Bool.or_eq_false_iff,beq_eq_false_iff_ne] at hsp
   obtain⟨⟨⟨⟨⟨k1,k2⟩,k3⟩,k4⟩,k5⟩,k6⟩:=hsp
   obtain⟨q1,q2⟩:=hb0 b t (by rw [e2,e3])
   rw [kO q1 q2 (hn 92 (by decide) (fun q=>k6 q.symm)) (hn 42 (by decide) (fun q=>k3 q.symm)) (hn 94 (by decide) (fun q=>k4 q.symm)) (hn 36 (by decide) (fun q=>k5 q.symm)),if_neg (hn 46 (by decide) (fun q=>k1 q.symm)),if_neg (hn 91 (by decide) (fun q=>k2 q.symm))]
   rw [aB8 (R:=R) (by rw [h,e2]) hr.1]
   simp only
   rw [<- e2]
   exact fin _ _ hq
 ·have e:cM m.c L=91 :: ((if false=true then [94] else []) ++ (eZ m.c L ++ [93])):=by
   unfold cM eW
   rw [if_neg c1,if_neg c2,if_neg c3,e91]
   rfl
  obtain⟨q1,q2⟩:=hb0 _ _ e
  rw [kO q1 q2 (by decide) (by decide) (by decide) (by decide),if_neg (by decide),if_pos rfl]
  rw [aX5 false (l:=L) (R:=R) c1 (by rw [h,e];simp) (gR hL)]
  have el:A.length+1+(if false=true then 1 else 0)+(eZ m.c L).length+1=A.length+(cM m.c L).length:=by rw [e];simp;omega
  rw [el]
  exact fin _ _ (aE0 hL)
theorem bE8{m:Md}{L:List (Int × Int)}(hL:mL m.c m.f L):0 < (cM m.c L).length:=by
 obtain⟨t,h,-⟩:=aD6 (s:=⟨(cM m.c L).toArray⟩) (A:=[]) (R:=[]) hL (by simp) 0
 rcases Nat.eq_zero_or_pos (cM m.c L).length with z | z
 ·exfalso
  have hz:(⟨(cM m.c L).toArray⟩:ByteArray).size=0:=by rw [<- bH];simpa using z
  have e:cM m.c L=[]:=List.eq_nil_of_length_eq_zero z
  revert e
  unfold cM eW
  repeat' split
  ·rw [fY,fY,bM,cF (x:=91) (by decide) (by decide)];simp
  ·rw [bM,cF (x:=46) (by decide) (by decide)];simp
  ·rename_i h1 h2 h3
   unfold dQ
   split
   ·rw [bM,cF (x:=92) (by decide) (by decide)];simp
   ·match L,h3.1 with
    | [r],_=>
     obtain⟨b,t,e,-⟩:=nD (gR hL r (by simp)).1
     rw [bM]
     simp [e]
  ·rw [fY,fY,bM,cF (x:=91) (by decide) (by decide)];simp
 ·exact z
end
end Go.Proofs.YticfnglebbakkaaGreatDoor
