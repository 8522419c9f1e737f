/-
  Parts of the proof.
-/
import Derived.Test.YtpfdapnfkghgkaaGreatDoorReadsProof9B28
import Derived.Recover
import Derived.Test.YtpfdapnfkghgkaaGreatDoorReadsProof9B3
import Derived.Test.YtpfdapnfkghgkaaGreatDoorReadsProof9B5
import Derived.Test.YtpfdapnfkghgkaaGreatDoorReadsProof9B15
import Derived.Test.YtpfdapnfkghgkaaGreatDoorReadsProof9B16
import Derived.Test.YtpfdapnfkghgkaaGreatDoorReadsProof9B17
set_option maxRecDepth 100000
set_option maxHeartbeats 8000000
namespace Go.Proofs.YtpfdapnfkghgkaaGreatDoor
open Go Go.RowKit
section
attribute [local go_sem] aR
theorem pJ{P:Program}(w:World)(t xT e:TypeId)(v:Value)(h:P.underlying t=some (.pointer e)):(Instr.typeAssert (.iface t v) xT t false).run P w=.ok v w:=by
 simp [Instr.typeAssert,run_underlying h,go_sem,Result.andThen]
theorem oM{P:Program}(w:World)(t xT e:TypeId)(v:Value)(h:P.underlying t=some (.pointer e)):(Instr.typeAssert (.iface t v) xT t true).run P w=.ok (.tuple #[v,.bool true]) w:=by
 simp [Instr.typeAssert,run_underlying h,go_sem,Result.andThen]
theorem zH:Tryz.prog.underlying 62=some (.pointer 65):=by kernel_rfl
theorem zA(p q:Addr)(w:World) :
  CallsD Tryz.prog 47 #[.pointer (some p),.pointer (some q)] .returning w fun e u' w'=>e=.returned (.tuple #[])/\u'=.returning/\w'=w:=by
 refine callsD_of_wpS Tryz.func47 rfl fun c₀ cs hu=>?_
 apply wpS_seq
 apply wpS_region
 simp [wpOpsS,go_sem,recoverD,hu,Tryz.ntmps47,Exit.thenS]
 refine wpS_of_wp ?_
 rw [show (#[Value.pointer (some p),Value.pointer (some q)] ++ ((Array.replicate 7 undef).setIfInBounds 1 Value.nilIface).setIfInBounds 0 Value.nilIface)=#[Value.pointer (some p),Value.pointer (some q),.nilIface,.nilIface,undef,undef,undef,undef,undef] from rfl]
 go_wp2
 cases c₀
 simp_all [bodyPostS,results,Tryz.results47]
theorem oN(p q g:Nat)(older:List PanicEntry)(w:World)(hp:w.heap[p]?=some (.cells #[.slice none 0 0] 51 (0,0)))(hq:w.heap[q]?=some (.cells #[.nilIface] 30 (0,0)))(hpq:p≠q) :
  CallsD Tryz.prog 47 #[.pointer (some ⟨p,0,none⟩),.pointer (some ⟨q,0,none⟩)] (.panicking ({ v:=.iface 62 (.pointer (some ⟨g,0,none⟩)),recovered:=false } :: older)) w fun e u' w'=>
   e=.returned (.tuple #[])/\u'=.panicking ({ v:=.iface 62 (.pointer (some ⟨g,0,none⟩)),recovered:=true } :: older)/\w'.cell? ⟨p,0,none⟩=some (.slice none 0 0)/\w'.cell? ⟨q,0,none⟩=some (.iface 62 (.pointer (some ⟨g,0,none⟩)))/\Fr (fun k=>k=p\/k=q) w w':=by
 refine callsD_of_wpS Tryz.func47 rfl fun c₀ cs hu=>?_
 apply wpS_seq
 apply wpS_region
 simp [wpOpsS,go_sem,recoverD,hu,Tryz.ntmps47,Exit.thenS]
 refine wpS_of_wp ?_
 rw [show (#[Value.pointer (some ⟨p,0,none⟩),Value.pointer (some ⟨q,0,none⟩)] ++ ((Array.replicate 7 undef).setIfInBounds 1 (.iface 62 (.pointer (some ⟨g,0,none⟩)))).setIfInBounds 0 (.iface 62 (.pointer (some ⟨g,0,none⟩))))=#[Value.pointer (some ⟨p,0,none⟩),Value.pointer (some ⟨q,0,none⟩),.iface 62 (.pointer (some ⟨g,0,none⟩)),.iface 62 (.pointer (some ⟨g,0,none⟩)),undef,undef,undef,undef,undef] from rfl]
 have p0:w.cell? ⟨p,0,none⟩=some (.slice none 0 0):=aB hp (i:=0) rfl
 have q0:w.cell? ⟨q,0,none⟩=some .nilIface:=aB hq (i:=0) rfl
 have pf:=aP hp 0
 have qf:=aP hq 0
 have hta:∀ W,(Instr.typeAssert (.iface 62 (.pointer (some ⟨g,0,none⟩))) 20 62 false).run Tryz.prog W=.ok (.pointer (some ⟨g,0,none⟩)) W:=fun W=>pJ W _ _ _ _ zH
 go_wp2
 go_region
 refine⟨rfl,_,rfl,.tuple #[],by simp [results,Tryz.results47],rfl,rfl,?_,?_,?_⟩
 ·have h1:=aK hp 0 (.slice none 0 0)
  have h2:((w.setCell ⟨p,0,none⟩ (.slice none 0 0)).setCell ⟨q,0,none⟩ (.iface 62 (.pointer (some ⟨g,0,none⟩)))).heap[p]?=_:=((Fr.setCell (S:=At q) (Fr.refl _ _) (p:=⟨q,0,none⟩) rfl _).block p (aA h1) hpq).trans h1
  exact aB h2 (i:=0) rfl
 ·have h1:(w.setCell ⟨p,0,none⟩ (.slice none 0 0)).heap[q]?=_:=((Fr.setCell (S:=At p) (Fr.refl _ _) (p:=⟨p,0,none⟩) rfl _).block q (aA hq) (Ne.symm hpq)).trans hq
  exact aB (aK h1 0 (.iface 62 (.pointer (some ⟨g,0,none⟩)))) (i:=0) rfl
 ·exact Fr.drew ((Fr.setCell (S:=fun k=>k=p\/k=q) (Fr.refl _ _) (p:=⟨p,0,none⟩) (.inl rfl) _).setCell (p:=⟨q,0,none⟩) (.inr rfl) _)
end
section
attribute [local go_sem] aR
structure Face(w wr:World):Prop where
 toks:wr.heap[w.heap.size+1]?=some (.cells #[.slice none 0 0] 51 (0,0))
 err:wr.heap[w.heap.size+1+1]?=some (.cells #[.nilIface] 30 (0,0))
 low:Below w.heap.size w wr
theorem aQ5{w wr:World}{tmps:Array Value}{g c a:Nat}(hF:Face w wr)(h4:tmps[4]?=some (.pointer (some ⟨w.heap.size+1,0,none⟩)))(h5:tmps[5]?=some (.pointer (some ⟨w.heap.size+1+1,0,none⟩)))(hg:w.heap.size+1+1 < g)(hb:bL wr g c a) :
  bodyPostD Tryz.prog Tryz.f23 (oH w (.error (c,a))) (Exit.panic [{ v:=.iface 62 (.pointer (some ⟨g,0,none⟩)),recovered:=false }])
   { tmps:=tmps,defers:=[{ target:=Target.fn (Fn.func 47) #[.pointer (some ⟨w.heap.size+1,0,none⟩),.pointer (some ⟨w.heap.size+1+1,0,none⟩)],args:=#[] }] } wr:=by
 refine leaves_cons (f:=47) (args:=#[.pointer (some ⟨w.heap.size+1,0,none⟩),.pointer (some ⟨w.heap.size+1+1,0,none⟩)]) (by simp) (by simp [go_sem]) ?_
 refine(oN (w.heap.size+1) (w.heap.size+1+1) g [] wr hF.toks hF.err (by omega)).mono ?_
 rintro e u' w'' ⟨rfl,rfl,h1,h2,h3⟩
 have hB:Below w.heap.size w w'':=hF.low.trans (h3.below hF.low.size (fun k hk=>by omega))
 have hbad:bL w'' g c a:=(h3.block g (aA hb) (by omega)).trans hb
 have hL:oH w (.error (c,a)) (.returned (.tuple #[.slice none 0 0,.iface 62 (.pointer (some ⟨g,0,none⟩))])) w'':=⟨hB,g,by omega,rfl,hbad⟩
 generalize oH w (.error (c,a))=R at *
 simp [Leaves,settle,results,Tryz.results23,go_sem,h4,h5,h1,h2]
 exact hL
abbrev aB1(w:World)(m:Md):World:=((w.alloc (.cells #[.bool m.c,.bool m.f] 23)).alloc (.cells #[.slice none 0 0] 51)).alloc (.cells #[.nilIface] 30)
theorem wF(w:World)(m:Md):Face w (aB1 w m):=by
 have e1:(w.alloc (.cells #[.bool m.c,.bool m.f] 23)).heap.size=w.heap.size+1:=by simp
 have e2:((w.alloc (.cells #[.bool m.c,.bool m.f] 23)).alloc (.cells #[.slice none 0 0] 51)).heap.size=w.heap.size+1+1:=by simp
 refine⟨?_,?_,?_⟩
 ·have h1:=aG (w.alloc (.cells #[.bool m.c,.bool m.f] 23)) (.cells #[.slice none 0 0] 51)
  rw [e1] at h1
  exact((bz9).block _ (aA h1)).trans h1
 ·have h1:=aG ((w.alloc (.cells #[.bool m.c,.bool m.f] 23)).alloc (.cells #[.slice none 0 0] 51)) (.cells #[.nilIface] 30)
  rw [e2] at h1
  exact h1
 ·exact((bz9).alloc (by omega) _).alloc (by omega) _
theorem Face.fr{w wr wr':World}{S:Nat->Prop}(h:Face w wr)(hf:Fr S wr wr')(h1:¬ S (w.heap.size+1))(h2:¬ S (w.heap.size+1+1))(h3:∀ k,S k->w.heap.size<=k):Face w wr':=
 ⟨(hf.block _ (aA h.toks) h1).trans h.toks,(hf.block _ (aA h.err) h2).trans h.err,h.low.trans (hf.below h.low.size h3)⟩
theorem Face.kept{w wr wr':World}(h:Face w wr)(hb:Below wr.heap.size wr wr'):Face w wr':=h.fr (S:=fun _=>False) (Fr.of_below hb) (fun q=>q) (fun q=>q) (fun _ q=>q.elim)
theorem aN8{w:World}(s:ByteArray)(m:Md)(hs:2000 < s.size) :
  Calls Tryz.prog 23 #[.string s,.agg #[.bool m.c,.bool m.f]] w (oH w (.error (30,0))):=by
 have hmf:∀ (fn:Fn) (first cap:Array Value) (w:World),(Instr.makeFunc fn first cap).run Tryz.prog w=.ok (.func fn first cap) w:=fun _ _ _ _=>rfl
 have d0:(2000:Int) < (s.size:Int):=by omega
 go_enter_defers Tryz.func23,Tryz.ntmps23
 go_wp2_with (go_at_call 48;refine(cG 30 0 _).mono ?_;rintro e w11 ⟨rfl,h6,h7⟩)
 exact aQ5 ((wF w m).kept h7) rfl rfl (by omega) (by simpa using h6)
theorem aG0{w:World}(hG:Glb w)(s:ByteArray)(m:Md)(hs:s.size<=2000) :
  Calls Tryz.prog 23 #[.string s,.agg #[.bool m.c,.bool m.f]] w (oH w (lx m s (s.size+1) 0 [])):=by
 have hmf:∀ (fn:Fn) (first cap:Array Value) (w:World),(Instr.makeFunc fn first cap).run Tryz.prog w=.ok (.func fn first cap) w:=fun _ _ _ _=>rfl
 have d0:¬ (2000:Int) < (s.size:Int):=by omega
 obtain⟨RES,hRES⟩:∃ RES,lx m s (s.size+1) 0 []=RES:=⟨_,rfl⟩
 rw [hRES]
 have GL:Hid (Glb w):=hG
 have FN:Hid (Face w (aB1 w m)):=wF w m
 clear hG
 go_enter_defers Tryz.func23,Tryz.ntmps23
 go_wp2
 go_loopw [7] (fun _ wr=>∃ (T:List Tp) (D:List Dt) (v:Value) (pos f:Nat),RD wr (w.heap.size+1+1+1) s m pos v/\TL w.heap.size wr v D/\D.map Prod.fst=T/\(D=[]->v=.slice none 0 0)/\Stands s T pos/\Face w wr/\pos<=s.size/\s.size < f+pos/\lx m s f pos T=RES) (fun _ wr=>s.size+1 - oB wr (w.heap.size+1+1+1))
 case atStart=>
  have hz:(aB1 w m).heap.size=w.heap.size+1+1+1:=by simp
  have h1:=aG (aB1 w m) (.cells #[.string s,.bool m.c,.bool m.f,.int .i64 0,.slice none 0 0] 102)
  rw [hz] at h1
  exact⟨[],[],.slice none 0 0,0,s.size+1,h1,TL.nil _ _,rfl,fun _=>rfl,Stands.nil s,FN.out.kept (bz9),by omega,by omega,hRES⟩
 case round=>
  obtain⟨T,D,v,pos,f,g1,g2,g3,g4,g5,g6,g7,g8,g9⟩:=hrel
  obtain⟨f,rfl⟩:∃ f',f=f'+1:=⟨f - 1,by omega⟩
  rw [lx] at g9
  have PO:Hid (oB wr (w.heap.size+1+1+1)=pos):=g1.pos
  have LK0:Hid (LK wr (w.heap.size+1+1+1) v (cH T)):=g2.last g1 g3 g5 (by omega) g4
  have GW:Hid (Glb wr):=GL.out.kept g6.low
  have g2':2 < w.heap.size:=GL.out.size
  have c3:=g1.c3
  have c4:=g1.c4
  have lbw:=aA g6.err
  have G:Hid (RD wr (w.heap.size+1+1+1) s m pos v/\TL w.heap.size wr v D/\D.map Prod.fst=T/\Stands s T pos/\Face w wr/\(D=[]->v=.slice none 0 0)):=⟨g1,g2,g3,g5,g6,g4⟩
  clear g1 g2 g3 g4 g5 g6
  by_cases hlt:pos < s.size
  ·rw [if_pos hlt] at g9
   have hrng:=lZ m s pos (cH T) hlt
   have hok:=pA m s pos (cH T)
   have j1:(pos:Int) < (s.size:Int):=by omega
   cases ht:tok m s pos (cH T) with
   | error x=>
    rw [ht] at g9
    simp only at g9
    subst g9
    obtain⟨xc,xa⟩:=x
    go_wp2_with (go_at_call 49;have hih:=zK GW.out G.out.1 LK0.out (by omega) hlt hs;rw [ht] at hih;(refine hih.mono ?_);clear hih;rintro e w8 ⟨h1,g,h2,rfl,h4⟩)
    exact aQ5 (G.out.2.2.2.2.1.fr h1 (by intro q;have:w.heap.size+1=w.heap.size+1+1+1:=q;omega) (by intro q;have:w.heap.size+1+1=w.heap.size+1+1+1:=q;omega) (fun k hk=>by have:k=w.heap.size+1+1+1:=hk;omega)) rfl rfl (by omega) h4
   | ok x=>
    obtain⟨t,q⟩:=x
    rw [ht] at g9 hrng hok
    simp only at g9
    have hq1:q<=s.size:=hrng.2
    have hq2:pos < q:=hrng.1
    clear hrng
    go_wp2_with (go_at_call 49;have hih:=zK GW.out G.out.1 LK0.out (by omega) hlt hs;rw [ht] at hih;(refine hih.mono ?_);clear hih;rintro e w8 ⟨h1,v8,rfl,h2,rv,C,hv,h5,h6⟩;obtain⟨q8,k8,hsh⟩:=h5.shape;subst hsh;unfold tkV at hv;subst hv;have X8:Hid (RD w8 (w.heap.size+1+1+1) s m q v/\Fr (At (w.heap.size+1+1+1)) wr w8/\RR wr.heap.size w8 (.slice q8 C.length k8) C/\IsC C t.q):=⟨h2,h1,h5,h6⟩;have k3:=h2.c3;have k4:=h2.c4;have kf:=h2.frz 4;have lb8:=h2.lt;clear h1 h2 h5 h6)
    go_region
    have hB9:Below w8.heap.size w8 (w8.alloc (.cells #[.int .i64 (t.kind:Int),.int .i64 (pos:Int),.int .i64 (q:Int),.int .i64 (t.n:Int),.int .i64 t.mn,.int .i64 t.mx,.slice q8 C.length k8] 104)).drew:=(bz9).drew
    have TK:(w8.alloc (.cells #[.int .i64 (t.kind:Int),.int .i64 (pos:Int),.int .i64 (q:Int),.int .i64 (t.n:Int),.int .i64 t.mn,.int .i64 t.mx,.slice q8 C.length k8] 104)).drew.heap[w8.heap.size]?=some (.cells #[.int .i64 (t.kind:Int),.int .i64 (pos:Int),.int .i64 (q:Int),.int .i64 (t.n:Int),.int .i64 t.mn,.int .i64 t.mx,.slice q8 C.length k8] 104):=aG _ _
    generalize (w8.alloc (.cells #[.int .i64 (t.kind:Int),.int .i64 (pos:Int),.int .i64 (q:Int),.int .i64 (t.n:Int),.int .i64 t.mn,.int .i64 t.mx,.slice q8 C.length k8] 104)).drew=V9 at *
    have t0:=aB TK (i:=0) rfl
    have t1:=aB TK (i:=1) rfl
    have t2:=aB TK (i:=2) rfl
    have t3:=aB TK (i:=3) rfl
    have t4:=aB TK (i:=4) rfl
    have t5:=aB TK (i:=5) rfl
    have t6:=aB TK (i:=6) rfl
    obtain⟨d,hd⟩:∃ d:Dt,d=((t,pos,q),.slice q8 C.length k8,C):=⟨_,rfl⟩
    have htc:tc d=[.int .i64 (t.kind:Int),.int .i64 (pos:Int),.int .i64 (q:Int),.int .i64 (t.n:Int),.int .i64 t.mn,.int .i64 t.mx,.slice q8 C.length k8]:=by rw [hd];rfl
    have X9:Hid (RD V9 (w.heap.size+1+1+1) s m q v/\TL w.heap.size V9 v D/\RR wr.heap.size V9 (.slice q8 C.length k8) C/\Face w V9/\d=((t,pos,q),.slice q8 C.length k8,C)/\tc d=[.int .i64 (t.kind:Int),.int .i64 (pos:Int),.int .i64 (q:Int),.int .i64 (t.n:Int),.int .i64 t.mn,.int .i64 t.mx,.slice q8 C.length k8]):=⟨X8.out.1.kept hB9,(G.out.2.1.at G.out.1 X8.out.2.1).kept hB9,X8.out.2.2.1.kept hB9,(G.out.2.2.2.2.1.fr X8.out.2.1 (by intro q;have:w.heap.size+1=w.heap.size+1+1+1:=q;omega) (by intro q;have:w.heap.size+1+1=w.heap.size+1+1+1:=q;omega) (fun k hk=>by have:k=w.heap.size+1+1+1:=hk;omega)).kept hB9,hd,htc⟩
    have hDl:D.length<=2000:=by
     have h1:=G.out.2.2.2.1.few
     have h2:=G.out.2.2.1
     rw [<- h2,List.length_map] at h1
     omega
    obtain⟨qv,kv,rfl⟩:=aL X9.out.2.1.own
    have l4:=X9.out.1.c4
    have lf:=X9.out.1.frz 4
    have ll:=X9.out.1.lt
    have hbase:w.heap.size<=V9.heap.size:=by omega
    have E9:Hid (lx m s f q (T ++ [(t,pos,q)])=RES):=g9
    clear k3 k4 kf lb8 TK hd htc g9 c4 hB9
    obtain⟨i0,ti,hz0,hz1,hz2⟩:=aS uF
    have OW:Hid ((V9.alloc (.cells #[.int .i64 (t.kind:Int),.int .i64 (pos:Int),.int .i64 (q:Int),.int .i64 (t.n:Int),.int .i64 t.mn,.int .i64 t.mx,.slice q8 C.length k8] 104)).ownsRow w.heap.size 104 7 (.slice qv D.length kv) D.length (tcs D)):=World.ownsRow.alloc X9.out.2.1.own (.cells #[.int .i64 (t.kind:Int),.int .i64 (pos:Int),.int .i64 (q:Int),.int .i64 (t.n:Int),.int .i64 t.mn,.int .i64 t.mx,.slice q8 C.length k8] 104)
    have NW:Hid (∀ j u,[.int .i64 (t.kind:Int),.int .i64 (pos:Int),.int .i64 (q:Int),.int .i64 (t.n:Int),.int .i64 t.mn,.int .i64 t.mx,.slice q8 C.length k8][j]?=some u->(V9.alloc (.cells #[.int .i64 (t.kind:Int),.int .i64 (pos:Int),.int .i64 (q:Int),.int .i64 (t.n:Int),.int .i64 t.mn,.int .i64 t.mx,.slice q8 C.length k8] 104)).cell? ((⟨V9.heap.size,0,none⟩:Addr).add j)=some u):=bP V9 #[.int .i64 (t.kind:Int),.int .i64 (pos:Int),.int .i64 (q:Int),.int .i64 (t.n:Int),.int .i64 t.mn,.int .i64 t.mx,.slice q8 C.length k8] 104
    have O1:∀ u∈([.int .i64 (t.kind:Int),.int .i64 (pos:Int),.int .i64 (q:Int),.int .i64 (t.n:Int),.int .i64 t.mn,.int .i64 t.mx,.slice q8 C.length k8]:List Value),u.oneCell'=true:=by simp [Value.oneCell']
    have hz9:w.heap.size<=(V9.alloc (.cells #[.int .i64 (t.kind:Int),.int .i64 (pos:Int),.int .i64 (q:Int),.int .i64 (t.n:Int),.int .i64 t.mn,.int .i64 t.mx,.slice q8 C.length k8] 104)).heap.size:=by simp;omega
    have AP:Hid (∀ (g c:Nat) (w10:World),w10.ownsRow w.heap.size 104 7 (.slice (some ⟨g,0,none⟩) (D.length+1) c) (D.length+1) (tcs D ++ [.int .i64 (t.kind:Int),.int .i64 (pos:Int),.int .i64 (q:Int),.int .i64 (t.n:Int),.int .i64 t.mn,.int .i64 t.mx,.slice q8 C.length k8])->(V9.alloc (.cells #[.int .i64 (t.kind:Int),.int .i64 (pos:Int),.int .i64 (q:Int),.int .i64 (t.n:Int),.int .i64 t.mn,.int .i64 t.mx,.slice q8 C.length k8] 104)).grownBy w10 (Value.slice qv D.length kv).ownBlock ->
      RD w10 (w.heap.size+1+1+1) s m q (.slice qv D.length kv)/\TL w.heap.size w10 (.slice (some ⟨g,0,none⟩) (D.length+1) c) (D ++ [d])/\Fr (fun k=>(Value.slice qv D.length kv).ownBlock=some k) (V9.alloc (.cells #[.int .i64 (t.kind:Int),.int .i64 (pos:Int),.int .i64 (q:Int),.int .i64 (t.n:Int),.int .i64 t.mn,.int .i64 t.mx,.slice q8 C.length k8] 104)) w10):=fun g c w10 h1 h2=>by
     have e5:=X9.out.2.2.2.2.1
     have e6:=X9.out.2.2.2.2.2
     refine bA1 (d:=d) X9.out.1 X9.out.2.1 (bz9) (by rw [e5];exact X9.out.2.2.1.mono (by omega)) (by rw [e5];exact X8.out.2.2.2) (fun a ha k hk hk2=>?_) (by rw [e6];exact h1) h2
     rw [e5] at hk2
     have h3:=(aH X9.out.2.2.1 hk2).1
     have h4:=(G.out.2.1.lt ha hk).2
     omega
    go_wp2_with (at_builtin;refine wpList_append_own_at _ rfl _ _ 51 rfl w.heap.size 104 i0 (.agg #[.int .i64 0,.int .i64 0,.int .i64 0,.int .i64 0,.int .i64 0,.int .i64 0,.slice none 0 0]) 7 72 tW ti hz0 hz1 hz2 rfl (by decide) (.slice qv D.length kv) D.length (tcs D) rfl OW.out ⟨V9.heap.size,0,none⟩ 1 1 [.int .i64 (t.kind:Int),.int .i64 (pos:Int),.int .i64 (q:Int),.int .i64 (t.n:Int),.int .i64 t.mn,.int .i64 t.mx,.slice q8 C.length k8] rfl rfl NW.out O1 (by unfold maxLen;omega) (by omega) hz9 ?_;intro v' w10 hown' hgrow _ hblk;obtain⟨g10,c10,rfl⟩:=aI hown' (Nat.succ_pos _);have X10:Hid (RD w10 (w.heap.size+1+1+1) s m q (.slice qv D.length kv)/\TL w.heap.size w10 (.slice (some ⟨g10,0,none⟩) (D.length+1) c10) (D ++ [d])/\Fr (fun k=>(Value.slice qv D.length kv).ownBlock=some k) (V9.alloc (.cells #[.int .i64 (t.kind:Int),.int .i64 (pos:Int),.int .i64 (q:Int),.int .i64 (t.n:Int),.int .i64 t.mn,.int .i64 t.mx,.slice q8 C.length k8] 104)) w10):=AP.out g10 c10 w10 hown' hgrow;have m4:=X10.out.1.c4;have mf:=X10.out.1.frz 4;clear hown' hgrow hblk)
    have R11:RD (w10.setCell ⟨w.heap.size+1+1+1,4,none⟩ (.slice (some ⟨g10,0,none⟩) (D.length+1) c10)) (w.heap.size+1+1+1) s m q (.slice (some ⟨g10,0,none⟩) (D.length+1) c10):=aK X10.out.1 4 _
    have F11:Fr (At (w.heap.size+1+1+1)) w10 (w10.setCell ⟨w.heap.size+1+1+1,4,none⟩ (.slice (some ⟨g10,0,none⟩) (D.length+1) c10)):=Fr.setCell (S:=At (w.heap.size+1+1+1)) (Fr.refl _ _) (p:=⟨w.heap.size+1+1+1,4,none⟩) rfl _
    have FA:=X9.out.2.2.2.1.kept ((Below.refl _ _).alloc lz9 (.cells #[.int .i64 (t.kind:Int),.int .i64 (pos:Int),.int .i64 (q:Int),.int .i64 (t.n:Int),.int .i64 t.mn,.int .i64 t.mx,.slice q8 C.length k8] 104))
    have FB:=FA.fr X10.out.2.2 (aN OW.out FA.toks (by decide)) (aN OW.out FA.err (by decide)) (fun k hk=>(aH OW.out hk).1)
    have FC:=FB.fr F11 (by intro q;have:w.heap.size+1=w.heap.size+1+1+1:=q;omega) (by intro q;have:w.heap.size+1+1=w.heap.size+1+1+1:=q;omega) (fun k hk=>by have:k=w.heap.size+1+1+1:=hk;omega)
    have TC:=X10.out.2.1.at X10.out.1 F11
    go_roundw
    case rel=>exact⟨T ++ [(t,pos,q)],D ++ [d],_,q,f,R11,TC,by rw [List.map_append,G.out.2.2.1,List.map_singleton,X9.out.2.2.2.2.1],fun h=>by simp at h,G.out.2.2.2.1.add hq2 hq1 hok,FC,hq1,by omega,E9.out⟩
    case measure=>rw [R11.pos,PO.out];omega
  ·rw [if_neg hlt] at g9
   subst g9
   have j1:¬ (pos:Int) < (s.size:Int):=by omega
   have x1:=aB G.out.2.2.2.2.1.toks (i:=0) rfl
   have x2:=aB G.out.2.2.2.2.1.err (i:=0) rfl
   have x3:=aP G.out.2.2.2.2.1.toks 0
   have x4:=aP G.out.2.2.2.2.1.err 0
   obtain⟨qv,kv,rfl⟩:=aL G.out.2.1.own
   go_wp2
   have F1:Fr (At (w.heap.size+1)) wr (wr.setCell ⟨w.heap.size+1,0,none⟩ (.slice qv D.length kv)):=Fr.setCell (S:=At (w.heap.size+1)) (Fr.refl _ _) (p:=⟨w.heap.size+1,0,none⟩) rfl _
   have F2:Fr (At (w.heap.size+1+1)) (wr.setCell ⟨w.heap.size+1,0,none⟩ (.slice qv D.length kv)) ((wr.setCell ⟨w.heap.size+1,0,none⟩ (.slice qv D.length kv)).setCell ⟨w.heap.size+1+1,0,none⟩ .nilIface):=Fr.setCell (S:=At (w.heap.size+1+1)) (Fr.refl _ _) (p:=⟨w.heap.size+1+1,0,none⟩) rfl _
   have y1:=aK G.out.2.2.2.2.1.toks 0 (.slice qv D.length kv)
   have y2:=(F2.block _ (aA y1) (by intro q;have:w.heap.size+1=w.heap.size+1+1:=q;omega)).trans y1
   have y3:=(F1.block _ (aA G.out.2.2.2.2.1.err) (by intro q;have:w.heap.size+1+1=w.heap.size+1:=q;omega)).trans G.out.2.2.2.2.1.err
   have y4:=aK y3 0 .nilIface
   have z1:=aB y2 (i:=0) rfl
   have z2:=aB y4 (i:=0) rfl
   have T1:=G.out.2.1.fr F1 (fun k hk e=>aN G.out.2.1.own G.out.2.2.2.2.1.toks (by decide) (by rw [hk,show k=_ from e])) (fun d hd k hk e=>aN (G.out.2.1.each d hd).1 G.out.2.2.2.2.1.toks (by decide) (by rw [hk,show k=_ from e]))
   have T2:=T1.fr F2 (fun k hk e=>aN T1.own y3 (by decide) (by rw [hk,show k=_ from e])) (fun d hd k hk e=>aN (T1.each d hd).1 y3 (by decide) (by rw [hk,show k=_ from e]))
   have B2:Below w.heap.size w ((wr.setCell ⟨w.heap.size+1,0,none⟩ (.slice qv D.length kv)).setCell ⟨w.heap.size+1+1,0,none⟩ .nilIface):=(G.out.2.2.2.2.1.low.trans (F1.below G.out.2.2.2.2.1.low.size (fun k hk=>by have:k=w.heap.size+1:=hk;omega))).trans (F2.below (Nat.le_trans G.out.2.2.2.2.1.low.size F1.size) (fun k hk=>by have:k=w.heap.size+1+1:=hk;omega))
   have hL:oH w (.ok T) (.returned (.tuple #[.slice qv D.length kv,.nilIface])) ((wr.setCell ⟨w.heap.size+1,0,none⟩ (.slice qv D.length kv)).setCell ⟨w.heap.size+1+1,0,none⟩ .nilIface):=⟨B2,_,D,rfl,T2,G.out.2.2.1⟩
   refine leaves_cons (f:=47) (args:=#[.pointer (some ⟨w.heap.size+1,0,none⟩),.pointer (some ⟨w.heap.size+1+1,0,none⟩)]) (by simp) (by simp [go_sem]) ?_
   refine(zA ⟨w.heap.size+1,0,none⟩ ⟨w.heap.size+1+1,0,none⟩ _).mono ?_
   rintro e u' w'' ⟨rfl,rfl,rfl⟩
   clear F1 F2 y1 y2 y3 y4 T1 T2 B2
   generalize (wr.setCell ⟨w.heap.size+1,0,none⟩ (.slice qv D.length kv)).setCell ⟨w.heap.size+1+1,0,none⟩ .nilIface=W at *
   generalize oH w (.ok T)=R at *
   simp [Leaves,settle,results,Tryz.results23,go_sem,z1,z2]
   exact hL
theorem bB9{w:World}(hG:Glb w)(s:ByteArray)(m:Md) :
  Calls Tryz.prog 23 #[.string s,.agg #[.bool m.c,.bool m.f]] w (oH w (gB m s)):=by
 unfold gB
 split
 ·rename_i h;exact aN8 s m h
 ·exact aG0 hG s m (by omega)
end
theorem aX0{base:Nat}{N:Nat->Prop}:∀ (m:Nat) (x:Ps) (W:World) (v:Value),x.sz<=m->x.sz<=100000->wf x->PV base N W x v->base<=W.heap.size->Calls Tryz.prog 27 #[v] W (gS base W x):=by
 intro m
 induction m with
 | zero=>intro x W v hm;exact absurd (iY x) (by omega)
 | succ m ih=>
  intro x W v hm hsz hw h hb
  have nd:∀ W v,PV base N W x v->base<=W.heap.size->Calls Tryz.prog 56 #[v] W (gM base W x):=fun W v hv hb'=>aM9 (fun y W' v' hy hv' hb''=>by
   have h1:=tC hy
   exact ih y W' v' (by omega) (by omega) (bC5 hw hy) hv' hb'') (by omega) hb' hv
  cases x with
  | lf k n rs=>exact aF3 h
  | grp n k=>exact yC h hb nd
  | rep a b k=>exact yB h hb nd
  | row l=>exact aN0 h hw hb hsz nd
  | alt l=>exact vF h hw hb hsz nd
abbrev zV:Value:=.agg #[.int .i64 0,.int .i64 0,.int .i64 0,.int .i64 0,.slice none 0 0,.slice none 0 0]
def fN(w:World)(c a:Nat)(e:Ending)(w':World):Prop:=∃ g,w.heap.size<=g/\e=.returned (.tuple #[zV,.iface 62 (.pointer (some ⟨g,0,none⟩))])/\bL w' g c a/\Below w.heap.size w w'
def oY(w:World)(x:Ps)(e:Ending)(w':World):Prop:=∃ t',e=.returned (.tuple #[.agg #[.int .i64 t'.f.k,.int .i64 t'.f.n,.int .i64 t'.f.mn,.int .i64 t'.f.mx,.slice t'.f.rq t'.f.rs.length t'.f.rc,.slice t'.f.kq t'.f.kl t'.f.kc],.nilIface])/\TA w' t'/\er t'=te x/\Foot (fun k=>w.heap.size<=k) t'/\Below w.heap.size w w'
theorem iI{R:Ending->World->Prop}{a:Act}{W:World}{b:Nat}{f:Fl}{x:Value}(h:Six W b 0 f)(ha:a.tmps[4]?.getD undef=.pointer (some ⟨b,0,none⟩))(hb:a.tmps[5]?.getD undef=x)(hd:a.defers=[])(hR:R (.returned (.tuple #[.agg #[.int .i64 f.k,.int .i64 f.n,.int .i64 f.mn,.int .i64 f.mx,.slice f.rq f.rs.length f.rc,.slice f.kq f.kl f.kc],x])) W):bodyPost Tryz.prog Tryz.f9 R .ret a W:=by
 obtain⟨z0,z1,z2,z3,z4,z5⟩:=h
 simp only [Nat.zero_add] at z1 z2 z3 z4 z5
 refine bodyPost_ret (v:=.tuple #[.agg #[.int .i64 f.k,.int .i64 f.n,.int .i64 f.mn,.int .i64 f.mx,.slice f.rq f.rs.length f.rc,.slice f.kq f.kl f.kc],x]) ?_ hd hR
 simp [results,Tryz.results9,go_sem,ha,hb,z0,z1,z2,z3,z4,z5]
theorem mJ{w w5:World}{g c a:Nat}(hz:w5.heap[w.heap.size+1]?=some aX)(hb:bL w5 g c a)(hg:w.heap.size+1 < g)(hB:Below w.heap.size w w5) :
  Six (bH w5 (w.heap.size+1) 0 (bare 0)) (w.heap.size+1) 0 (bare 0)/\fN w c a (.returned (.tuple #[zV,.iface 62 (.pointer (some ⟨g,0,none⟩))])) (bH w5 (w.heap.size+1) 0 (bare 0)):=by
 have F:=cU w5 (w.heap.size+1) 0 (bare 0)
 refine⟨fF (f:=bare 0) ⟨aB hz (i:=0) rfl,aB hz (i:=1) rfl,aB hz (i:=2) rfl,aB hz (i:=3) rfl,aB hz (i:=4) rfl,aB hz (i:=5) rfl⟩,g,by omega,rfl,(F.block _ (aA hb) (by omega)).trans hb,bM hB F lz9 (fun k e=>by omega)⟩
theorem aF0{w:World}(hG:Glb w)(s:ByteArray)(m:Md){c a:Nat}(hl:gB m s=.error (c,a)) :
  Calls Tryz.prog 9 #[.string s,.agg #[.bool m.c,.bool m.f]] w (fN w c a):=by
 have B1:Below w.heap.size w ((w.alloc (.cells #[.bool m.c,.bool m.f] 23)).alloc aX):=(bz9).alloc (by simp) _
 have LC:=bB9 (hG.kept B1) s m
 rw [hl] at LC
 have HL:=aC LC
 have HB1:=aC B1
 have M1:((w.alloc (.cells #[.bool m.c,.bool m.f] 23)).alloc aX).heap[w.heap.size]?=some (.cells #[.bool m.c,.bool m.f] 23 (0,0)):=(Below.heap_alloc _ _ _ (by simp)).trans (aG w _)
 have Z1:((w.alloc (.cells #[.bool m.c,.bool m.f] 23)).alloc aX).heap[w.heap.size+1]?=some aX:=(by
  have:=aG (w.alloc (.cells #[.bool m.c,.bool m.f] 23)) aX
  rwa [World.size_alloc] at this)
 have HM1:=aC M1
 have HZ1:=aC Z1
 clear hG hl LC B1 M1 Z1
 go_enter Tryz.func9,Tryz.ntmps9
 go_upto_region 1 with fail
 generalize ((w.alloc (.cells #[.bool m.c,.bool m.f] 23)).alloc aX)=W1 at HL HB1 HM1 HZ1 ⊢
 have m0:=aB HM1.out (i:=0) rfl
 have m1:=aB HM1.out (i:=1) rfl
 have lz:=aA HZ1.out
 go_wp2_with (go_at_call 23;(with_reducible refine(HL.out).mono ?_);rintro e w5 ⟨h1,g5,h2,rfl,h3⟩;have B5:=aC h1;have X5:=aC (⟨h2,h3⟩:_/\bL w5 g5 c a);have Z5:w5.heap[w.heap.size+1]?=some aX:=(h1.block _ lz).trans HZ1.out;have l5:=aA Z5;have r0:=aB Z5 (i:=0) rfl;have r1:=aB Z5 (i:=1) rfl;have r2:=aB Z5 (i:=2) rfl;have r3:=aB Z5 (i:=3) rfl;have r4:=aB Z5 (i:=4) rfl;have r5:=aB Z5 (i:=5) rfl;have fz:=fun z=>aP Z5 z;have HZ5:=aC Z5;clear h1 h2 h3)
 obtain⟨E1,E2⟩:=mJ HZ5.out X5.out.2 (by have:=X5.out.1;omega) (aE HB1.out B5.out lz9)
 exact iI E1 rfl rfl rfl E2
theorem oD{w:World}(hG:Glb w)(s:ByteArray)(m:Md){T:List Tp}(hl:gB m s=.ok T):∀ W1,Below w.heap.size w W1->Calls Tryz.prog 23 #[.string s,.agg #[.bool m.c,.bool m.f]] W1 fun e w5=>∃ q c D,e=.returned (.tuple #[.slice q D.length c,.nilIface])/\Below W1.heap.size W1 w5/\TL W1.heap.size w5 (.slice q D.length c) D/\D.map Prod.fst=T/\(∀ d∈D,eD d.1.1/\d.2.2.length<=1000000)/\D.length<=2000:=fun W1 hW=>by
 have LC:=bB9 (hG.kept hW) s m
 rw [hl] at LC
 refine LC.mono fun e w5 ⟨h1,v,D,h2,h3,h4⟩=>?_
 obtain⟨q,c,rfl⟩:=aL h3.own
 have h5:=zJ hl h4 (fun d hd=>(h3.each d hd).2)
 exact⟨q,c,D,h2,h1,h3,h4,h5.1,h5.2.1⟩
theorem iZ{w:World}(hG:Glb w)(s:ByteArray)(m:Md){T:List Tp}(hl:gB m s=.ok T){c a:Nat}(hh:dC T=some (c,a)) :
  Calls Tryz.prog 9 #[.string s,.agg #[.bool m.c,.bool m.f]] w (fN w c a):=by
 have B1:Below w.heap.size w ((w.alloc (.cells #[.bool m.c,.bool m.f] 23)).alloc aX):=(bz9).alloc (by simp) _
 have HL:=aC (oD hG s m hl _ B1)
 have HB1:=aC B1
 have M1:((w.alloc (.cells #[.bool m.c,.bool m.f] 23)).alloc aX).heap[w.heap.size]?=some (.cells #[.bool m.c,.bool m.f] 23 (0,0)):=(Below.heap_alloc _ _ _ (by simp)).trans (aG w _)
 have Z1:((w.alloc (.cells #[.bool m.c,.bool m.f] 23)).alloc aX).heap[w.heap.size+1]?=some aX:=(by
  have:=aG (w.alloc (.cells #[.bool m.c,.bool m.f] 23)) aX
  rwa [World.size_alloc] at this)
 have HM1:=aC M1
 have HZ1:=aC Z1
 have HH:=aC hh
 clear hG hl hh B1 M1 Z1
 go_enter Tryz.func9,Tryz.ntmps9
 go_upto_region 1 with fail
 generalize ((w.alloc (.cells #[.bool m.c,.bool m.f] 23)).alloc aX)=W1 at HL HB1 HM1 HZ1 ⊢
 have m0:=aB HM1.out (i:=0) rfl
 have m1:=aB HM1.out (i:=1) rfl
 have lz:=aA HZ1.out
 go_wp2_with first
  |(go_at_call 23;(with_reducible refine(HL.out).mono ?_);rintro e w5 ⟨q5,c5,D,rfl,h1,h2,h3,h4,h5⟩;have B5:=aC h1;have GC0:=rT h2 (fun d hd=>(h4 d hd).1) h5;rw [h3,HH.out] at GC0;have GC:=aC GC0;clear h1 h2 h3 h4 h5 GC0)
  |(go_at_call 24;(with_reducible refine(GC.out).mono ?_);rintro e w6 ⟨h1,g6,h2,rfl,h3⟩;have B6:=aC h1;have X6:=aC (⟨h2,h3⟩:_/\bL w6 g6 c a);have Z6:w6.heap[w.heap.size+1]?=some aX:=(h1.block _ (Nat.lt_of_lt_of_le lz B5.out.size)).trans ((B5.out.block _ lz).trans HZ1.out);have l6:=aA Z6;have r0:=aB Z6 (i:=0) rfl;have r1:=aB Z6 (i:=1) rfl;have r2:=aB Z6 (i:=2) rfl;have r3:=aB Z6 (i:=3) rfl;have r4:=aB Z6 (i:=4) rfl;have r5:=aB Z6 (i:=5) rfl;have fz:=fun z=>aP Z6 z;have HZ6:=aC Z6;clear h1 h2 h3)
 obtain⟨E1,E2⟩:=mJ HZ6.out X6.out.2 (by have:=X6.out.1;have:=B5.out.size;omega) (aE (aE HB1.out B5.out lz9) B6.out lz9)
 exact iI E1 rfl rfl rfl E2
def fT(w:World)(x:Ps)(e:Ending)(w':World):Prop:=if 40 < x.dp then fN w 43 0 e w' else if 2000 < x.sz then fN w 42 0 e w' else oY w x e w'
theorem pR{w:World}(hG:Glb w)(s:ByteArray)(m:Md){T:List Tp}(hl:gB m s=.ok T)(hh:dC T=none){x:Ps}(hw:wf x)(hx:pfl x=mC 0 T) :
  Calls Tryz.prog 9 #[.string s,.agg #[.bool m.c,.bool m.f]] w (fT w x):=by
 have hsz:x.sz<=100000:=by
  have h1:=(aE8 x hw).1
  have h2:=nL m s
  rw [hl] at h2
  have h3:=(show Stands s T s.size from h2).few
  rw [hx,gT] at h1
  have h4:s.size<=2000:=by
   unfold gB at hl
   split at hl
   ·cases hl
   ·omega
  omega
 have B1:Below w.heap.size w ((w.alloc (.cells #[.bool m.c,.bool m.f] 23)).alloc aX):=(bz9).alloc (by simp) _
 have HL:=aC (oD hG s m hl _ B1)
 have HB1:=aC B1
 have M1:((w.alloc (.cells #[.bool m.c,.bool m.f] 23)).alloc aX).heap[w.heap.size]?=some (.cells #[.bool m.c,.bool m.f] 23 (0,0)):=(Below.heap_alloc _ _ _ (by simp)).trans (aG w _)
 have Z1:((w.alloc (.cells #[.bool m.c,.bool m.f] 23)).alloc aX).heap[w.heap.size+1]?=some aX:=(by
  have:=aG (w.alloc (.cells #[.bool m.c,.bool m.f] 23)) aX
  rwa [World.size_alloc] at this)
 have HM1:=aC M1
 have HZ1:=aC Z1
 have HH:=aC hh
 have HW:=aC hw
 have HXX:=aC hx
 have HSZ:=aC hsz
 clear hG hl hh B1 M1 Z1 hw hx hsz
 go_enter Tryz.func9,Tryz.ntmps9
 go_upto_region 1 with fail
 generalize ((w.alloc (.cells #[.bool m.c,.bool m.f] 23)).alloc aX)=W1 at HL HB1 HM1 HZ1 ⊢
 have m0:=aB HM1.out (i:=0) rfl
 have m1:=aB HM1.out (i:=1) rfl
 have lz:=aA HZ1.out
 go_upto_region 9 with first
  |(go_at_call 23;(with_reducible refine(HL.out).mono ?_);rintro e w5 ⟨q5,c5,D,rfl,h1,h2,h3,h4,h5⟩;have B5:=aC h1;have T5:=aC h2;have E5:=aC h3;have K5:=aC h4;have N5:=aC h5;have GC0:=rT h2 (fun d hd=>(h4 d hd).1) h5;rw [h3,HH.out] at GC0;have GC:=aC GC0;clear h1 h2 h3 h4 h5 GC0)
  |(go_at_call 24;(with_reducible refine(GC.out).mono ?_);rintro e w6 ⟨h1,rfl⟩;have B6:=aC h1;have B7:Hid (Below w6.heap.size w6 (w6.alloc (.cells #[.slice q5 D.length c5,.int .i64 0,.int .i64 0] 56))):=bz9;have PB7:Hid (PB W1.heap.size (w6.alloc (.cells #[.slice q5 D.length c5,.int .i64 0,.int .i64 0] 56)) w6.heap.size (.slice q5 D.length c5) D 0 0):=⟨aG w6 _,(T5.out.kept B6.out).kept B7.out,Nat.zero_le _,N5.out,Nat.le_refl _,K5.out,Nat.le_trans B5.out.size B6.out.size⟩;have PT:=aC (aW5 x HW.out _ _ 0 0 _ _ _ [] PB7.out (by rw [List.append_nil,HXX.out,<- E5.out];rfl) (.inl rfl));clear h1)
  |(go_at_call 25;(with_reducible refine(PT.out).mono ?_);rintro e w8 ⟨v8,rfl,h1,h2,h3⟩;obtain⟨T8,u8,rfl⟩:=h1.shape;have V8:=aC h1;have F8:=aC h3;have SC:=aC (aT0 h1 (by have:=HSZ.out;omega));clear h1 h2 h3)
 have B8:Hid (Below w.heap.size w w8):=bM (aE (aE (aE HB1.out B5.out lz9) B6.out lz9) B7.out lz9) F8.out lz9 (fun k hk=>by have:k=w6.heap.size:=hk;have:=HB1.out.size;have:=B5.out.size;have:=B6.out.size;omega)
 have Z8:Hid (w8.heap[w.heap.size+1]?=some aX):=(F8.out.block _ (Nat.lt_of_lt_of_le lz (Nat.le_trans B5.out.size (Nat.le_trans B6.out.size B7.out.size))) (fun e=>by have e':w.heap.size+1=w6.heap.size:=e;have:=B5.out.size;have:=B6.out.size;omega)).trans ((B7.out.block _ (Nat.lt_of_lt_of_le lz (Nat.le_trans B5.out.size B6.out.size))).trans ((B6.out.block _ (Nat.lt_of_lt_of_le lz B5.out.size)).trans ((B5.out.block _ lz).trans HZ1.out)))
 have S8:Hid (W1.heap.size<=w8.heap.size):=Nat.le_trans (Nat.le_trans B5.out.size (Nat.le_trans B6.out.size B7.out.size)) F8.out.size
 clear m0 m1
 by_cases hd:40 < x.dp
 ·rw [if_pos hd] at SC
  have RES:Hid (∀ e w',fN w 43 0 e w'->fT w x e w'):=fun e w' h=>(by unfold fT;rw [if_pos hd];exact h)
  clear hd
  go_wp2_with (go_at_call 26;(with_reducible refine(SC.out).mono ?_);rintro e w9 ⟨h1,g9,h2,rfl,h3⟩;have B9:=aC h1;have X9:=aC (⟨h2,h3⟩:_/\bL w9 g9 43 0);have Z9:w9.heap[w.heap.size+1]?=some aX:=(h1.block _ (aA Z8.out)).trans Z8.out;have l9:=aA Z9;have r0:=aB Z9 (i:=0) rfl;have r1:=aB Z9 (i:=1) rfl;have r2:=aB Z9 (i:=2) rfl;have r3:=aB Z9 (i:=3) rfl;have r4:=aB Z9 (i:=4) rfl;have r5:=aB Z9 (i:=5) rfl;have fz:=fun z=>aP Z9 z;have HZ9:=aC Z9;clear h1 h2 h3)
  obtain⟨E1,E2⟩:=mJ HZ9.out X9.out.2 (by have:=X9.out.1;have:=S8.out;omega) (aE B8.out B9.out lz9)
  exact iI E1 rfl rfl rfl (RES.out _ _ E2)
 ·rw [if_neg hd] at SC
  by_cases hn:2000 < x.sz
  ·rw [if_pos hn] at SC
   have RES:Hid (∀ e w',fN w 42 0 e w'->fT w x e w'):=fun e w' h=>(by unfold fT;rw [if_neg hd,if_pos hn];exact h)
   clear hd hn
   go_wp2_with (go_at_call 26;(with_reducible refine(SC.out).mono ?_);rintro e w9 ⟨h1,g9,h2,rfl,h3⟩;have B9:=aC h1;have X9:=aC (⟨h2,h3⟩:_/\bL w9 g9 42 0);have Z9:w9.heap[w.heap.size+1]?=some aX:=(h1.block _ (aA Z8.out)).trans Z8.out;have l9:=aA Z9;have r0:=aB Z9 (i:=0) rfl;have r1:=aB Z9 (i:=1) rfl;have r2:=aB Z9 (i:=2) rfl;have r3:=aB Z9 (i:=3) rfl;have r4:=aB Z9 (i:=4) rfl;have r5:=aB Z9 (i:=5) rfl;have fz:=fun z=>aP Z9 z;have HZ9:=aC Z9;clear h1 h2 h3)
   obtain⟨E1,E2⟩:=mJ HZ9.out X9.out.2 (by have:=X9.out.1;have:=S8.out;omega) (aE B8.out B9.out lz9)
   exact iI E1 rfl rfl rfl (RES.out _ _ E2)
  ·rw [if_neg hn] at SC
   have RES:Hid (∀ e w',oY w x e w'->fT w x e w'):=fun e w' h=>(by unfold fT;rw [if_neg hd,if_neg hn];exact h)
   clear hd hn
   go_wp2_with first
    |(go_at_call 26;(with_reducible refine(SC.out).mono ?_);rintro e w9 ⟨h1,rfl⟩;have B9:=aC h1;have NC:=aC (aX0 x.sz x w9 _ lz9 HSZ.out HW.out (V8.out.kept h1) (Nat.le_trans S8.out h1.size));clear h1)
    |(go_at_call 27;(with_reducible refine(NC.out).mono ?_);rintro e wA ⟨tA,rfl,h1,h2,h3,h4,h5⟩;have BA:=aC h3;have EA:=aC h2;have ZA:wA.heap[w.heap.size+1]?=some aX:=(h3.block _ (Nat.lt_of_lt_of_le (aA Z8.out) B9.out.size)).trans ((B9.out.block _ (aA Z8.out)).trans Z8.out);have lA:=aA ZA;have r0:=aB ZA (i:=0) rfl;have r1:=aB ZA (i:=1) rfl;have r2:=aB ZA (i:=2) rfl;have r3:=aB ZA (i:=3) rfl;have r4:=aB ZA (i:=4) rfl;have r5:=aB ZA (i:=5) rfl;have fz:=fun z=>aP ZA z;have sA:=S8.out;have s9:=B9.out.size;have s1:=HB1.out.size;have FKA:=aC (h4.mono (M:=fun k=>w.heap.size+1 < k) (fun k hk=>by omega));have FTA:=aC (bC0 (h4.mono (M:=fun k=>w.heap.size<=k) (fun k hk=>by omega)) (h5.mono (M:=fun k=>w.heap.size<=k) (fun k hk=>by omega)));have L9:=aC (mT (bz:=w.heap.size+1) (f:=bare 0) h1 FKA.out ⟨_,ZA⟩ ⟨r0,r1,r2,r3,r4,r5⟩);unfold bH at L9;clear h1 h2 h3 h4 h5)
   exact iI L9.out.1 rfl rfl rfl (RES.out _ _ ⟨tA,rfl,L9.out.2.1,EA.out,FTA.out,bM (aE (aE B8.out B9.out lz9) BA.out lz9) L9.out.2.2.1 lz9 (fun k e=>by omega)⟩)
section
attribute [local go_sem] aR
abbrev m09:Md:=⟨false,false⟩
abbrev qA:Int->Prop:=cP m09 [(97,97)] false
abbrev qB:Int->Prop:=cP m09 [(98,98)] false
theorem aO8:gB m09 ⟨#[92,40,97,92,40,98,92,41,92,41,92,50]⟩=.ok [(kT 3,0,2),(bB m09 [(97,97)] false,2,3),(kT 3,3,5),(bB m09 [(98,98)] false,5,6),(kT 4,6,8),(kT 4,8,10),(cX 2,10,12)]:=by kernel_rfl
theorem aG9:gB m09 ⟨#[97,92,41]⟩=.ok [(bB m09 [(97,97)] false,0,1),(kT 4,1,3)]:=by kernel_rfl
theorem aO9:gB m09 ⟨#[92,40,92,40,97,92,41]⟩=.ok [(kT 3,0,2),(kT 3,2,4),(bB m09 [(97,97)] false,4,5),(kT 4,5,7)]:=by kernel_rfl
theorem aP1:gB m09 ⟨#[92,50,92,40,97,92,41]⟩=.ok [(cX 2,0,2),(kT 3,2,4),(bB m09 [(97,97)] false,4,5),(kT 4,5,7)]:=by kernel_rfl
noncomputable abbrev aB2:Ps:=.row [.grp 1 (.row [.lf 2 0 (rsQ qA),.grp 2 (.lf 2 0 (rsQ qB))]),.lf 8 2 []]
theorem bF9:wf aB2:=by
 simp only [wf,wfs,wU]
 refine⟨by simp,fun i x hx=>?_,⟨by simp,fun i x hx=>?_,by simp⟩,by simp⟩
 ·match i,hx with
  | 0,hx=>simp at hx;subst hx;simp [cC,Ps.kd]
  | 1,hx=>simp at hx;subst hx;simp [cC,Ps.kd]
  | i+2,hx=>simp at hx
 ·match i,hx with
  | 0,hx=>simp at hx;subst hx;simp [cC,Ps.kd]
  | 1,hx=>simp at hx;subst hx;simp [cC,Ps.kd]
  | i+2,hx=>simp at hx
theorem aP0:pfl aB2=mC 0 [(kT 3,0,2),(bB m09 [(97,97)] false,2,3),(kT 3,3,5),(bB m09 [(98,98)] false,5,6),(kT 4,6,8),(kT 4,8,10),(cX 2,10,12)]:=by
 simp [pfl,cD,mC,sgT,gnx,kT,bB,cX]
theorem aC1(w:World):Calls Tryz.prog 10 #[.nilIface] w fun e w'=>e=.returned (.tuple #[.int .i64 0,.int .i64 0,.bool true])/\Below w.heap.size w w':=by
 go_enter Tryz.func10,Tryz.ntmps10
 go_wp2
 refine bodyPost_ret (results_tmp3 rfl _ _ _) rfl ?_
 exact⟨rfl,Below.refl _ _⟩
theorem rB{w:World}{g c a:Nat}(h:bL w g c a):Calls Tryz.prog 10 #[.iface 62 (.pointer (some ⟨g,0,none⟩))] w fun e w'=>e=.returned (.tuple #[.int .i64 (c:Int),.int .i64 (a:Int),.bool true])/\Below w.heap.size w w':=by
 have hta:∀ W,(Instr.typeAssert (.iface 62 (.pointer (some ⟨g,0,none⟩))) 30 62 true).run Tryz.prog W=.ok (.tuple #[.pointer (some ⟨g,0,none⟩),.bool true]) W:=fun W=>oM W _ _ _ _ zH
 have c0:w.cell? ⟨g,0,none⟩=some (.int .i64 (c:Int)):=aB h (i:=0) rfl
 have c1:w.cell? ⟨g,1,none⟩=some (.int .i64 (a:Int)):=aB h (i:=1) rfl
 have lg:=aA h
 clear h
 go_enter Tryz.func10,Tryz.ntmps10
 go_wp2
 refine wx9 ?_
 repeat (go_big_quiet_step (first | exact rfl))
 refine wpQuiet_nil ?_
 intro w5 hw5
 have B5:Hid (Below w.heap.size w w5):=aD hw5
 clear hw5
 go_wp2
 refine bodyPost_ret (results_tmp3 rfl _ _ _) rfl ?_
 exact⟨rfl,B5.out⟩
theorem nD{w:World}(s:ByteArray)(c a:Nat)(hp:Calls Tryz.prog 9 #[.string s,.agg #[.bool false,.bool false]] w (fN w c a)) :
  Calls Tryz.prog 22 #[.string s,.int .i64 (c:Int),.int .i64 (a:Int)] w fun e w'=>e=.returned (.bool true)/\Below w.heap.size w w':=by
 have HP:=aC hp
 clear hp
 go_enter Tryz.func22,Tryz.ntmps22
 go_wp2_with first
  |(go_at_call 9;(with_reducible refine(HP.out).mono ?_);rintro e w5 ⟨g5,h1,rfl,h2,h3⟩;have B5:=aC (h3.alloc h3.size aX);have X5:Hid (bL (w5.alloc aX) g5 c a):=((bz9).block _ (aA h2)).trans h2;have N5:=aG w5 aX;have k0:=aB N5 (i:=0) rfl;have l0:=aA N5;have HN5:=aC N5;clear h1 h2 h3 N5)
  |(go_at_call 10;(with_reducible refine(rB X5.out).mono ?_);rintro e w6 ⟨rfl,h1⟩;have B6:=aC h1;have k6:=(h1.cell (p:=⟨w5.heap.size,0,none⟩) l0).trans k0;have l6:w5.heap.size < w6.heap.size:=Nat.lt_of_lt_of_le l0 h1.size;clear h1)
 go_ret
 refine⟨?_,aE B5.out B6.out lz9⟩
 simp
theorem aY7{W:World}{t:Tr}(h:TA W t)(he:er t=te aB2):t.f.k=5/\t.f.kl=2/\∃ g off,t.f.kq=some ⟨g,off,none⟩/\g < W.heap.size/\W.cell? ⟨g,off,none⟩=some (.int .i64 7)/\W.cell? ⟨g,off+6+1,none⟩=some (.int .i64 2):=by
 rw [te] at he
 obtain⟨f1,-,-,-,-,f6⟩:=tI he
 rw [gG] at f6
 obtain⟨t6,t7,hk,e6,e7⟩:=aX2 f6
 obtain⟨p1,-⟩:=tI (e6.trans (by rw [te]))
 obtain⟨-,p2,-⟩:=tI (e7.trans (by rw [te]))
 have hn:=h.node
 have hkl:=hn.kl
 rw [hk] at hkl
 refine⟨f1,hkl,?_⟩
 rcases hn.k with⟨p,cap,-,e,-⟩ | ⟨g,off,cap,e,hg,-,-,hs⟩
 ·rw [hk] at e;cases e
 ·injection e with e1
  have s0:=(hs 0 t6 (by rw [hk];rfl)).1
  have s1:=(hs 1 t7 (by rw [hk];rfl)).2.1
  rw [p1] at s0
  rw [p2] at s1
  exact⟨g,off,e1,hg,by simpa using s0,by simpa using s1⟩
theorem oF{w:World}(hG:Glb w):Calls Tryz.prog 8 #[] w fun e w'=>e=.returned (.bool true)/\Below w.heap.size w w':=by
 have PT:Hid (Calls Tryz.prog 9 #[.string ⟨#[92,40,97,92,40,98,92,41,92,41,92,50]⟩,.agg #[.bool false,.bool false]] w (oY w aB2)):=by
  have:=pR hG ⟨#[92,40,97,92,40,98,92,41,92,41,92,50]⟩ m09 aO8 rfl bF9 aP0
  refine this.mono fun e w' h=>?_
  unfold fT at h
  rw [if_neg (by simp [Ps.dp,eF]),if_neg (by simp [Ps.sz,eU])] at h
  exact h
 have V40:Hid (∀ W,Below w.heap.size w W->Calls Tryz.prog 22 #[.string ⟨#[97,92,41]⟩,.int .i64 40,.int .i64 1] W fun e w'=>e=.returned (.bool true)/\Below W.heap.size W w'):=fun W hW=>nD ⟨#[97,92,41]⟩ 40 1 (iZ (hG.kept hW) _ m09 aG9 rfl)
 have V39:Hid (∀ W,Below w.heap.size w W->Calls Tryz.prog 22 #[.string ⟨#[92,40,92,40,97,92,41]⟩,.int .i64 39,.int .i64 0] W fun e w'=>e=.returned (.bool true)/\Below W.heap.size W w'):=fun W hW=>nD ⟨#[92,40,92,40,97,92,41]⟩ 39 0 (iZ (hG.kept hW) _ m09 aO9 rfl)
 have V41:Hid (∀ W,Below w.heap.size w W->Calls Tryz.prog 22 #[.string ⟨#[92,50,92,40,97,92,41]⟩,.int .i64 41,.int .i64 0] W fun e w'=>e=.returned (.bool true)/\Below W.heap.size W w'):=fun W hW=>nD ⟨#[92,50,92,40,97,92,41]⟩ 41 0 (iZ (hG.kept hW) _ m09 aP1 rfl)
 clear hG
 go_enter Tryz.func8,Tryz.ntmps8
 go_wp2_with first
  |(go_at_call 9;(with_reducible refine(PT.out).mono ?_);rintro e w5 ⟨t5,rfl,h1,h2,h3,h4⟩;obtain⟨f1,f2,g,off,f3,f4,f5,f6⟩:=aY7 h1 h2;have X5:=aC (h4.alloc h4.size (.cells #[.int .i64 5,.int .i64 t5.f.n,.int .i64 t5.f.mn,.int .i64 t5.f.mx,.slice t5.f.rq t5.f.rs.length t5.f.rc,.slice (some ⟨g,off,none⟩) 2 t5.f.kc] 28));rw [f1,f2,f3];clear f1 f2 f3 h1 h2 h3 h4)
  |(go_at_call 22;(with_reducible refine(V40.out _ X5.out).mono ?_);rintro e w6 ⟨rfl,h1⟩;have X6:Hid (Below w.heap.size w w6):=aE X5.out h1 lz9;clear h1)
  |(go_at_call 22;(with_reducible refine(V39.out _ X6.out).mono ?_);rintro e w7 ⟨rfl,h1⟩;have X7:Hid (Below w.heap.size w w7):=aE X6.out h1 lz9;clear h1)
  |(go_at_call 22;(with_reducible refine(V41.out _ X7.out).mono ?_);rintro e w8 ⟨rfl,h1⟩;have X8:Hid (Below w.heap.size w w8):=aE X7.out h1 lz9;clear h1)
 go_ret
 exact⟨rfl,X8.out⟩
end
end Go.Proofs.YtpfdapnfkghgkaaGreatDoor
