/-
  Parts of the proof.
-/
import Derived.Test.YtpfdapnfkghgkaaGreatDoorReadsProof9B3
import Derived.Test.YtpfdapnfkghgkaaGreatDoorReadsProof9B15
import Derived.Test.YtpfdapnfkghgkaaGreatDoorReadsProof9B17
set_option maxRecDepth 100000
set_option maxHeartbeats 8000000
namespace Go.Proofs.YtpfdapnfkghgkaaGreatDoor
open Go Go.RowKit
section
attribute [local go_sem] aR
structure DB(base:Nat)(w:World)(b:Nat)(tv:Value)(D:List Dt)(p g:Nat):Prop where
 bd:w.heap[b]?=some (.cells #[tv,.int .i64 (p:Int),.int .i64 (g:Int)] 90 (0,0))
 tl:TL base w tv D
 le:p<=D.length
 few:D.length<=2000
 gp:g<=p
 ok:∀ d∈D,eD d.1.1/\d.2.2.length<=1000000
section
variable {base b p g:Nat} {w:World} {tv:Value} {D:List Dt}
theorem DB.lt(h:DB base w b tv D p g):b < w.heap.size:=aA h.bd
theorem DB.c0(h:DB base w b tv D p g):w.cell? ⟨b,0,none⟩=some tv:=aB h.bd (i:=0) rfl
theorem DB.c1(h:DB base w b tv D p g):w.cell? ⟨b,1,none⟩=some (.int .i64 (p:Int)):=aB h.bd (i:=1) rfl
theorem DB.c2(h:DB base w b tv D p g):w.cell? ⟨b,2,none⟩=some (.int .i64 (g:Int)):=aB h.bd (i:=2) rfl
theorem DB.fr{w':World}{S:Nat->Prop}(h:DB base w b tv D p g)(hf:Fr S w w')(hS:∀ k,S k->∃ cs t,w.heap[k]?=some (.cells cs t (0,0))/\t≠99/\t≠104/\t≠90):DB base w' b tv D p g:=
 ⟨(hf.block _ h.lt (fun z=>by obtain⟨cs,t,q,-,-,n⟩:=hS b z;exact dS h.bd q (fun e=>n e.symm) rfl)).trans h.bd,h.tl.of hf (fun k hk=>by obtain⟨cs,t,q,n1,n2,-⟩:=hS k hk;exact⟨cs,t,q,n1,n2⟩),h.le,h.few,h.gp,h.ok⟩
theorem DB.kept{w':World}(h:DB base w b tv D p g)(hb:Below w.heap.size w w'):DB base w' b tv D p g:=
 h.fr (S:=fun _=>False) (Fr.of_below hb) (fun _ q=>q.elim)
theorem DB.set{p' g':Nat}{w':World}(h:DB base w b tv D p g)(hw:w'.heap[b]?=some (.cells #[tv,.int .i64 (p':Int),.int .i64 (g':Int)] 90 (0,0)))(hf:Fr (At b) w w')(h1:p'<=D.length)(h2:g'<=p'):DB base w' b tv D p' g':=
 ⟨hw,h.tl.of hf (fun k hk=>by obtain rfl:k=b:=hk;exact⟨_,_,h.bd,by decide,by decide⟩),h1,h.few,h2,h.ok⟩
theorem bC2(n:Nat):((n+1:Nat):Int)=(n:Int)+1:=by omega
theorem DB.step(h:DB base w b tv D p g)(h1:p < D.length):DB base (w.setCell ⟨b,1,none⟩ (.int .i64 ((p:Int)+1))) b tv D (p+1) g/\Fr (At b) w (w.setCell ⟨b,1,none⟩ (.int .i64 ((p:Int)+1))):=by
 rw [<- bC2]
 have hf:Fr (At b) w (w.setCell ⟨b,1,none⟩ (.int .i64 ((p+1:Nat):Int))):=(Fr.refl (At b) w).setCell (show At b b from rfl) _
 exact⟨h.set (aK h.bd 1 _) hf h1 (by have:=h.gp;omega),hf⟩
theorem DB.deep(h:DB base w b tv D p g)(h1:g+1<=p):DB base (w.setCell ⟨b,2,none⟩ (.int .i64 ((g:Int)+1))) b tv D p (g+1)/\Fr (At b) w (w.setCell ⟨b,2,none⟩ (.int .i64 ((g:Int)+1))):=by
 rw [<- bC2]
 have hf:Fr (At b) w (w.setCell ⟨b,2,none⟩ (.int .i64 ((g+1:Nat):Int))):=(Fr.refl (At b) w).setCell (show At b b from rfl) _
 exact⟨h.set (aK h.bd 2 _) hf h.le h1,hf⟩
end
theorem DB.dt{base b p g:Nat}{w:World}{tv:Value}{D:List Dt}(h:DB base w b tv D p g){d:Dt}(hd:D[p]?=some d):∃ q c,d.2.1=.slice q d.2.2.length c/\RR base w (.slice q d.2.2.length c) d.2.2/\IsC d.2.2 d.1.1.q/\eD d.1.1/\d.2.2.length<=1000000:=by
 have hm:=List.mem_of_getElem? hd
 obtain⟨h1,h2⟩:=h.tl.each d hm
 obtain⟨q,c,e⟩:=aL h1
 exact⟨q,c,e,e ▸ h1,h2,(h.ok d hm).1,(h.ok d hm).2⟩
def cZ(D:List Dt)(p:Nat):Nat:=match D[p]? with
 | none=>0
 | some d=>d.1.1.kind
theorem DB.seeing{base b p g:Nat}{w:World}{tv:Value}{D:List Dt}(h:DB base w b tv D p g){s:Sgn}{r:List Sgn}(hl:left D p g=s :: r):cZ D p=skd s:=by
 obtain⟨d,h1,h2,-,-⟩:=bR hl
 have:=(h.ok d (List.mem_of_getElem? h1)).1
 unfold cZ
 rw [h1,h2,xE _ _ this.1 this.2.1]
theorem nQ{D:List Dt}{p g:Nat}(hl:left D p g=[]):cZ D p=0:=by
 have:=pV hl
 unfold cZ
 rw [List.getElem?_eq_none this]
theorem oS{base b p g:Nat}{w:World}{tv:Value}{D:List Dt}(h:DB base w b tv D p g) :
  Calls Tryz.prog 73 #[.pointer (some ⟨b,0,none⟩)] w fun e w'=>e=.returned (.int .i64 (cZ D p:Int))/\Below w.heap.size w w':=by
 have lb:=h.lt
 have c0:=h.c0
 have c1:=h.c1
 cases hd:D[p]? with
 | none=>
  have e0:cZ D p=0:=by unfold cZ;rw [hd]
  rw [e0]
  have hp:D.length<=p:=List.getElem?_eq_none_iff.1 hd
  obtain⟨q,c,rfl⟩:=aL h.tl.own
  have i0:(D.length:Int)<=(p:Int):=by omega
  clear h e0 hd
  go_enter Tryz.func73,Tryz.ntmps73
  go_wp2
  refine wx9 ?_
  repeat (go_big_quiet_step (first | exact rfl))
  refine wpQuiet_nil ?_
  intro w5 hw5
  have B5:Hid (Below w.heap.size w w5):=aD hw5
  clear hw5
  go_wp2
  go_ret
  exact⟨rfl,B5.out⟩
 | some d=>
  have e0:cZ D p=d.1.1.kind:=by unfold cZ;rw [hd]
  rw [e0]
  have hp:=(List.getElem?_eq_some_iff.1 hd).1
  obtain⟨q,c,rfl,hq,hc⟩:=h.tl.tok hd
  have k0:w.cell? ⟨q,p * 7,none⟩=some (.int .i64 (d.1.1.kind:Int)):=hc 0 _ rfl
  have i0:¬ (D.length:Int)<=(p:Int):=by omega
  have i1:(p:Int) < (D.length:Int):=by omega
  have hf:=h.few
  clear h e0 hd hc
  generalize d.1.1.kind=kk at *
  go_enter Tryz.func73,Tryz.ntmps73
  go_wp2
  refine wx9 ?_
  repeat (go_big_quiet_step (first | exact rfl))
  refine wpQuiet_nil ?_
  intro w5 hw5
  have B5:Hid (Below w.heap.size w w5):=aD hw5
  have c0:=(B5.out.cell (p:=⟨b,0,none⟩) lb).trans c0
  have c1:=(B5.out.cell (p:=⟨b,1,none⟩) lb).trans c1
  have k0:=(B5.out.cell (p:=⟨q,p * 7,none⟩) hq).trans k0
  have lb5:=Nat.lt_of_lt_of_le lb B5.out.size
  have hq5:=Nat.lt_of_lt_of_le hq B5.out.size
  clear hw5
  go_wp2
  refine wx9 ?_
  repeat (go_big_quiet_step (first | exact rfl))
  refine wpQuiet_nil ?_
  intro w6 hw6
  have B6:Hid (Below w5.heap.size w5 w6):=aD hw6
  clear hw6
  go_wp2
  go_ret
  exact⟨rfl,aE B5.out B6.out lz9⟩
structure PT(N:Nat->Prop)(W:World)(x:Ps)(t:Tr):Prop where
 ta:TA W t
 er:er t=te x
 fk:FK N t
def bG8(N:Nat->Prop)(W:World)(k:Nat):Prop:=∃ cs t,W.heap[k]?=some (.cells cs t (0,0))/\t≠99/\(t≠28\/¬ N k)
theorem PT.mono{N M:Nat->Prop}{W:World}{x:Ps}{t:Tr}(h:PT N W x t)(hm:∀ k,N k->M k):PT M W x t:=⟨h.ta,h.er,h.fk.mono hm⟩
theorem PT.fr{N S:Nat->Prop}{W W':World}{x:Ps}{t:Tr}(h:PT N W x t)(hf:Fr S W W')(hS:∀ k,S k->bG8 N W k):PT N W' x t:=by
 have ft:Foot (fun k=>¬ S k) t:=iS (fun u (a:NA W u) (b:∀ a,u.f.kq=some a->u.ks≠[]->N a.block)=>⟨fun ad e z s=>by
   obtain⟨cur,q⟩:=a.own.1 ad e z
   obtain⟨cs,ty,q2,n,-⟩:=hS _ s
   rw [q] at q2
   cases q2
   exact n rfl,fun ad e z s=>by
   obtain⟨cur,q⟩:=a.own.2 ad e z
   obtain⟨cs,ty,q2,-,n⟩:=hS _ s
   rw [q] at q2
   cases q2
   rcases n with n | n
   ·exact n rfl
   ·exact n (b ad e z)⟩) t h.ta h.fk
 exact⟨h.ta.ckN ft (hf.ckeep (fun k a b=>b a)),h.er,h.fk⟩
theorem PT.kept{N:Nat->Prop}{W W':World}{x:Ps}{t:Tr}(h:PT N W x t)(hb:Below W.heap.size W W'):PT N W' x t:=⟨h.ta.kept hb,h.er,h.fk⟩
theorem PT.lt{N:Nat->Prop}{W:World}{x:Ps}{t:Tr}(h:PT N W x t):PT (fun k=>N k/\k < W.heap.size) W x t:=⟨h.ta,h.er,iS (fun _ a b ad e z=>⟨a ad e z,b.2 ad e z⟩) t h.fk h.ta.foot⟩
theorem DB.apt{base b p g:Nat}{w:World}{tv:Value}{D:List Dt}(h:DB base w b tv D p g)(N:Nat->Prop):∀ k,At b k->bG8 N w k:=fun k hk=>by obtain rfl:k=b:=hk;exact⟨_,_,h.bd,by decide,.inl (by decide)⟩
def kI(base:Nat)(w:World)(b:Nat)(tv:Value)(D:List Dt)(p g:Nat)(x:Ps)(e:Ending)(w':World):Prop:=
 ∃ t,e=.returned (.agg #[.int .i64 t.f.k,.int .i64 t.f.n,.int .i64 t.f.mn,.int .i64 t.f.mx,.slice t.f.rq t.f.rs.length t.f.rc,.slice t.f.kq t.f.kl t.f.kc])/\PT (fun k=>w.heap.size<=k) w' x t/\DB base w' b tv D (p+(pfl x).length) (g+nop (pfl x))/\Fr (At b) w w'
end
theorem pK{R:Ending->World->Prop}{a:Act}{W:World}{b:Nat}{f:Fl}(h:Six W b 0 f)(ha:a.tmps[2]?.getD undef=.pointer (some ⟨b,0,none⟩))(hd:a.defers=[])(hR:R (.returned (.agg #[.int .i64 f.k,.int .i64 f.n,.int .i64 f.mn,.int .i64 f.mx,.slice f.rq f.rs.length f.rc,.slice f.kq f.kl f.kc])) W):bodyPost Tryz.prog Tryz.f103 R .ret a W:=by
 obtain⟨z0,z1,z2,z3,z4,z5⟩:=h
 simp only [Nat.zero_add] at z1 z2 z3 z4 z5
 refine bodyPost_ret (v:=.agg #[.int .i64 f.k,.int .i64 f.n,.int .i64 f.mn,.int .i64 f.mx,.slice f.rq f.rs.length f.rc,.slice f.kq f.kl f.kc]) ?_ hd hR
 simp [results,Tryz.results103,go_sem,ha,z0,z1,z2,z3,z4,z5]
theorem nR(k:Int):∀ (L:List Er) (no:Er),2<=L.length->gE k L no=.mk k 0 0 0 [] L
 | [],_,h=>by simp at h
 | [_],_,h=>by simp at h
 | _ :: _ :: _,_,_=>rfl
theorem aB9(N:Nat->Prop)(k:Int):FK N (.mk (bare k) []):=(aY _).2 ⟨fun a e=>(by cases e),(aW _).2 fun u hu=>by cases hu⟩
def MkO(w:World)(ks:List Tr)(x:Er)(e:Ending)(w':World):Prop:=∃ t',e=.returned (.agg #[.int .i64 t'.f.k,.int .i64 t'.f.n,.int .i64 t'.f.mn,.int .i64 t'.f.mx,.slice t'.f.rq t'.f.rs.length t'.f.rc,.slice t'.f.kq t'.f.kl t'.f.kc])/\TA w' t'/\er t'=x/\(∀ N:Nat->Prop,(∀ k,w.heap.size<=k->N k)->(∀ u∈ks,FK N u)->FK N t')/\Below w.heap.size w w'
theorem bE3{w:World}{q:Option Addr}{c:Nat}{ks:List Tr}(h:ArgK w (.slice q ks.length c) ks)(hta:∀ u∈ks,TA w u)(hk2:∀ u∈ks,u.f.k≠1/\u.f.k≠5)(hl:ks.length<=100000) :
  Calls Tryz.prog 103 #[.slice q ks.length c] w (MkO w ks (gE 5 (ks.map er) (.mk 1 0 0 0 [] []))):=by
 obtain⟨t0,hi,hz0,hz1,hz2⟩:=aS fA
 have B0:Hid (Below w.heap.size w (w.alloc (.cells #[.int .i64 0,.int .i64 0,.int .i64 0,.int .i64 0,.slice none 0 0,.slice none 0 0] 28))):=bz9
 have R0:Hid ((w.alloc (.cells #[.int .i64 0,.int .i64 0,.int .i64 0,.int .i64 0,.slice none 0 0,.slice none 0 0] 28)).heap[w.heap.size]?=some (.cells #[.int .i64 0,.int .i64 0,.int .i64 0,.int .i64 0,.slice none 0 0,.slice none 0 0] 28 (0,0))):=aG w _
 have HS0:=aC (World.size_alloc w (.cells #[.int .i64 0,.int .i64 0,.int .i64 0,.int .i64 0,.slice none 0 0,.slice none 0 0] 28))
 obtain⟨q',cap,e,-,-,hx⟩:=h.slice
 injection e with e1 _ e3
 subst e1 e3
 have HX:=aC hx
 have HT:=aC hta
 have H2:=aC hk2
 clear h hta hk2 hx
 go_enter Tryz.func103,Tryz.ntmps103
 go_upto_region 3 with fail
 generalize (w.alloc (.cells #[.int .i64 0,.int .i64 0,.int .i64 0,.int .i64 0,.slice none 0 0,.slice none 0 0] 28))=W0 at B0 R0 HS0 ⊢
 go_loopw [4,3] (fun i v wr=>∃ (j:Nat) (qq:Option Addr) (cc:Nat),j<=ks.length/\i=.int .i64 (j:Int)/\v=.slice qq j cc/\wr.ownsRow W0.heap.size 28 6 (.slice qq j cc) j (bD (ks.take j))/\Below W0.heap.size W0 wr) (fun i _ _=>ks.length - (intOf i).toNat)
 case atStart=>exact⟨0,none,0,Nat.zero_le _,rfl,rfl,World.ownsRow_nil _ _ _ _,Below.refl _ _⟩
 case round=>
  obtain⟨j,qq,cc,hj,rfl,rfl,ho,hb⟩:=hrel
  have HO:=aC ho
  have HB:=aC hb
  have BW:=aC (aE B0.out hb lz9)
  have LZ:=aA R0.out
  have R1:=aC ((hb.block _ LZ).trans R0.out)
  clear ho hb
  by_cases hjl:j < ks.length
  ·have i0:(j:Int) < (ks.length:Int):=by omega
   obtain⟨u,hu⟩:∃ u,ks[j]?=some u:=⟨_,List.getElem?_eq_getElem hjl⟩
   have hin:u∈ks:=List.mem_of_getElem? hu
   obtain⟨g,off,hq,hg,hsix⟩:=HX.out j u hu
   subst hq
   obtain⟨c0,c1,c2,c3,c4,c5⟩:=hsix.ck (CK.of_below BW.out) hg
   have hk:=H2.out u hin
   have K5:Below wr.heap.size wr (wr.alloc (.cells #[.int .i64 u.f.k,.int .i64 u.f.n,.int .i64 u.f.mn,.int .i64 u.f.mx,.slice u.f.rq u.f.rs.length u.f.rc,.slice u.f.kq u.f.kl u.f.kc] 28)):=bz9
   have N5:=aC (jN (aG wr (.cells #[.int .i64 u.f.k,.int .i64 u.f.n,.int .i64 u.f.mn,.int .i64 u.f.mx,.slice u.f.rq u.f.rs.length u.f.rc,.slice u.f.kq u.f.kl u.f.kc] 28)))
   have O5:=aC (aQ HO.out (Fr.of_below (S:=fun _=>False) K5) (fun _ _ z=>z))
   have B5:=aC (aE HB.out K5 lz9)
   have HTK:=aC (show bD (ks.take (j+1))=bD (ks.take j) ++ u.f.cells by rw [List.take_add_one,hu,dJ];simp [bD])
   have e1:(u.f.k==1)=false:=by simpa using hk.1
   have e5:(u.f.k==5)=false:=by simpa using hk.2
   clear hu hin hsix hg hk K5
   go_wp2_with (at_builtin;refine wpList_append_own_at _ rfl _ _ 26 rfl W0.heap.size 28 t0 (.agg #[.int .i64 0,.int .i64 0,.int .i64 0,.int .i64 0,.slice none 0 0,.slice none 0 0]) 6 80 cR hi hz0 hz1 hz2 rfl (by decide) (.slice qq j cc) j (bD (ks.take j)) rfl O5.out ⟨wr.heap.size,0,none⟩ 1 1 u.f.cells rfl rfl N5.out (fun v hv=>by simp [Fl.cells] at hv;rcases hv with rfl | rfl | rfl | rfl | rfl | rfl <;> rfl) (by unfold maxLen;omega) (by omega) B5.out.size ?_;intro v' w6 hown' hgrow _ _;obtain⟨q6,cap6,rfl⟩:=aL hown';have O6:=aC hown';have B6:Hid (Below W0.heap.size W0 w6):=gW B5.out lz9 O5.out hgrow;clear hown' hgrow)
   go_roundw
   case rel=>exact⟨j+1,q6,cap6,by omega,by go_num,rfl,by rw [HTK.out];exact O6.out,B6.out⟩
   case measure=>simp only [intOf];omega
  ·have i0:¬ (j:Int) < (ks.length:Int):=by omega
   have hje:j=ks.length:=by omega
   subst hje
   have O9:=HO.out
   rw [List.take_of_length_le lz9] at O9
   have r0:=aB R1.out (i:=0) rfl
   have r1:=aB R1.out (i:=1) rfl
   have r2:=aB R1.out (i:=2) rfl
   have r3:=aB R1.out (i:=3) rfl
   have r4:=aB R1.out (i:=4) rfl
   have r5:=aB R1.out (i:=5) rfl
   have fz:=fun z=>aP R1.out z
   have hsx:∀ f:Fl,Six (bH wr w.heap.size 0 f) w.heap.size 0 f:=fun f=>fF (b:=w.heap.size) (o:=0) (f:=⟨0,0,0,0,[],none,0,none,0,0⟩) (g:=f) ⟨r0,r1,r2,r3,r4,r5⟩
   have hbl:∀ f:Fl,Below w.heap.size w (bH wr w.heap.size 0 f):=fun f=>bM BW.out (cU wr w.heap.size 0 f) lz9 (fun k e=>by omega)
   have HBL:=aC hbl
   have HSX:=aC hsx
   clear hsx hbl
   by_cases h0:ks=[]
   ·subst h0
    have X9:=aC (HSX.out (bare 1))
    have B9:=aC (HBL.out (bare 1))
    unfold bH at X9 B9
    clear O9 HO
    go_wp2
    refine pK X9.out rfl rfl ?_
    exact⟨.mk (bare 1) [],rfl,lF _ 1,by rw [eL];rfl,fun N _ _=>aB9 N 1,B9.out⟩
   ·by_cases h1:ks.length=1
    ·obtain⟨u,rfl⟩:∃ u,ks=[u]:=by
      match ks,h1 with
      | [u],_=>exact⟨u,rfl⟩
     obtain⟨g9,c9,hq9⟩:=aI O9 (by simp)
     injection hq9 with hq91 _ hq92
     subst hq91 hq92
     have cl:∀ (k:Nat) (v:Value),u.f.cells[k]?=some v->wr.cell? ⟨g9,k,none⟩=some v:=fun k v hv=>bC O9 (by simpa [bD] using hv)
     have d0:=cl 0 _ rfl
     have d1:=cl 1 _ rfl
     have d2:=cl 2 _ rfl
     have d3:=cl 3 _ rfl
     have d4:=cl 4 _ rfl
     have d5:=cl 5 _ rfl
     have X9:=aC (HSX.out u.f)
     have B9:=aC (HBL.out u.f)
     have T9:=aC ((HT.out u (by simp)).kept B9.out)
     unfold bH at X9 B9 T9
     clear O9 HO h0 h1 cl
     go_wp2
     refine pK X9.out rfl rfl ?_
     exact⟨u,rfl,T9.out,rfl,fun N _ h=>h u (by simp),B9.out⟩
    ·have e0:((ks.length:Int)==0)=false:=by
      have:ks.length≠0:=fun z=>h0 (List.eq_nil_of_length_eq_zero z)
      simp;omega
     have e1:((ks.length:Int)==1)=false:=by simp;omega
     have h2:2<=ks.length:=by
      have:ks.length≠0:=fun z=>h0 (List.eq_nil_of_length_eq_zero z)
      omega
     have X9:=aC (HSX.out ⟨5,0,0,0,[],none,0,qq,ks.length,cc⟩)
     have B9:=aC (HBL.out ⟨5,0,0,0,[],none,0,qq,ks.length,cc⟩)
     have HQB:=aC (show ∀ a,qq=some a->w.heap.size<=a.block from fun a e=>by subst e;have:=(aH O9 (g:=a.block) rfl).1;have:=HS0.out;omega)
     have O10:=aQ O9 (cU wr w.heap.size 0 ⟨5,0,0,0,[],none,0,qq,ks.length,cc⟩) (fun k hk e=>by have:=(aH O9 hk).1;have:=HS0.out;omega)
     have T9:Hid (TA (bH wr w.heap.size 0 ⟨5,0,0,0,[],none,0,qq,ks.length,cc⟩) (.mk ⟨5,0,0,0,[],none,0,qq,ks.length,cc⟩ ks)):=(aY _).2 ⟨⟨.inl ⟨none,0,rfl,rfl,fun _=>rfl⟩,mF O10,cL,by simp [Tr.f],⟨fun a e=>(by cases e),fun a e _=>(aH O10 (g:=a.block) (by rw [show qq=some a from e];rfl)).2.2⟩⟩,(aW _).2 fun u hu=>(HT.out u hu).kept B9.out⟩
     have HJ:=aC (nR 5 (ks.map er) (.mk 1 0 0 0 [] []) (by rw [List.length_map];exact h2))
     unfold bH at X9 B9 T9
     clear O9 O10 HO h0 h1 h2
     go_wp2
     refine pK X9.out rfl rfl ?_
     exact⟨.mk ⟨5,0,0,0,[],none,0,qq,ks.length,cc⟩ ks,rfl,T9.out,by rw [HJ.out,eL];rfl,fun N hN h=>(aY _).2 ⟨fun a e _=>hN _ (HQB.out a e),(aW _).2 fun u hu=>h u hu⟩,B9.out⟩
theorem pL{R:Ending->World->Prop}{a:Act}{W:World}{b:Nat}{f:Fl}(h:Six W b 0 f)(ha:a.tmps[2]?.getD undef=.pointer (some ⟨b,0,none⟩))(hd:a.defers=[])(hR:R (.returned (.agg #[.int .i64 f.k,.int .i64 f.n,.int .i64 f.mn,.int .i64 f.mx,.slice f.rq f.rs.length f.rc,.slice f.kq f.kl f.kc])) W):bodyPost Tryz.prog Tryz.f74 R .ret a W:=by
 obtain⟨z0,z1,z2,z3,z4,z5⟩:=h
 simp only [Nat.zero_add] at z1 z2 z3 z4 z5
 refine bodyPost_ret (v:=.agg #[.int .i64 f.k,.int .i64 f.n,.int .i64 f.mn,.int .i64 f.mx,.slice f.rq f.rs.length f.rc,.slice f.kq f.kl f.kc]) ?_ hd hR
 simp [results,Tryz.results74,go_sem,ha,z0,z1,z2,z3,z4,z5]
theorem bE4{w:World}{q:Option Addr}{c:Nat}{ks:List Tr}(h:ArgK w (.slice q ks.length c) ks)(hta:∀ u∈ks,TA w u)(hk2:∀ u∈ks,u.f.k≠6)(hl:ks.length<=100000) :
  Calls Tryz.prog 74 #[.slice q ks.length c] w (MkO w ks (gE 6 (ks.map er) (.mk 2 0 0 0 [] []))):=by
 obtain⟨t0,hi,hz0,hz1,hz2⟩:=aS fA
 have B0:Hid (Below w.heap.size w (w.alloc (.cells #[.int .i64 0,.int .i64 0,.int .i64 0,.int .i64 0,.slice none 0 0,.slice none 0 0] 28))):=bz9
 have R0:Hid ((w.alloc (.cells #[.int .i64 0,.int .i64 0,.int .i64 0,.int .i64 0,.slice none 0 0,.slice none 0 0] 28)).heap[w.heap.size]?=some (.cells #[.int .i64 0,.int .i64 0,.int .i64 0,.int .i64 0,.slice none 0 0,.slice none 0 0] 28 (0,0))):=aG w _
 have HS0:=aC (World.size_alloc w (.cells #[.int .i64 0,.int .i64 0,.int .i64 0,.int .i64 0,.slice none 0 0,.slice none 0 0] 28))
 obtain⟨q',cap,e,-,-,hx⟩:=h.slice
 injection e with e1 _ e3
 subst e1 e3
 have HX:=aC hx
 have HT:=aC hta
 have H2:=aC hk2
 clear h hta hk2 hx
 go_enter Tryz.func74,Tryz.ntmps74
 go_upto_region 3 with fail
 generalize (w.alloc (.cells #[.int .i64 0,.int .i64 0,.int .i64 0,.int .i64 0,.slice none 0 0,.slice none 0 0] 28))=W0 at B0 R0 HS0 ⊢
 go_loopw [4,3] (fun i v wr=>∃ (j:Nat) (qq:Option Addr) (cc:Nat),j<=ks.length/\i=.int .i64 (j:Int)/\v=.slice qq j cc/\wr.ownsRow W0.heap.size 28 6 (.slice qq j cc) j (bD (ks.take j))/\Below W0.heap.size W0 wr) (fun i _ _=>ks.length - (intOf i).toNat)
 case atStart=>exact⟨0,none,0,Nat.zero_le _,rfl,rfl,World.ownsRow_nil _ _ _ _,Below.refl _ _⟩
 case round=>
  obtain⟨j,qq,cc,hj,rfl,rfl,ho,hb⟩:=hrel
  have HO:=aC ho
  have HB:=aC hb
  have BW:=aC (aE B0.out hb lz9)
  have LZ:=aA R0.out
  have R1:=aC ((hb.block _ LZ).trans R0.out)
  clear ho hb
  by_cases hjl:j < ks.length
  ·have i0:(j:Int) < (ks.length:Int):=by omega
   obtain⟨u,hu⟩:∃ u,ks[j]?=some u:=⟨_,List.getElem?_eq_getElem hjl⟩
   have hin:u∈ks:=List.mem_of_getElem? hu
   obtain⟨g,off,hq,hg,hsix⟩:=HX.out j u hu
   subst hq
   obtain⟨c0,c1,c2,c3,c4,c5⟩:=hsix.ck (CK.of_below BW.out) hg
   have hk:=H2.out u hin
   have K5:Below wr.heap.size wr (wr.alloc (.cells #[.int .i64 u.f.k,.int .i64 u.f.n,.int .i64 u.f.mn,.int .i64 u.f.mx,.slice u.f.rq u.f.rs.length u.f.rc,.slice u.f.kq u.f.kl u.f.kc] 28)):=bz9
   have N5:=aC (jN (aG wr (.cells #[.int .i64 u.f.k,.int .i64 u.f.n,.int .i64 u.f.mn,.int .i64 u.f.mx,.slice u.f.rq u.f.rs.length u.f.rc,.slice u.f.kq u.f.kl u.f.kc] 28)))
   have O5:=aC (aQ HO.out (Fr.of_below (S:=fun _=>False) K5) (fun _ _ z=>z))
   have B5:=aC (aE HB.out K5 lz9)
   have HTK:=aC (show bD (ks.take (j+1))=bD (ks.take j) ++ u.f.cells by rw [List.take_add_one,hu,dJ];simp [bD])
   have e6:(u.f.k==6)=false:=by simpa using hk
   clear hu hin hsix hg hk K5
   go_wp2_with (at_builtin;refine wpList_append_own_at _ rfl _ _ 26 rfl W0.heap.size 28 t0 (.agg #[.int .i64 0,.int .i64 0,.int .i64 0,.int .i64 0,.slice none 0 0,.slice none 0 0]) 6 80 cR hi hz0 hz1 hz2 rfl (by decide) (.slice qq j cc) j (bD (ks.take j)) rfl O5.out ⟨wr.heap.size,0,none⟩ 1 1 u.f.cells rfl rfl N5.out (fun v hv=>by simp [Fl.cells] at hv;rcases hv with rfl | rfl | rfl | rfl | rfl | rfl <;> rfl) (by unfold maxLen;omega) (by omega) B5.out.size ?_;intro v' w6 hown' hgrow _ _;obtain⟨q6,cap6,rfl⟩:=aL hown';have O6:=aC hown';have B6:Hid (Below W0.heap.size W0 w6):=gW B5.out lz9 O5.out hgrow;clear hown' hgrow)
   go_roundw
   case rel=>exact⟨j+1,q6,cap6,by omega,by go_num,rfl,by rw [HTK.out];exact O6.out,B6.out⟩
   case measure=>simp only [intOf];omega
  ·have i0:¬ (j:Int) < (ks.length:Int):=by omega
   have hje:j=ks.length:=by omega
   subst hje
   have O9:=HO.out
   rw [List.take_of_length_le lz9] at O9
   have r0:=aB R1.out (i:=0) rfl
   have r1:=aB R1.out (i:=1) rfl
   have r2:=aB R1.out (i:=2) rfl
   have r3:=aB R1.out (i:=3) rfl
   have r4:=aB R1.out (i:=4) rfl
   have r5:=aB R1.out (i:=5) rfl
   have fz:=fun z=>aP R1.out z
   have hsx:∀ f:Fl,Six (bH wr w.heap.size 0 f) w.heap.size 0 f:=fun f=>fF (b:=w.heap.size) (o:=0) (f:=⟨0,0,0,0,[],none,0,none,0,0⟩) (g:=f) ⟨r0,r1,r2,r3,r4,r5⟩
   have hbl:∀ f:Fl,Below w.heap.size w (bH wr w.heap.size 0 f):=fun f=>bM BW.out (cU wr w.heap.size 0 f) lz9 (fun k e=>by omega)
   have HBL:=aC hbl
   have HSX:=aC hsx
   clear hsx hbl
   by_cases h0:ks=[]
   ·subst h0
    have X9:=aC (HSX.out (bare 2))
    have B9:=aC (HBL.out (bare 2))
    unfold bH at X9 B9
    clear O9 HO
    go_wp2
    refine pL X9.out rfl rfl ?_
    exact⟨.mk (bare 2) [],rfl,lF _ 2,by rw [eL];rfl,fun N _ _=>aB9 N 2,B9.out⟩
   ·by_cases h1:ks.length=1
    ·obtain⟨u,rfl⟩:∃ u,ks=[u]:=by
      match ks,h1 with
      | [u],_=>exact⟨u,rfl⟩
     obtain⟨g9,c9,hq9⟩:=aI O9 (by simp)
     injection hq9 with hq91 _ hq92
     subst hq91 hq92
     have cl:∀ (k:Nat) (v:Value),u.f.cells[k]?=some v->wr.cell? ⟨g9,k,none⟩=some v:=fun k v hv=>bC O9 (by simpa [bD] using hv)
     have d0:=cl 0 _ rfl
     have d1:=cl 1 _ rfl
     have d2:=cl 2 _ rfl
     have d3:=cl 3 _ rfl
     have d4:=cl 4 _ rfl
     have d5:=cl 5 _ rfl
     have X9:=aC (HSX.out u.f)
     have B9:=aC (HBL.out u.f)
     have T9:=aC ((HT.out u (by simp)).kept B9.out)
     unfold bH at X9 B9 T9
     clear O9 HO h0 h1 cl
     go_wp2
     refine pL X9.out rfl rfl ?_
     exact⟨u,rfl,T9.out,rfl,fun N _ h=>h u (by simp),B9.out⟩
    ·have e0:((ks.length:Int)==0)=false:=by
      have:ks.length≠0:=fun z=>h0 (List.eq_nil_of_length_eq_zero z)
      simp;omega
     have e1:((ks.length:Int)==1)=false:=by simp;omega
     have h2:2<=ks.length:=by
      have:ks.length≠0:=fun z=>h0 (List.eq_nil_of_length_eq_zero z)
      omega
     have X9:=aC (HSX.out ⟨6,0,0,0,[],none,0,qq,ks.length,cc⟩)
     have B9:=aC (HBL.out ⟨6,0,0,0,[],none,0,qq,ks.length,cc⟩)
     have HQB:=aC (show ∀ a,qq=some a->w.heap.size<=a.block from fun a e=>by subst e;have:=(aH O9 (g:=a.block) rfl).1;have:=HS0.out;omega)
     have O10:=aQ O9 (cU wr w.heap.size 0 ⟨6,0,0,0,[],none,0,qq,ks.length,cc⟩) (fun k hk e=>by have:=(aH O9 hk).1;have:=HS0.out;omega)
     have T9:Hid (TA (bH wr w.heap.size 0 ⟨6,0,0,0,[],none,0,qq,ks.length,cc⟩) (.mk ⟨6,0,0,0,[],none,0,qq,ks.length,cc⟩ ks)):=(aY _).2 ⟨⟨.inl ⟨none,0,rfl,rfl,fun _=>rfl⟩,mF O10,cL,by simp [Tr.f],⟨fun a e=>(by cases e),fun a e _=>(aH O10 (g:=a.block) (by rw [show qq=some a from e];rfl)).2.2⟩⟩,(aW _).2 fun u hu=>(HT.out u hu).kept B9.out⟩
     have HJ:=aC (nR 6 (ks.map er) (.mk 2 0 0 0 [] []) (by rw [List.length_map];exact h2))
     unfold bH at X9 B9 T9
     clear O9 O10 HO h0 h1 h2
     go_wp2
     refine pL X9.out rfl rfl ?_
     exact⟨.mk ⟨6,0,0,0,[],none,0,qq,ks.length,cc⟩ ks,rfl,T9.out,by rw [HJ.out,eL];rfl,fun N hN h=>(aY _).2 ⟨fun a e _=>hN _ (HQB.out a e),(aW _).2 fun u hu=>h u hu⟩,B9.out⟩
section
attribute [local go_sem] aR
theorem nF{R:Ending->World->Prop}{a:Act}{W:World}{b:Nat}{f:Fl}(h:Six W b 0 f)(ha:a.tmps[2]?.getD undef=.pointer (some ⟨b,0,none⟩))(hd:a.defers=[])(hR:R (.returned (.agg #[.int .i64 f.k,.int .i64 f.n,.int .i64 f.mn,.int .i64 f.mx,.slice f.rq f.rs.length f.rc,.slice f.kq f.kl f.kc])) W):bodyPost Tryz.prog Tryz.f104 R .ret a W:=by
 obtain⟨z0,z1,z2,z3,z4,z5⟩:=h
 simp only [Nat.zero_add] at z1 z2 z3 z4 z5
 refine bodyPost_ret (v:=.agg #[.int .i64 f.k,.int .i64 f.n,.int .i64 f.mn,.int .i64 f.mx,.slice f.rq f.rs.length f.rc,.slice f.kq f.kl f.kc]) ?_ hd hR
 simp [results,Tryz.results104,go_sem,ha,z0,z1,z2,z3,z4,z5]
theorem iN{W:World}{b:Nat}{f:Fl}(h:BoxN W b f)(g:Fl):BoxN (bH W b 0 g) b g:=by
 have h0:=aK h 0 (.int .i64 g.k)
 have h1:=aK h0 1 (.int .i64 g.n)
 have h2:=aK h1 2 (.int .i64 g.mn)
 have h3:=aK h2 3 (.int .i64 g.mx)
 have h4:=aK h3 4 (.slice g.rq g.rs.length g.rc)
 have h5:=aK h4 5 (.slice g.kq g.kl g.kc)
 exact h5
theorem aE7(W:World)(b o:Nat)(f:Fl):(bH W b o f).heap.size=W.heap.size:=by unfold bH;simp
structure IL(base b:Nat)(tv:Value)(D:List Dt)(w:World)(x:Ps)(t:Tr)(P G:Nat)(W:World):Prop where
 box:BoxN W (w.heap.size+2) t.f
 pt:PT (fun k=>w.heap.size+3<=k) W x t
 db:DB base W b tv D P G
 z:BoxN W w.heap.size (bare 0)
 fr:Fr (At b) w W
theorem IL.kept{base b:Nat}{tv:Value}{D:List Dt}{w:World}{x:Ps}{t:Tr}{P G:Nat}{W W':World}(h:IL base b tv D w x t P G W)(hb:Below W.heap.size W W'):IL base b tv D w x t P G W':=
 ⟨(hb.block _ (aA h.box)).trans h.box,h.pt.kept hb,h.db.kept hb,(hb.block _ (aA h.z)).trans h.z,h.fr.trans (Fr.of_below hb)⟩
theorem nB{N:Nat->Prop}{W:World}{k:Nat}{f:Fl}(h:BoxN W k f)(hn:¬ N k):∀ z,z=k->bG8 N W z:=fun z e=>by subst e;exact⟨_,_,h,by decide,.inr hn⟩
theorem DB.box{base b p g k:Nat}{w w':World}{tv:Value}{D:List Dt}{f:Fl}(h:DB base w b tv D p g)(hk:BoxN w k f)(hf:Fr (fun z=>z=k) w w'):DB base w' b tv D p g:=
 h.fr hf (fun z e=>by subst e;exact⟨_,_,hk,by decide,by decide,by decide⟩)
theorem IL.done{base b:Nat}{tv:Value}{D:List Dt}{w:World}{x:Ps}{t:Tr}{P G:Nat}{W:World}(h:IL base b tv D w x t P G W) :
  Six (bH W w.heap.size 0 t.f) w.heap.size 0 t.f/\PT (fun k=>w.heap.size<=k) (bH W w.heap.size 0 t.f) x t/\DB base (bH W w.heap.size 0 t.f) b tv D P G/\Fr (At b) w (bH W w.heap.size 0 t.f):=by
 have hz:BoxN W w.heap.size (bare 0):=h.z
 have hf:=cU W w.heap.size 0 t.f
 exact⟨(iN hz t.f).six,(h.pt.fr hf (nB hz (by omega))).mono (fun k hk=>by omega),h.db.box hz hf,h.fr.over hf (fun i e=>.inr (by omega))⟩
theorem IL.step{base b:Nat}{tv:Value}{D:List Dt}{w:World}{x:Ps}{t:Tr}{P G:Nat}{W:World}(h:IL base b tv D w x t P G W)(hP:P < D.length):IL base b tv D w x t (P+1) G (W.setCell ⟨b,1,none⟩ (.int .i64 ((P:Int)+1))):=by
 obtain⟨d2,f2⟩:=h.db.step hP
 exact⟨(f2.block _ (aA h.box) (fun e=>dS h.box h.db.bd (by decide) e)).trans h.box,h.pt.fr f2 (h.db.apt _),d2,(f2.block _ (aA h.z) (fun e=>dS h.z h.db.bd (by decide) e)).trans h.z,h.fr.trans f2⟩
theorem IL.rep{base b:Nat}{tv:Value}{D:List Dt}{w:World}{x:Ps}{t:Tr}{P G:Nat}{W:World}(h:IL base b tv D w x t P G W)(mn mx:Int) :
  IL base b tv D w (.rep mn mx x) (.mk ⟨9,0,mn,mx,[],none,0,some ⟨W.heap.size,0,none⟩,1,1⟩ [t]) P G ((bH W (w.heap.size+2) 0 ⟨9,0,mn,mx,[],none,0,some ⟨W.heap.size,0,none⟩,1,1⟩).alloc (.cells #[.int .i64 t.f.k,.int .i64 t.f.n,.int .i64 t.f.mn,.int .i64 t.f.mx,.slice t.f.rq t.f.rs.length t.f.rc,.slice t.f.kq t.f.kl t.f.kc] 28)).drew:=by
 obtain⟨F,hF⟩:∃ F:Fl,F=⟨9,0,mn,mx,[],none,0,some ⟨W.heap.size,0,none⟩,1,1⟩:=⟨_,rfl⟩
 rw [<- hF]
 have hf:=cU W (w.heap.size+2) 0 F
 have hb:=iN h.box F
 have s2:=aE7 W (w.heap.size+2) 0 F
 have p1:=h.pt.fr hf (nB h.box (by omega))
 have d1:=h.db.box h.box hf
 have l1:=aA h.box
 have z1:BoxN (bH W (w.heap.size+2) 0 F) w.heap.size (bare 0):=(hf.block _ (aA h.z) (by omega)).trans h.z
 have f1:Fr (At b) w (bH W (w.heap.size+2) 0 F):=h.fr.over hf (fun i e=>.inr (by omega))
 generalize bH W (w.heap.size+2) 0 F=W2 at *
 have bel:Below W2.heap.size W2 (W2.alloc (.cells #[.int .i64 t.f.k,.int .i64 t.f.n,.int .i64 t.f.mn,.int .i64 t.f.mx,.slice t.f.rq t.f.rs.length t.f.rc,.slice t.f.kq t.f.kl t.f.kc] 28)).drew:=(bz9).drew
 have N3:BoxN (W2.alloc (.cells #[.int .i64 t.f.k,.int .i64 t.f.n,.int .i64 t.f.mn,.int .i64 t.f.mx,.slice t.f.rq t.f.rs.length t.f.rc,.slice t.f.kq t.f.kl t.f.kc] 28)).drew W.heap.size t.f:=s2 ▸ aG W2 _
 have p3:=p1.kept bel
 refine⟨(bel.block _ (aA hb)).trans hb,⟨?_,?_,?_⟩,d1.kept bel,(bel.block _ (aA z1)).trans z1,f1.trans (Fr.of_below bel)⟩
 ·subst hF
  exact(aY _).2 ⟨⟨.inl ⟨none,0,rfl,rfl,fun _=>rfl⟩,.inr ⟨W.heap.size,0,1,rfl,aA N3,Nat.le_refl _,by unfold maxLen;decide,fun i u hu=>by
   (match i,hu with
   | 0,hu=>(cases hu;exact N3.six))⟩,cL,by simp [Tr.f],⟨fun a e=>(by cases e),fun a e _=>(by cases e;exact⟨_,N3⟩)⟩⟩,(aW _).2 fun u hu=>by(rcases List.mem_cons.1 hu with e | e;(subst e;exact p3.ta);cases e)⟩
 ·subst hF
  rw [eL,te,<- p3.er]
  rfl
 ·subst hF
  exact(aY _).2 ⟨fun a e _=>by cases e;show w.heap.size+3<=W.heap.size;have:=aA h.box;omega,(aW _).2 fun u hu=>by(rcases List.mem_cons.1 hu with e | e;(subst e;exact p3.fk);cases e)⟩
theorem IL.deep{base b:Nat}{tv:Value}{D:List Dt}{w:World}{x:Ps}{t:Tr}{P G:Nat}{W:World}(h:IL base b tv D w x t P G W)(hP:G+1<=P):IL base b tv D w x t P (G+1) (W.setCell ⟨b,2,none⟩ (.int .i64 ((G:Int)+1))):=by
 obtain⟨d2,f2⟩:=h.db.deep hP
 exact⟨(f2.block _ (aA h.box) (fun e=>dS h.box h.db.bd (by decide) e)).trans h.box,h.pt.fr f2 (h.db.apt _),d2,(f2.block _ (aA h.z) (fun e=>dS h.z h.db.bd (by decide) e)).trans h.z,h.fr.trans f2⟩
theorem IL.call{base b:Nat}{tv:Value}{D:List Dt}{w:World}{x:Ps}{t:Tr}{P G P' G':Nat}{W W':World}(h:IL base b tv D w x t P G W)(hf:Fr (At b) W W')(hd:DB base W' b tv D P' G'):IL base b tv D w x t P' G' W':=
 ⟨(hf.block _ (aA h.box) (fun e=>dS h.box h.db.bd (by decide) e)).trans h.box,h.pt.fr hf (h.db.apt _),hd,(hf.block _ (aA h.z) (fun e=>dS h.z h.db.bd (by decide) e)).trans h.z,h.fr.trans hf⟩
theorem IL.grp{base b:Nat}{tv:Value}{D:List Dt}{w:World}{x:Ps}{t:Tr}{P G n:Nat}{W:World}(h:IL base b tv D w (.lf 7 (n:Int) []) (.mk ⟨7,(n:Int),0,0,[],none,0,none,0,0⟩ []) P G W)(ht:PT (fun k=>w.heap.size+3<=k) W x t) :
  IL base b tv D w (.grp n x) (.mk ⟨7,(n:Int),0,0,[],none,0,some ⟨W.heap.size,0,none⟩,1,1⟩ [t]) P G ((W.setCell ⟨w.heap.size+2,5,none⟩ (.slice (some ⟨W.heap.size,0,none⟩) 1 1)).alloc (.cells #[.int .i64 t.f.k,.int .i64 t.f.n,.int .i64 t.f.mn,.int .i64 t.f.mx,.slice t.f.rq t.f.rs.length t.f.rc,.slice t.f.kq t.f.kl t.f.kc] 28)):=by
 have hf:Fr (fun z=>z=w.heap.size+2) W (W.setCell ⟨w.heap.size+2,5,none⟩ (.slice (some ⟨W.heap.size,0,none⟩) 1 1)):=(Fr.refl (fun z=>z=w.heap.size+2) W).setCell (p:=⟨w.heap.size+2,5,none⟩) rfl _
 have hb:BoxN (W.setCell ⟨w.heap.size+2,5,none⟩ (.slice (some ⟨W.heap.size,0,none⟩) 1 1)) (w.heap.size+2) ⟨7,(n:Int),0,0,[],none,0,some ⟨W.heap.size,0,none⟩,1,1⟩:=aK h.box 5 _
 have s2:(W.setCell ⟨w.heap.size+2,5,none⟩ (.slice (some ⟨W.heap.size,0,none⟩) 1 1)).heap.size=W.heap.size:=by simp
 have p1:=ht.fr hf (nB h.box (by omega))
 have d1:=h.db.box h.box hf
 have l1:=aA h.box
 have z1:=(hf.block _ (aA h.z) (by omega)).trans h.z
 have f1:Fr (At b) w (W.setCell ⟨w.heap.size+2,5,none⟩ (.slice (some ⟨W.heap.size,0,none⟩) 1 1)):=h.fr.over hf (fun i e=>.inr (by omega))
 generalize W.setCell ⟨w.heap.size+2,5,none⟩ (.slice (some ⟨W.heap.size,0,none⟩) 1 1)=W2 at *
 have bel:Below W2.heap.size W2 (W2.alloc (.cells #[.int .i64 t.f.k,.int .i64 t.f.n,.int .i64 t.f.mn,.int .i64 t.f.mx,.slice t.f.rq t.f.rs.length t.f.rc,.slice t.f.kq t.f.kl t.f.kc] 28)):=bz9
 have N3:BoxN (W2.alloc (.cells #[.int .i64 t.f.k,.int .i64 t.f.n,.int .i64 t.f.mn,.int .i64 t.f.mx,.slice t.f.rq t.f.rs.length t.f.rc,.slice t.f.kq t.f.kl t.f.kc] 28)) W.heap.size t.f:=s2 ▸ aG W2 _
 have p3:=p1.kept bel
 refine⟨(bel.block _ (aA hb)).trans hb,⟨?_,?_,?_⟩,d1.kept bel,(bel.block _ (aA z1)).trans z1,f1.trans (Fr.of_below bel)⟩
 ·exact(aY _).2 ⟨⟨.inl ⟨none,0,rfl,rfl,fun _=>rfl⟩,.inr ⟨W.heap.size,0,1,rfl,aA N3,Nat.le_refl _,by unfold maxLen;decide,fun i u hu=>by
   (match i,hu with
   | 0,hu=>(cases hu;exact N3.six))⟩,cL,by simp [Tr.f],⟨fun a e=>(by cases e),fun a e _=>(by cases e;exact⟨_,N3⟩)⟩⟩,(aW _).2 fun u hu=>by(rcases List.mem_cons.1 hu with e | e;(subst e;exact p3.ta);cases e)⟩
 ·rw [eL,te,<- p3.er]
  rfl
 ·exact(aY _).2 ⟨fun a e _=>by cases e;show w.heap.size+3<=W.heap.size;omega,(aW _).2 fun u hu=>by(rcases List.mem_cons.1 hu with e | e;(subst e;exact p3.fk);cases e)⟩
theorem tK{base b P G:Nat}{w W:World}{tv:Value}{D:List Dt}{x:Ps}{t:Tr}(hz:BoxN W w.heap.size (bare 0))(ht:PT (fun k=>w.heap.size+1<=k) W x t)(hd:DB base W b tv D P G)(hf:Fr (At b) w W) :
  Six (bH W w.heap.size 0 t.f) w.heap.size 0 t.f/\PT (fun k=>w.heap.size<=k) (bH W w.heap.size 0 t.f) x t/\DB base (bH W w.heap.size 0 t.f) b tv D P G/\Fr (At b) w (bH W w.heap.size 0 t.f):=by
 have f2:=cU W w.heap.size 0 t.f
 exact⟨(iN hz t.f).six,(ht.fr f2 (nB hz (by omega))).mono (fun k hk=>by omega),hd.box hz f2,hf.over f2 (fun i e=>.inr (by omega))⟩
end
structure TRow(lo:Nat)(w:World)(v:Value)(l:List Ps)(ts:List Tr):Prop where
 own:w.ownsRow lo 28 6 v l.length (bD ts)
 len:ts.length=l.length
 each:∀ (i:Nat) (x:Ps) (t:Tr),l[i]?=some x->ts[i]?=some t->PT (fun k=>lo<=k/\v.ownBlock≠some k) w x t
theorem TRow.nil(lo:Nat)(w:World):TRow lo w (.slice none 0 0) [] []:=⟨World.ownsRow_nil _ _ _ _,rfl,fun i x u h=>by simp at h⟩
theorem TRow.kept{lo:Nat}{w w':World}{v:Value}{l:List Ps}{ts:List Tr}(h:TRow lo w v l ts)(hb:Below w.heap.size w w'):TRow lo w' v l ts:=
 ⟨aQ h.own (Fr.of_below (S:=fun _=>False) hb) (fun _ _ q=>q),h.len,fun i x u h1 h2=>(h.each i x u h1 h2).kept hb⟩
theorem TRow.at{base lo b p g:Nat}{w w':World}{tv:Value}{D:List Dt}{v:Value}{l:List Ps}{ts:List Tr}(h:TRow lo w v l ts)(hB:DB base w b tv D p g)(hf:Fr (At b) w w'):TRow lo w' v l ts:=
 ⟨aQ h.own hf (fun k hk e=>by obtain rfl:k=b:=e;exact aN h.own hB.bd (by decide) hk),h.len,fun i x u h1 h2=>(h.each i x u h1 h2).fr hf (hB.apt _)⟩
theorem DB.grow{base b p g:Nat}{w w':World}{tv:Value}{D:List Dt}{S:Nat->Prop}(h:DB base w b tv D p g)(hf:Fr S w w')(hS:∀ k,S k->∃ cs,w.heap[k]?=some (.cells cs 28 (0,0))):DB base w' b tv D p g:=
 h.fr hf (fun k hk=>by obtain⟨cs,q⟩:=hS k hk;exact⟨cs,_,q,by decide,by decide,by decide⟩)
theorem TRow.snoc{base lo b p g n0:Nat}{w w2 w3 w4:World}{tv:Value}{D:List Dt}{v v':Value}{l:List Ps}{ts:List Tr}{x:Ps}{u:Tr}(h:TRow lo w v l ts)(hB:DB base w b tv D p g)(hlo:lo<=w.heap.size)
  (hf:Fr (At b) w w2) (hn:n0=w.heap.size) (hx:PT (fun k=>n0<=k) w2 x u) (hb:Below w2.heap.size w2 w3) (ho:w4.ownsRow lo 28 6 v' (l.length+1) (bD ts ++ u.f.cells)) (hg:w3.grownBy w4 v.ownBlock) (hv:v'.ownBlock=v.ownBlock\/v'.ownBlock=some w3.heap.size) :
  TRow lo w4 v' (l ++ [x]) (ts ++ [u]):=by
 subst hn
 have h3:=(h.at hB hf).kept hb
 have hF:Fr (fun k=>v.ownBlock=some k) w3 w4:=Fr.grown (Fr.refl _ _) hg (fun k hk=>hk)
 have hs23:=hb.size
 have hsw:=hf.size
 have hvk:∀ k,v.ownBlock=some k->k < w.heap.size:=fun k hk=>(aH h.own hk).2.1
 refine⟨by rw [List.length_append,dJ,show bD [u]=u.f.cells by simp [bD]];exact ho,by rw [List.length_append,List.length_append,h.len];rfl,fun i y z hy hz=>?_⟩
 rcases Nat.lt_trichotomy i l.length with q | q | q
 ·rw [List.getElem?_append_left q] at hy
  rw [List.getElem?_append_left (by rw [h.len];exact q)] at hz
  have e:=h3.each i y z hy hz
  refine(e.lt.fr hF (fun k hk=>?_)).mono (fun k hk=>⟨hk.1.1,fun e4=>?_⟩)
  ·obtain⟨-,-,cur,hc⟩:=aH h3.own hk
   exact⟨cur,_,hc,by decide,.inr fun z=>z.1.2 hk⟩
  ·rcases hv with hv | hv
   ·rw [hv] at e4;exact hk.1.2 e4
   ·rw [hv] at e4;cases e4;exact absurd hk.2 (by omega)
 ·subst q
  rw [List.getElem?_append_right lz9,Nat.sub_self] at hy
  rw [List.getElem?_append_right (by rw [h.len];exact Nat.le_refl _),h.len,Nat.sub_self] at hz
  simp at hy hz
  subst hy hz
  refine(((hx.kept hb).lt).fr hF (fun k hk=>?_)).mono (fun k hk=>⟨by omega,fun e4=>?_⟩)
  ·obtain⟨-,-,cur,hc⟩:=aH h3.own hk
   exact⟨cur,_,hc,by decide,.inr fun z=>by have:=hvk k hk;omega⟩
  ·rcases hv with hv | hv
   ·rw [hv] at e4;have:=hvk k e4;omega
   ·rw [hv] at e4;cases e4;omega
 ·rw [List.getElem?_append_right (by omega),List.getElem?_eq_none (by simp;omega)] at hy
  cases hy
theorem TRow.all{lo:Nat}{w:World}{v:Value}{l:List Ps}{ts:List Tr}(h:TRow lo w v l ts):ts.map er=l.map te/\∀ u∈ts,TA w u/\FK (fun k=>lo<=k) u/\∃ x∈l,er u=te x:=by
 have key:∀ (i:Nat) (u:Tr),ts[i]?=some u->∃ x,l[i]?=some x/\PT (fun k=>lo<=k/\v.ownBlock≠some k) w x u:=fun i u hu=>by
  have hi:=(List.getElem?_eq_some_iff.1 hu).1
  have hx:l[i]?=some (l[i]'(by rw [<- h.len];exact hi)):=List.getElem?_eq_getElem _
  exact⟨_,hx,h.each i _ u hx hu⟩
 refine⟨List.ext_getElem? fun i=>?_,fun u hu=>?_⟩
 ·rw [List.getElem?_map,List.getElem?_map]
  cases hu:ts[i]? with
  | none=>
   have:l[i]?=none:=by rw [List.getElem?_eq_none_iff] at hu ⊢;rw [<- h.len];exact hu
   rw [this];rfl
  | some u=>
   obtain⟨x,h1,h2⟩:=key i u hu
   rw [h1]
   simp [h2.er]
 ·obtain⟨i,hi,e⟩:=List.getElem_of_mem hu
  obtain⟨x,h1,h2⟩:=key i u (by rw [List.getElem?_eq_getElem hi,e])
  exact⟨h2.ta,h2.fk.mono (fun k q=>q.1),x,List.mem_of_getElem? h1,h2.er⟩
theorem TRow.arg{lo:Nat}{w:World}{q:Option Addr}{c:Nat}{l:List Ps}{ts:List Tr}(h:TRow lo w (.slice q l.length c) l ts):ArgK w (.slice q ts.length c) ts:=by
 have:=h.own
 rw [<- h.len] at this
 exact mF this
theorem vY(k:Int)(l:List Ps)(no:Er)(x:Ps)(h0:l=[]->te x=no)(h1:∀ y,l=[y]->x=y)(h2:2<=l.length->te x=.mk k 0 0 0 [] (l.map te)):gE k (l.map te) no=te x:=by
 match l,h0,h1,h2 with
 | [],h0,_,_=>rw [h0 rfl];rfl
 | [y],_,h1,_=>rw [h1 y rfl];rfl
 | y :: z :: l,_,_,h2=>rw [h2 (by simp)];exact nR _ _ _ (by simp)
theorem bI0(l:List Ps):gE 5 (l.map te) (.mk 1 0 0 0 [] [])=te (mkB l):=
 vY 5 l _ _ (fun e=>by subst e;simp [mkB,te]) (fun y e=>by subst e;rfl) (fun h=>by
  match l,h with
  | y :: z :: l,_=>simp [mkB,te,gG])
theorem bH9(l:List Ps)(hl:l≠[]):gE 6 (l.map te) (.mk 2 0 0 0 [] [])=te (mkP l):=
 vY 6 l _ _ (fun e=>absurd e hl) (fun y e=>by subst e;rfl) (fun h=>by
  match l,h with
  | y :: z :: l,_=>simp [mkP,te,gG])
theorem bD0{x:Ps}(h:cC x=true)(hw:wf x):(te x).k≠1/\(te x).k≠5:=by
 cases x with
 | lf k n rs=>rw [wf] at hw;simp only [te,Er.k];omega
 | grp n z=>exact⟨by simp [te,Er.k],by simp [te,Er.k]⟩
 | rep a b z=>exact⟨by simp [te,Er.k],by simp [te,Er.k]⟩
 | row=>simp [cC] at h
 | alt=>simp [cC] at h
theorem bH3{x:Ps}(h:hZ x=true)(hw:wf x):(te x).k≠6:=by
 cases x with
 | lf k n rs=>rw [wf] at hw;simp only [te,Er.k];omega
 | grp n z=>simp [te,Er.k]
 | rep a b z=>simp [te,Er.k]
 | row l=>simp only [te];split <;> simp [Er.k]
 | alt=>simp [hZ] at h
section
attribute [local go_sem] aR
def DIt(x:Ps):Prop:=∀ (base b p g:Nat) (w:World) (tv:Value) (D:List Dt) (r:List Sgn),DB base w b tv D p g->left D p g=pfl x ++ r->zR r ->
 Calls Tryz.prog 104 #[.pointer (some ⟨b,0,none⟩)] w (kI base w b tv D p g x)
def bB1(x:Ps):Prop:=∀ (base b p g:Nat) (w:World) (tv:Value) (D:List Dt) (r:List Sgn),DB base w b tv D p g->left D p g=pfl x ++ r->uS r ->
 Calls Tryz.prog 41 #[.pointer (some ⟨b,0,none⟩)] w (kI base w b tv D p g x)
theorem DB.atP{base b p g:Nat}{w:World}{tv:Value}{D:List Dt}(h:DB base w b tv D p g):Go.Proofs.YtpfdapnfkghgkaaGreatDoor.atP w b=p:=by
 unfold Go.Proofs.YtpfdapnfkghgkaaGreatDoor.atP
 rw [h.c1]
 simp
theorem pX{base b p g:Nat}{w:World}{tv:Value}{D:List Dt}(h:DB base w b tv D p g)(hp:p < D.length)(o:Obj) :
  IL base b tv D w (.lf 0 0 []) (.mk (bare 0) []) (p+1) g ((((w.setCell ⟨b,1,none⟩ (.int .i64 ((p:Int)+1))).alloc (.cells #[.int .i64 0,.int .i64 0,.int .i64 0,.int .i64 0,.slice none 0 0,.slice none 0 0] 28)).alloc o).alloc (.cells #[.int .i64 0,.int .i64 0,.int .i64 0,.int .i64 0,.slice none 0 0,.slice none 0 0] 28)).drew/\((((w.setCell ⟨b,1,none⟩ (.int .i64 ((p:Int)+1))).alloc (.cells #[.int .i64 0,.int .i64 0,.int .i64 0,.int .i64 0,.slice none 0 0,.slice none 0 0] 28)).alloc o).alloc (.cells #[.int .i64 0,.int .i64 0,.int .i64 0,.int .i64 0,.slice none 0 0,.slice none 0 0] 28)).drew.heap[w.heap.size+1]?=some o:=by
 obtain⟨d1,f1⟩:=h.step hp
 have s1:(w.setCell ⟨b,1,none⟩ (.int .i64 ((p:Int)+1))).heap.size=w.heap.size:=by simp
 generalize w.setCell ⟨b,1,none⟩ (.int .i64 ((p:Int)+1))=W1 at *
 have b1:Below W1.heap.size W1 (W1.alloc (.cells #[.int .i64 0,.int .i64 0,.int .i64 0,.int .i64 0,.slice none 0 0,.slice none 0 0] 28)):=bz9
 have n1:BoxN (W1.alloc (.cells #[.int .i64 0,.int .i64 0,.int .i64 0,.int .i64 0,.slice none 0 0,.slice none 0 0] 28)) w.heap.size (bare 0):=s1 ▸ aG W1 _
 have s2:(W1.alloc (.cells #[.int .i64 0,.int .i64 0,.int .i64 0,.int .i64 0,.slice none 0 0,.slice none 0 0] 28)).heap.size=w.heap.size+1:=by rw [World.size_alloc,s1]
 generalize W1.alloc (.cells #[.int .i64 0,.int .i64 0,.int .i64 0,.int .i64 0,.slice none 0 0,.slice none 0 0] 28)=W2 at *
 have b2:Below W2.heap.size W2 (W2.alloc o):=bz9
 have n2:(W2.alloc o).heap[w.heap.size+1]?=some o:=s2 ▸ aG W2 _
 have s3:(W2.alloc o).heap.size=w.heap.size+2:=by rw [World.size_alloc,s2]
 generalize W2.alloc o=W3 at *
 have b3:Below W3.heap.size W3 (W3.alloc (.cells #[.int .i64 0,.int .i64 0,.int .i64 0,.int .i64 0,.slice none 0 0,.slice none 0 0] 28)).drew:=(bz9).drew
 have n3:BoxN (W3.alloc (.cells #[.int .i64 0,.int .i64 0,.int .i64 0,.int .i64 0,.slice none 0 0,.slice none 0 0] 28)).drew (w.heap.size+2) (bare 0):=s3 ▸ aG W3 _
 have m1:=(b2.block _ (aA n1)).trans n1
 have b13:=aE b1 (aE b2 b3 lz9) lz9
 exact⟨⟨n3,⟨lF _ 0,rfl,(aY _).2 ⟨fun a e=>(by cases e),(aW _).2 fun u hu=>by cases hu⟩⟩,d1.kept b13,(b3.block _ (aA m1)).trans m1,f1.trans (Fr.of_below b13)⟩,(b3.block _ (aA n2)).trans n2⟩
theorem IL.put{base b:Nat}{tv:Value}{D:List Dt}{w:World}{x y:Ps}{t:Tr}{P G:Nat}{W:World}(h:IL base b tv D w x t P G W)(u:Tr)(hu:DB base (bH W (w.heap.size+2) 0 u.f) b tv D P G->PT (fun k=>w.heap.size+3<=k) (bH W (w.heap.size+2) 0 u.f) y u):IL base b tv D w y u P G (bH W (w.heap.size+2) 0 u.f):=by
 have hf:=cU W (w.heap.size+2) 0 u.f
 have d1:=h.db.box h.box hf
 exact⟨iN h.box u.f,hu d1,d1,(hf.block _ (aA h.z) (by omega)).trans h.z,h.fr.over hf (fun i e=>.inr (by omega))⟩
theorem DB.set_pt{base b p P G:Nat}{W:World}{tv:Value}{D:List Dt}{N:Nat->Prop}{d:Dt}(h:DB base W b tv D P G)(hd:D[p]?=some d){rq:Option Addr}{rc:Nat}(hv:d.2.1=.slice rq d.2.2.length rc):PT N W (.lf 2 0 (rsQ d.1.1.q)) (.mk ⟨2,0,0,0,d.2.2,rq,rc,none,0,0⟩ []):=by
 have hm:=List.mem_of_getElem? hd
 obtain⟨h1,h2⟩:=h.tl.each d hm
 rw [hv] at h1
 have h3:=(h.ok d hm).2
 refine⟨(aY _).2 ⟨⟨RR.arg h1,.inl ⟨none,0,rfl,rfl,fun _=>rfl⟩,h2.fit,by show d.2.2.length+3<=_;omega,NO.rows (f:=⟨2,0,0,0,d.2.2,rq,rc,none,0,0⟩) h1 (fun a e=>by cases e)⟩,(aW _).2 fun u hu=>by cases hu⟩,?_,(aY _).2 ⟨fun a e=>(by cases e),(aW _).2 fun u hu=>by cases hu⟩⟩
 rw [eL,te,aK8 h2]
 rfl
theorem oX{W:World}{N:Nat->Prop}(k n:Int):PT N W (.lf k n []) (.mk ⟨k,n,0,0,[],none,0,none,0,0⟩ []):=
 ⟨(aY _).2 ⟨⟨.inl ⟨none,0,rfl,rfl,fun _=>rfl⟩,.inl ⟨none,0,rfl,rfl,fun _=>rfl⟩,cL,by simp [Tr.f],⟨fun a e=>(by cases e),fun a e=>(by cases e)⟩⟩,(aW _).2 fun u hu=>by cases hu⟩,rfl,(aY _).2 ⟨fun a e=>(by cases e),(aW _).2 fun u hu=>by cases hu⟩⟩
theorem aW9{base b p g:Nat}{w:World}{tv:Value}{D:List Dt}(h:DB base w b tv D p g){r:List Sgn}(hl:left D p g=r)(hr:zR r):cZ D p≠2:=by
 cases r with
 | nil=>rw [nQ hl];decide
 | cons s r'=>
  rw [h.seeing hl]
  cases s with
  | rp a b=>exact absurd rfl (hr a b r')
  | lf k n rs=>
   simp only [skd]
   repeat' split
   all_goals decide
  | _=>simp [skd]
end
theorem uQ{R:Ending->World->Prop}{a:Act}{W:World}{b:Nat}{f:Fl}(h:Six W b 0 f)(ha:a.tmps[2]?.getD undef=.pointer (some ⟨b,0,none⟩))(hd:a.defers=[])(hR:R (.returned (.agg #[.int .i64 f.k,.int .i64 f.n,.int .i64 f.mn,.int .i64 f.mx,.slice f.rq f.rs.length f.rc,.slice f.kq f.kl f.kc])) W):bodyPost Tryz.prog Tryz.f72 R .ret a W:=by
 obtain⟨z0,z1,z2,z3,z4,z5⟩:=h
 simp only [Nat.zero_add] at z1 z2 z3 z4 z5
 refine bodyPost_ret (v:=.agg #[.int .i64 f.k,.int .i64 f.n,.int .i64 f.mn,.int .i64 f.mx,.slice f.rq f.rs.length f.rc,.slice f.kq f.kl f.kc]) ?_ hd hR
 simp [results,Tryz.results72,go_sem,ha,z0,z1,z2,z3,z4,z5]
theorem aL7{R:Ending->World->Prop}{a:Act}{W:World}{b:Nat}{f:Fl}(h:Six W b 0 f)(ha:a.tmps[2]?.getD undef=.pointer (some ⟨b,0,none⟩))(hd:a.defers=[])(hR:R (.returned (.agg #[.int .i64 f.k,.int .i64 f.n,.int .i64 f.mn,.int .i64 f.mx,.slice f.rq f.rs.length f.rc,.slice f.kq f.kl f.kc])) W):bodyPost Tryz.prog Tryz.f41 R .ret a W:=by
 obtain⟨z0,z1,z2,z3,z4,z5⟩:=h
 simp only [Nat.zero_add] at z1 z2 z3 z4 z5
 refine bodyPost_ret (v:=.agg #[.int .i64 f.k,.int .i64 f.n,.int .i64 f.mn,.int .i64 f.mx,.slice f.rq f.rs.length f.rc,.slice f.kq f.kl f.kc]) ?_ hd hR
 simp [results,Tryz.results41,go_sem,ha,z0,z1,z2,z3,z4,z5]
theorem kJ(w:World)(f:Fl):Below w.heap.size w ((w.alloc (.cells #[.int .i64 f.k,.int .i64 f.n,.int .i64 f.mn,.int .i64 f.mx,.slice f.rq f.rs.length f.rc,.slice f.kq f.kl f.kc] 28)).alloc (.cells #[.int .i64 f.k,.int .i64 f.n,.int .i64 f.mn,.int .i64 f.mx,.slice f.rq f.rs.length f.rc,.slice f.kq f.kl f.kc] 28))/\∀ (j:Nat) (u:Value),f.cells[j]?=some u->((w.alloc (.cells #[.int .i64 f.k,.int .i64 f.n,.int .i64 f.mn,.int .i64 f.mx,.slice f.rq f.rs.length f.rc,.slice f.kq f.kl f.kc] 28)).alloc (.cells #[.int .i64 f.k,.int .i64 f.n,.int .i64 f.mn,.int .i64 f.mx,.slice f.rq f.rs.length f.rc,.slice f.kq f.kl f.kc] 28)).cell? ((⟨w.heap.size+1,0,none⟩:Addr).add j)=some u:=by
 refine⟨(bz9).alloc (by simp) _,?_⟩
 have:=aG (w.alloc (.cells #[.int .i64 f.k,.int .i64 f.n,.int .i64 f.mn,.int .i64 f.mx,.slice f.rq f.rs.length f.rc,.slice f.kq f.kl f.kc] 28)) (.cells #[.int .i64 f.k,.int .i64 f.n,.int .i64 f.mn,.int .i64 f.mx,.slice f.rq f.rs.length f.rc,.slice f.kq f.kl f.kc] 28)
 rw [World.size_alloc] at this
 exact jN this
theorem Fr.box{S:Nat->Prop}{w w':World}{k:Nat}{f:Fl}(h:BoxN w k f)(hf:Fr S w w')(hk:¬ S k):BoxN w' k f:=(hf.block _ (aA h) hk).trans h
theorem BoxN.kept{w w':World}{k:Nat}{f:Fl}(h:BoxN w k f)(hb:Below w.heap.size w w'):BoxN w' k f:=(hb.block _ (aA h)).trans h
theorem BoxN.at{base b p g k:Nat}{w w':World}{tv:Value}{D:List Dt}{f:Fl}(h:BoxN w k f)(hB:DB base w b tv D p g)(hf:Fr (At b) w w'):BoxN w' k f:=Fr.box h hf (fun e=>dS h hB.bd (by decide) e)
theorem vZ:∀ m:List Ps,(∀ y∈m,cC y=true/\wf y)->m.length<=(cD m).length
 | [],_=>by simp
 | y :: m,h=>by
  obtain⟨s,t,e1,-⟩:=pZ y (h y (List.mem_cons_self ..)).1 (h y (List.mem_cons_self ..)).2
  have:=vZ m (fun z hz=>h z (List.mem_cons_of_mem _ hz))
  rw [cD,e1]
  simp
  omega
theorem aG2{base b p g:Nat}{w:World}{tv:Value}{D:List Dt}(h:DB base w b tv D p g)(hp:p < D.length):cZ D p≠0:=by
 unfold cZ
 rw [List.getElem?_eq_getElem hp]
 have:=(h.ok _ (List.getElem_mem hp)).1.1
 simp only
 omega
def BrD(x:Ps):Prop:=∀ (base b p g:Nat) (w:World) (tv:Value) (D:List Dt) (r:List Sgn),DB base w b tv D p g->left D p g=pfl x ++ r->rK r ->
 Calls Tryz.prog 72 #[.pointer (some ⟨b,0,none⟩)] w (kI base w b tv D p g x)
theorem rM{l:List Ps}(hl:∀ x∈l,DIt x/\cC x=true/\wf x){base b p g:Nat}{w:World}{tv:Value}{D:List Dt}{r:List Sgn}(h:DB base w b tv D p g)(hle:left D p g=cD l ++ r)(hr:rK r) :
  Calls Tryz.prog 72 #[.pointer (some ⟨b,0,none⟩)] w (kI base w b tv D p g (mkB l)):=by
 obtain⟨t0,hi,hz0,hz1,hz2⟩:=aS fA
 have HL:=aC hl
 have HLE:=aC hle
 have HR:=aC hr
 have B0:Hid (Below w.heap.size w (w.alloc aX)):=bz9
 have Z0:Hid (BoxN (w.alloc aX) w.heap.size (bare 0)):=aG w _
 have HB:=aC (h.kept B0.out)
 have hfw:=h.few
 obtain⟨X,hX⟩:∃ X,kI base w b tv D p g (mkB l)=X:=⟨_,rfl⟩
 have HX:=aC hX
 rw [hX]
 clear hX h hle hr hl
 go_enter Tryz.func72,Tryz.ntmps72
 go_upto_region 2 with fail
 generalize w.alloc aX=W0 at B0 Z0 HB ⊢
 go_loopw [3] (fun v wr=>∃ l1 l2 ts,l=l1 ++ l2/\TRow (w.heap.size+1) wr v l1 ts/\DB base wr b tv D (p+(cD l1).length) (g+nop (cD l1))/\Fr (At b) w wr/\BoxN wr w.heap.size (bare 0)) (fun _ wr=>D.length+1 - atP wr b)
 case atStart=>exact⟨[],l,[],rfl,TRow.nil _ _,by simpa [cD,nop] using HB.out,Fr.of_below B0.out,Z0.out⟩
 case round=>
  clear B0 Z0 HB
  obtain⟨l1,l2,ts,e,g1,g2,g3,g4⟩:=hrel
  obtain⟨q,c,rfl⟩:=aL g1.own
  have hleft:left D (p+(cD l1).length) (g+nop (cD l1))=cD l2 ++ r:=by
   have h1:=HLE.out
   rw [e,bX,List.append_assoc] at h1
   exact(dX h1).1
  have hat:=aC g2.atP
  have hle2:=g2.le
  have R6:=aC g1
  have H6:=aC g2
  have F6:=aC g3
  have Z6:=aC g4
  have HE:=aC e
  clear g1 g2 g3 g4 e
  generalize hpos:p+(cD l1).length=P1 at *
  have HPO:=aC hpos
  clear hpos
  have KC:=aC (oS H6.out)
  have hll:l1.length<=2000:=by
   have:=vZ l1 (fun y hy=>(HL.out y (by rw [HE.out];simp [hy])).2)
   have:=HPO.out
   omega
  have HLO:Hid (w.heap.size+1<=wr.heap.size):=aA Z6.out
  cases l2 with
  | nil=>
   have hcond:cZ D P1=0\/cZ D P1=5\/cZ D P1=4:=by
    rw [cD,List.nil_append] at hleft
    rcases HR.out with rfl | ⟨r',rfl⟩ | ⟨r',rfl⟩
    ·exact .inl (nQ hleft)
    ·exact .inr (.inr (H6.out.seeing hleft))
    ·exact .inr (.inl (H6.out.seeing hleft))
   clear hleft
   have e2:=HE.out
   rw [List.append_nil] at e2
   have CT:Hid (∀ W,Below wr.heap.size wr W->Calls Tryz.prog 103 #[.slice q l1.length c] W (MkO W ts (te (mkB l)))):=fun W hW=>by
    have t1:=R6.out.kept hW
    have:=bE3 t1.arg (fun u hu=>(t1.all.2 u hu).1) (fun u hu=>by
     obtain⟨x,hx,he⟩:=(t1.all.2 u hu).2.2
     have h3:=HL.out x (by rw [e2];exact hx)
     rw [<- aZ2,he]
     exact bD0 h3.2.1 h3.2.2) (by rw [t1.len];omega)
    rw [t1.all.1,bI0,<- e2,t1.len] at this
    exact this
   have POST:Hid (∀ (t:Tr) (w7 w8:World),Below wr.heap.size wr w7->Below w7.heap.size w7 w8->TA w8 t->er t=te (mkB l)->(∀ N:Nat->Prop,(∀ k,w7.heap.size<=k->N k)->(∀ u∈ts,FK N u)->FK N t)->Six (bH w8 w.heap.size 0 t.f) w.heap.size 0 t.f/\X (.returned (.agg #[.int .i64 t.f.k,.int .i64 t.f.n,.int .i64 t.f.mn,.int .i64 t.f.mx,.slice t.f.rq t.f.rs.length t.f.rc,.slice t.f.kq t.f.kl t.f.kc])) (bH w8 w.heap.size 0 t.f)):=fun t w7 w8 h1 h2 h3 h4 h5=>by
    have B8:=aE h1 h2 lz9
    obtain⟨d1,d2,d3,d4⟩:=tK (Z6.out.kept B8) ⟨h3,h4,h5 _ (fun k hk=>by have:=h1.size;have:=HLO.out;show w.heap.size+1<=k;omega) (fun u hu=>(R6.out.all.2 u hu).2.1)⟩ (H6.out.kept B8) (F6.out.trans (Fr.of_below B8))
    refine⟨d1,?_⟩
    rw [<- HX.out]
    refine⟨t,rfl,d2,?_,d4⟩
    rw [iP,e2,HPO.out]
    exact d3
   generalize cZ D P1=K at *
   rcases hcond with rfl | rfl | rfl
   all_goals (
    go_wp2_with first
     |(go_at_call 73;(with_reducible refine(KC.out).mono ?_);rintro e w7 ⟨rfl,h1⟩;have B7:=aC h1;clear h1)
     |(go_at_call 103;(with_reducible refine(CT.out _ B7.out).mono ?_);rintro e w8 ⟨t8,rfl,h1,h2,h3,h4⟩;have E8:=aC (POST.out t8 w7 w8 B7.out h4 h1 h2 h3);unfold bH at E8;have Z8:=aC ((Z6.out.kept B7.out).kept h4);have l8:=aA Z8.out;obtain⟨r0,r1,r2,r3,r4,r5⟩:=Z8.out.six;simp only [Nat.zero_add] at r1 r2 r3 r4 r5;have fz:=fun z=>aP Z8.out z;clear h1 h2 h3 h4)
    exact uQ E8.out.1 rfl rfl E8.out.2)
  | cons x l2=>
   have hxm:=HL.out x (by rw [HE.out];simp)
   have hxl:∀ y∈l2,cC y=true/\wf y:=fun y hy=>(HL.out y (by rw [HE.out];simp [hy])).2
   rw [cD,List.append_assoc] at hleft
   obtain⟨s,t,e1,k4,k5,-⟩:=pZ x hxm.2.1 hxm.2.2
   have hleft':=hleft
   rw [e1,List.cons_append] at hleft'
   have ks:=H6.out.seeing hleft'
   obtain⟨d,-,-,-,hp⟩:=bR hleft'
   have k0:=aG2 H6.out hp
   rw [<- ks] at k4 k5
   have j0:((cZ D P1:Int)==0)=false:=by rw [beq_eq_false_iff_ne];omega
   have j4:((cZ D P1:Int)==4)=false:=by rw [beq_eq_false_iff_ne] at k4 ⊢;omega
   have j5:((cZ D P1:Int)==5)=false:=by rw [beq_eq_false_iff_ne] at k5 ⊢;omega
   have IC:Hid (∀ W,Below wr.heap.size wr W->Calls Tryz.prog 104 #[.pointer (some ⟨b,0,none⟩)] W (kI base W b tv D P1 (g+nop (cD l1)) x)):=fun W hW=>hxm.1 base b P1 _ W tv D _ (H6.out.kept hW) hleft (rJ hxl HR.out)
   have HXF:=aC (show 0 < (pfl x).length by rw [e1];simp)
   generalize cZ D P1=K at *
   clear hleft hleft' e1 k4 k5 hxm hxl hp ks k0
   go_wp2_with first
    |(go_at_call 73;(with_reducible refine(KC.out).mono ?_);rintro e w5 ⟨rfl,h1⟩;have B5:=aC h1;clear h1)
    |(go_at_call 104;(with_reducible refine(IC.out _ B5.out).mono ?_);rintro e w6 ⟨t6,rfl,h1,h2,h3⟩;have V6:=aC h1;have H7:=aC h2;have F7:=aC h3;have B7:=aC (kJ w6 t6.f).1;have N7:=aC (kJ w6 t6.f).2;have R7:=aC (((R6.out.kept B5.out).at (H6.out.kept B5.out) F7.out).kept B7.out);clear h1 h2 h3)
    |(at_builtin;refine wpList_append_own_at _ rfl _ _ 26 rfl (w.heap.size+1) 28 t0 (.agg #[.int .i64 0,.int .i64 0,.int .i64 0,.int .i64 0,.slice none 0 0,.slice none 0 0]) 6 80 cR hi hz0 hz1 hz2 rfl (by decide) (.slice q l1.length c) l1.length (bD ts) rfl R7.out.own ⟨w6.heap.size+1,0,none⟩ 1 1 t6.f.cells rfl rfl N7.out (fun v hv=>by simp [Fl.cells] at hv;rcases hv with rfl | rfl | rfl | rfl | rfl | rfl <;> rfl) (by unfold maxLen;omega) (by omega) (by have:=B7.out.size;have:=F7.out.size;have:=B5.out.size;have:=HLO.out;omega) ?_;intro v' w8 hown' hgrow _ hblk;obtain⟨q8,c8,rfl⟩:=aL hown';have R8:=aC ((R6.out.kept B5.out).snoc (H6.out.kept B5.out) (by have:=B5.out.size;have:=HLO.out;omega) F7.out rfl V6.out B7.out hown' hgrow hblk);have F8:Hid (Fr (fun k=>(Value.slice q l1.length c).ownBlock=some k) ((w6.alloc (.cells #[.int .i64 t6.f.k,.int .i64 t6.f.n,.int .i64 t6.f.mn,.int .i64 t6.f.mx,.slice t6.f.rq t6.f.rs.length t6.f.rc,.slice t6.f.kq t6.f.kl t6.f.kc] 28)).alloc (.cells #[.int .i64 t6.f.k,.int .i64 t6.f.n,.int .i64 t6.f.mn,.int .i64 t6.f.mx,.slice t6.f.rq t6.f.rs.length t6.f.rc,.slice t6.f.kq t6.f.kl t6.f.kc] 28)) w8):=Fr.grown (Fr.refl _ _) hgrow (fun k hk=>hk);clear hown' hgrow hblk)
   have ROW:=aC (fun k hk=>aH R7.out.own (g:=k) hk)
   have H8:=aC ((H7.out.kept B7.out).grow F8.out (fun k hk=>(ROW.out k hk).2.2))
   go_roundw
   case rel=>
    refine⟨l1 ++ [x],l2,_,by rw [HE.out];simp,R8.out,?_,?_,?_⟩
    ·have e4:p+(cD (l1 ++ [x])).length=P1+(pfl x).length:=by rw [bX,dF,List.length_append,<- HPO.out];omega
     have e5:g+nop (cD (l1 ++ [x]))=g+nop (cD l1)+nop (pfl x):=by rw [bX,dF,dH];omega
     rw [e4,e5]
     exact H8.out
    ·exact(((F6.out.trans (Fr.of_below B5.out)).trans F7.out).trans (Fr.of_below B7.out)).over F8.out (fun k hk=>.inr (by have:=(ROW.out k hk).1;omega))
    ·exact Fr.box (((Z6.out.kept B5.out).at (H6.out.kept B5.out) F7.out).kept B7.out) F8.out (fun e=>by have:=(ROW.out _ e).1;omega)
   case measure=>
    have m1:=H8.out.atP
    have m2:=hat.out
    have m3:=H7.out.le
    have m4:=HXF.out
    omega
end Go.Proofs.YtpfdapnfkghgkaaGreatDoor
