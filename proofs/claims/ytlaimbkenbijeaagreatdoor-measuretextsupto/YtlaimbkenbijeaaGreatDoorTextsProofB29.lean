/-
  Parts of the proof.
-/
import Derived.Test.YtlaimbkenbijeaaGreatDoorTextsProofA0
import Derived.Test.YtlaimbkenbijeaaGreatDoorTextsProofB7
import Derived.Test.YtlaimbkenbijeaaGreatDoorTextsProofB3
set_option maxRecDepth 100000
set_option maxHeartbeats 8000000
namespace Go.Proofs.YtlaimbkenbijeaaGreatDoor
open Go Go.RowKit
theorem NB.foot{W:World}{t:Tr}(h:NB W t):aX1 (fun k=>k < W.heap.size) t:=by
 refine⟨fun a e hz=>?_,fun a e hz=>?_⟩
 ·rcases h.r with⟨p,cap,-,e2,-⟩ | ⟨g,off,cap,e2,hg,-⟩
  ·exact absurd e2 hz
  ·injection e2 with e3
   rw [e] at e3
   cases e3
   exact hg
 ·rcases h.k with⟨p,cap,-,e2,-⟩ | ⟨g,off,cap,e2,hg,-⟩
  ·exact absurd e2 hz
  ·injection e2 with e3
   rw [e] at e3
   cases e3
   exact hg
theorem TB.foot{W:World}{t:Tr}(h:TB W t):Foot (fun k=>k < W.heap.size) t:=nA (fun _=>NB.foot) t h
theorem NB.ckN{N:Nat->Prop}{W W':World}{t:Tr}(h:NB W t)(hf:aX1 N t)(hc:CKeep N W W'):NB W' t:=by
 refine⟨?_,?_,h.fit,h.len⟩
 ·rcases h.r with q | ⟨g,off,cap,e,hg,h1,h2,h3⟩
  ·exact .inl q
  ·injection e with e1 e2 e3
   refine .inr ⟨g,off,cap,by rw [e1,e3],i6 hg hc.size,h1,h2,fun i x hx=>?_⟩
   have hN:N g:=hf.1 _ e1 (fun z=>by rw [z] at hx;simp at hx)
   exact⟨dP hc (p:=⟨g,off+2 * i,none⟩) hN (h3 i x hx).1,dP hc (p:=⟨g,off+2 * i+1,none⟩) hN (h3 i x hx).2⟩
 ·rcases h.k with q | ⟨g,off,cap,e,hg,h1,h2,h3⟩
  ·exact .inl q
  ·injection e with e1 e2 e3
   refine .inr ⟨g,off,cap,by rw [e1,e2,e3],i6 hg hc.size,h1,h2,fun i x hx=>(h3 i x hx).ck hc (hf.2 _ e1 (fun z=>by rw [z] at hx;simp at hx))⟩
theorem TB.ckN{N:Nat->Prop}{W W':World}{t:Tr}(h:TB W t)(hf:Foot N t)(hc:CKeep N W W'):TB W' t:=qA (fun _ a b=>NB.ckN a b hc) t h hf
theorem aL3{base:Nat}{w W W':World}{e:TypeId}{size n:Nat}{v:Value}{xs:List Value}(h:Below base w W)(hw:base<=w.heap.size)(ho:W.ownsRow base e size v n xs)(hg:W.grownBy W' v.ownBlock):Below base w W':=
 h.trans ⟨hg.os,hg.tape,hg.output,hg.size,fun k hk=>hg.block k (by have:=h.size;omega) (fun q=>by have:=(aH ho q.symm).1;omega)⟩
theorem bB9{W:World}{base c:Nat}{q:Option Addr}{ks:List Tr}(h:W.ownsRow base 25 6 (.slice q ks.length c) ks.length (fA ks)):ArgK W (.slice q ks.length c) ks:=by
 rcases h.2 with⟨e,hn⟩ | ⟨g,cap,cur,e,h1,h2,h3,h4,-⟩
 ·obtain rfl:=o3 hn
  injection e with e1 _ e3
  subst e1 e3
  exact .inl ⟨none,0,rfl,rfl,fun _=>rfl⟩
 ·injection e with e1 _ e3
  subst e1 e3
  exact(KR.of_row h).arg h3 h4
theorem yJ{W:World}{b:Nat}{f:Fl}(h:BoxN W b f):∀ j u,f.cells[j]?=some u->W.cell? ((⟨b,0,none⟩:Addr).add j)=some u:=fun j u hj=>by rw [xF];exact h.six.at hj
abbrev zFl:Fl:=⟨0,0,0,0,[],none,0,none,0,0⟩
structure CI(w1:World)(b bz:Nat)(t:Tr)(rv:Value)(nk:List Tr)(v:Value)(W:World):Prop where
 bx:BoxN W b t.f
 rz:BoxN W bz zFl
 rr:RR w1.heap.size W rv t.f.rs
 row:W.ownsRow w1.heap.size 25 6 v nk.length (fA nk)
 new:∀ u∈nk,TB W u/\Foot (fun k=>w1.heap.size<=k/\v.ownBlock≠some k) u
 bel:Below w1.heap.size w1 W
theorem CI.kept{w1:World}{b bz:Nat}{t:Tr}{rv:Value}{nk:List Tr}{v:Value}{W W':World}(h:CI w1 b bz t rv nk v W)(hb:Below W.heap.size W W'):CI w1 b bz t rv nk v W':=
 ⟨(hb.block _ (aB h.bx)).trans h.bx,(hb.block _ (aB h.rz)).trans h.rz,aM h.rr (Fr.of_below (S:=fun _=>False) hb) (fun _ _ q=>q),aM h.row (Fr.of_below (S:=fun _=>False) hb) (fun _ _ q=>q),fun u hu=>⟨(h.new u hu).1.kept hb,(h.new u hu).2⟩,aJ h.bel hb lz9⟩
theorem CI.snoc{w1:World}{b bz:Nat}{t:Tr}{rv:Value}{nk:List Tr}{v v':Value}{W W5 W6 W7:World}{u:Tr}(h:CI w1 b bz t rv nk v W)(hbw:b < w1.heap.size)(hbz:bz < w1.heap.size)(h5:Below W.heap.size W W5)(hu:TB W5 u)(hf:Foot (fun k=>W.heap.size<=k) u)(h6:Below W5.heap.size W5 W6)
  (ho:W7.ownsRow w1.heap.size 25 6 v' (nk.length+1) (fA nk ++ u.f.cells)) (hg:W6.grownBy W7 v.ownBlock) (hv:v'.ownBlock=v.ownBlock\/v'.ownBlock=some W6.heap.size):CI w1 b bz t rv (nk ++ [u]) v' W7:=by
 have B6:Below W.heap.size W W6:=aJ h5 h6 lz9
 have h':=h.kept B6
 have F:Fr (fun k=>v.ownBlock=some k) W6 W7:=(Fr.refl _ _).grown hg (fun k hk=>hk)
 have hlo:∀ k,v.ownBlock=some k->w1.heap.size<=k:=fun k hk=>(aH h.row hk).1
 have hlt:∀ k,v.ownBlock=some k->k < W.heap.size:=fun k hk=>(aH h.row hk).2.1
 have box:∀ {k:Nat} {f:Fl},k < w1.heap.size->BoxN W6 k f->BoxN W7 k f:=fun {k f} hk hx=>(F.block k (aB hx) (fun q=>by have:=hlo k q;omega)).trans hx
 refine⟨box hbw h'.bx,box hbz h'.rz,?_,?_,fun x hx=>?_,aL3 h'.bel lz9 h'.row hg⟩
 ·exact aM h'.rr F (fun k hk q=>nP h'.rr h'.row (by decide) hk q)
 ·rw [m7,uE,show fA [u]=u.f.cells by simp [fA]]
  exact ho
 ·have fresh:∀ k,k < W6.heap.size->v.ownBlock≠some k->v'.ownBlock≠some k:=fun k hk hn q=>by
   rcases hv with e | e
   ·exact hn (e.symm.trans q)
   ·rw [e] at q;have:=aAP q;omega
  rcases n9.1 hx with hx | hx
  ·obtain⟨a1,a2⟩:=h'.new x hx
   have a3:Foot (fun k=>k < W6.heap.size/\(w1.heap.size<=k/\v.ownBlock≠some k)) x:=qA (fun _ p q=>⟨fun a e z=>⟨p.1 a e z,q.1 a e z⟩,fun a e z=>⟨p.2 a e z,q.2 a e z⟩⟩) x a1.foot a2
   exact⟨a1.ckN a3 (F.ckeep (fun k q p=>p.2.2 q)),a3.mono fun k q=>⟨q.2.1,fresh k q.1 q.2.2⟩⟩
  ·obtain rfl:=aBN.1 hx
   have a1:=hu.kept h6
   have a3:Foot (fun k=>k < W6.heap.size/\W.heap.size<=k) x:=qA (fun _ p q=>⟨fun a e z=>⟨p.1 a e z,q.1 a e z⟩,fun a e z=>⟨p.2 a e z,q.2 a e z⟩⟩) x a1.foot hf
   have hs:=h.bel.size
   exact⟨a1.ckN a3 (F.ckeep (fun k q p=>by have:=hlt k q;omega)),a3.mono fun k q=>⟨by omega,fresh k q.1 (fun z=>by have:=hlt k z;omega)⟩⟩
theorem CI.tree{w1:World}{b bz:Nat}{t:Tr}{nk:List Tr}{rq kq:Option Addr}{rc kc:Nat}{W W':World}(h:CI w1 b bz t (.slice rq t.f.rs.length rc) nk (.slice kq nk.length kc) W)(hbw:b < w1.heap.size)(hbz:bz < w1.heap.size)(hF:Fit t.f.rs)(hl:t.f.rs.length+3<=8796093022208)
  (hf:Fr (fun k=>k=b\/k=bz) W W') (w0:Nat) (hw0:w0<=w1.heap.size):TB W' (.mk ⟨t.f.k,t.f.n,t.f.mn,t.f.mx,t.f.rs,rq,rc,kq,nk.length,kc⟩ nk)/\Foot (fun k=>w0<=k) (.mk ⟨t.f.k,t.f.n,t.f.mn,t.f.mx,t.f.rs,rq,rc,kq,nk.length,kc⟩ nk):=by
 have rr:RR w1.heap.size W' (.slice rq t.f.rs.length rc) t.f.rs:=aM h.rr hf (fun k hk q=>by have:=(aH h.rr hk).1;rcases q with rfl | rfl <;> omega)
 have row:W'.ownsRow w1.heap.size 25 6 (.slice kq nk.length kc) nk.length (fA nk):=aM h.row hf (fun k hk q=>by have:=(aH h.row hk).1;rcases q with rfl | rfl <;> omega)
 refine⟨(bE _).2 ⟨⟨rr.arg,bB9 row,hF,hl⟩,(bX _).2 fun u hu=>?_⟩,(bE _).2 ⟨⟨fun a e z=>?_,fun a e z=>?_⟩,(bX _).2 fun u hu=>?_⟩⟩
 ·exact(h.new u hu).1.ckN (h.new u hu).2 (hf.ckeep (fun k q p=>by rcases q with rfl | rfl <;> omega))
 ·have:=(aH rr (g:=a.block) (by rw [show rq=some a from e];rfl)).1;omega
 ·have:=(aH row (g:=a.block) (by rw [show kq=some a from e];rfl)).1;omega
 ·exact(h.new u hu).2.mono fun k q=>by omega
theorem uT{R:Ending->World->Prop}{a:Act}{W:World}{b:Nat}{f:Fl}(h:Six W b 0 f)(ha:a.tmps[2]?.getD undef=.pointer (some ⟨b,0,none⟩))(hd:a.defers=[])(hR:R (.returned (.agg #[.int .i64 f.k,.int .i64 f.n,.int .i64 f.mn,.int .i64 f.mx,.slice f.rq f.rs.length f.rc,.slice f.kq f.kl f.kc])) W):bodyPost Tryz.prog Tryz.f58 R .ret a W:=by
 obtain⟨z0,z1,z2,z3,z4,z5⟩:=h
 simp only [g8] at z1 z2 z3 z4 z5
 refine bodyPost_ret (v:=.agg #[.int .i64 f.k,.int .i64 f.n,.int .i64 f.mn,.int .i64 f.mx,.slice f.rq f.rs.length f.rc,.slice f.kq f.kl f.kc]) ?_ hd hR
 simp [results,Tryz.results58,go_sem,ha,z0,z1,z2,z3,z4,z5]
def bN5(w:World)(x:Er)(e:Ending)(w':World):Prop:=∃ t',e=.returned (.agg #[.int .i64 t'.f.k,.int .i64 t'.f.n,.int .i64 t'.f.mn,.int .i64 t'.f.mx,.slice t'.f.rq t'.f.rs.length t'.f.rc,.slice t'.f.kq t'.f.kl t'.f.kc])/\TB w' t'/\er t'=x/\Foot (fun k=>w.heap.size<=k) t'/\Below w.heap.size w w'
theorem bG1:∀ (m:Nat) (t:Tr) (w:World),t.sz<=m->t.sz<=1000000->TB w t->Calls Tryz.prog 58 #[.agg #[.int .i64 t.f.k,.int .i64 t.f.n,.int .i64 t.f.mn,.int .i64 t.f.mx,.slice t.f.rq t.f.rs.length t.f.rc,.slice t.f.kq t.f.kl t.f.kc]] w (bN5 w (er t)):=by
 intro m
 induction m with
 | zero=>intro t w hm;exact absurd (eV t) (by omega)
 | succ m ih=>
  intro t w hm hsz hta
  have IH:=aD ih
  have HM:=aD hm
  have HTA:=aD hta
  have HKL:=aD hta.node.kl
  have hkn:t.ks.length<=1000000:=by have:=eM t.ks;rw [jG] at hsz;omega
  have hln:=hta.node.len
  have HSZ:=aD hsz
  obtain⟨t0,hi,hz0,hz1,hz2⟩:=bH cY
  obtain⟨s0,ji,jz0,jz1,jz2⟩:=bH aM9
  have B0:Hid (Below w.heap.size w ((w.alloc (.cells #[.int .i64 t.f.k,.int .i64 t.f.n,.int .i64 t.f.mn,.int .i64 t.f.mx,.slice t.f.rq t.f.rs.length t.f.rc,.slice t.f.kq t.f.kl t.f.kc] 25)).alloc (.cells #[.int .i64 0,.int .i64 0,.int .i64 0,.int .i64 0,.slice none 0 0,.slice none 0 0] 25))):=(bz9).alloc (by simp) _
  have N0:Hid (BoxN ((w.alloc (.cells #[.int .i64 t.f.k,.int .i64 t.f.n,.int .i64 t.f.mn,.int .i64 t.f.mx,.slice t.f.rq t.f.rs.length t.f.rc,.slice t.f.kq t.f.kl t.f.kc] 25)).alloc (.cells #[.int .i64 0,.int .i64 0,.int .i64 0,.int .i64 0,.slice none 0 0,.slice none 0 0] 25)) w.heap.size t.f):=(Below.heap_alloc _ _ _ (by simp)).trans (aE w _)
  have R0:Hid (BoxN ((w.alloc (.cells #[.int .i64 t.f.k,.int .i64 t.f.n,.int .i64 t.f.mn,.int .i64 t.f.mx,.slice t.f.rq t.f.rs.length t.f.rc,.slice t.f.kq t.f.kl t.f.kc] 25)).alloc (.cells #[.int .i64 0,.int .i64 0,.int .i64 0,.int .i64 0,.slice none 0 0,.slice none 0 0] 25)) (w.heap.size+1) zFl):=aD (by
   have:=aE (w.alloc (.cells #[.int .i64 t.f.k,.int .i64 t.f.n,.int .i64 t.f.mn,.int .i64 t.f.mx,.slice t.f.rq t.f.rs.length t.f.rc,.slice t.f.kq t.f.kl t.f.kc] 25)) (.cells #[.int .i64 0,.int .i64 0,.int .i64 0,.int .i64 0,.slice none 0 0,.slice none 0 0] 25)
   rwa [a7] at this)
  clear ih hm hta hsz
  go_enter Tryz.func58,Tryz.ntmps58
  go_upto_region 1 with fail
  have hsw1:((w.alloc (.cells #[.int .i64 t.f.k,.int .i64 t.f.n,.int .i64 t.f.mn,.int .i64 t.f.mx,.slice t.f.rq t.f.rs.length t.f.rc,.slice t.f.kq t.f.kl t.f.kc] 25)).alloc (.cells #[.int .i64 0,.int .i64 0,.int .i64 0,.int .i64 0,.slice none 0 0,.slice none 0 0] 25)).heap.size=w.heap.size+2:=by simp
  generalize ((w.alloc (.cells #[.int .i64 t.f.k,.int .i64 t.f.n,.int .i64 t.f.mn,.int .i64 t.f.mx,.slice t.f.rq t.f.rs.length t.f.rc,.slice t.f.kq t.f.kl t.f.kc] 25)).alloc (.cells #[.int .i64 0,.int .i64 0,.int .i64 0,.int .i64 0,.slice none 0 0,.slice none 0 0] 25))=w1 at B0 N0 R0 hsw1 ⊢
  have T1:=aD (HTA.out.kept B0.out)
  obtain⟨n0,n1,n2,n3,n4,n5⟩:=N0.out.six
  simp only [g8] at n1 n2 n3 n4 n5
  cases hrq:t.f.rq with
  | none=>
   have hr0:t.f.rs=[]/\t.f.rc=0:=by
    rcases HTA.out.node.r with⟨p,cap,e,e2,e3⟩ | ⟨g,off,cap,e,_⟩
    ·rw [hrq] at e
     injection e with e4 e5 e6
     exact⟨e2,e6.trans (e3 e4.symm)⟩
    ·rw [hrq] at e
     injection e with e4
     cases e4
   rw [hrq,hr0.1,hr0.2] at n4
   have HR0:=aD hr0
   clear hr0
   have SV:(.slice none 0 0:Value)=.slice none t.f.rs.length 0:=by rw [HR0.out.1];rfl
   have OV:w1.ownsRow w1.heap.size 110 2 (.slice none t.f.rs.length 0) t.f.rs.length (aS t.f.rs):=by rw [HR0.out.1];exact aAX _ _ _ _
   have HSV:=aD SV
   have O2:Hid (RR w1.heap.size w1 (.slice none t.f.rs.length 0) t.f.rs):=OV
   have B2:Hid (Below w1.heap.size w1 w1):=Below.refl _ _
   clear SV OV
   go_upto_region 3 with (at_builtin;refine wpList_append_own_none rfl _ _ 22 rfl w1.heap.size 110 t0 2 bM hi (.slice none t.f.rs.length 0) t.f.rs.length (aS t.f.rs) HSV.out O2.out rfl ?_)
   have C0:Hid (CI w1 w.heap.size (w.heap.size+1) t (.slice none t.f.rs.length 0) [] (.slice none 0 0) w1):=⟨(B2.out.block _ (by omega)).trans N0.out,(B2.out.block _ (by omega)).trans R0.out,O2.out,aAX _ _ _ _,fun u hu=>(by cases hu),B2.out⟩
   clear n0 n1 n2 n3 n4 n5
   go_wp2
   go_loopw [4,5] (fun s i wr=>∃ (j:Nat) (nk:List Tr) (kq:Option Addr) (kc:Nat),j<=t.ks.length/\i=.int .i64 (j:Int)/\s=.slice kq nk.length kc/\nk.map er=(t.ks.take j).map er/\CI w1 w.heap.size (w.heap.size+1) t (.slice none t.f.rs.length 0) nk (.slice kq nk.length kc) wr) (fun _ i _=>t.ks.length - (intOf i).toNat)
   case atStart=>exact⟨0,[],none,0,m9 _,rfl,rfl,rfl,C0.out⟩
   case round=>
    obtain⟨j,nk,kq,kc,hj,rfl,rfl,hmap,hC⟩:=hrel
    have K:=aD hC
    have HMP:=aD hmap
    have hnl:nk.length<=1000000:=by have:=congrArg List.length hmap;rw [o8,o8,o9] at this;omega
    have BW:Hid (Below w.heap.size w wr):=aJ B0.out K.out.bel (by omega)
    obtain⟨n0,n1,n2,n3,n4,n5⟩:=K.out.bx.six
    simp only [g8] at n1 n2 n3 n4 n5
    have l1:=aB K.out.bx
    clear hmap hC
    by_cases hlt:j < t.ks.length
    ·obtain⟨u,hu⟩:∃ u,t.ks[j]?=some u:=⟨_,g9 hlt⟩
     have inu:u∈t.ks:=i9 hu
     obtain⟨qk,capk,e1,hm1,hcp1,hx1⟩:=HTA.out.node.k.slice
     injection e1 with e11 e12 e13
     obtain⟨g,o,eq,hg,six⟩:=hx1 j u hu
     rw [e11,HKL.out,eq] at n5
     obtain⟨c0,c1,c2',c3,c4,c5⟩:=six.ck (CK.of_below BW.out) hg
     have hgr:g < wr.heap.size:=i6 hg BW.out.size
     have i0:(0:Int)<=(j:Int):=by omega
     have i1:(j:Int) < (t.ks.length:Int):=by omega
     have hwr:IntKind.wrap .i64 ((j:Int)+1)=(j:Int)+1:=wrap_small _ (by omega) (by omega)
     have CU:=aD (IH.out u wr (by have:=dM inu;have:=HM.out;omega) (by have:=dM inu;have:=HSZ.out;omega) ((HTA.out.kid inu).kept BW.out))
     have NX:Hid (∀ u',er u'=er u->(nk ++ [u']).map er=(t.ks.take (j+1)).map er):=fun u' he=>by rw [o5,hu,aAR,aAR,HMP.out];simp [he]
     clear six hu e11 e12 e13 eq hx1 hm1 hcp1
     go_upto_region 8 with (go_at_call 58;refine(CU.out).mono ?_;rintro e w5 ⟨u',rfl,h51,h52,h53,h54⟩;have T5:=aD h51;have E5:=aD h52;have F5:=aD h53;have B5:=aD h54;clear h51 h52 h53 h54)
     have N6:Hid (BoxN (w5.alloc (.cells #[.int .i64 u'.f.k,.int .i64 u'.f.n,.int .i64 u'.f.mn,.int .i64 u'.f.mx,.slice u'.f.rq u'.f.rs.length u'.f.rc,.slice u'.f.kq u'.f.kl u'.f.kc] 25)) w5.heap.size u'.f):=aE w5 _
     have B6:Hid (Below w5.heap.size w5 (w5.alloc (.cells #[.int .i64 u'.f.k,.int .i64 u'.f.n,.int .i64 u'.f.mn,.int .i64 u'.f.mx,.slice u'.f.rq u'.f.rs.length u'.f.rc,.slice u'.f.kq u'.f.kl u'.f.kc] 25))):=bz9
     clear n0 n1 n2 n3 n4 n5 c0 c1 c2' c3 c4 c5
     generalize hz5:w5.heap.size=z5 at N6 B6 ⊢
     generalize (w5.alloc (.cells #[.int .i64 u'.f.k,.int .i64 u'.f.n,.int .i64 u'.f.mn,.int .i64 u'.f.mx,.slice u'.f.rq u'.f.rs.length u'.f.rc,.slice u'.f.kq u'.f.kl u'.f.kc] 25))=w6 at N6 B6 ⊢
     obtain⟨n0,n1,n2,n3,n4,n5⟩:=N6.out.six
     simp only [g8] at n1 n2 n3 n4 n5
     have B7:Hid (Below w6.heap.size w6 (w6.alloc (.cells #[.int .i64 u'.f.k,.int .i64 u'.f.n,.int .i64 u'.f.mn,.int .i64 u'.f.mx,.slice u'.f.rq u'.f.rs.length u'.f.rc,.slice u'.f.kq u'.f.kl u'.f.kc] 25))):=bz9
     have N7:=aD (yJ (aE w6 (.cells #[.int .i64 u'.f.k,.int .i64 u'.f.n,.int .i64 u'.f.mn,.int .i64 u'.f.mx,.slice u'.f.rq u'.f.rs.length u'.f.rc,.slice u'.f.kq u'.f.kl u'.f.kc] 25)))
     have K7:=aD (((K.out.kept B5.out).kept (by rw [hz5];exact B6.out)).kept B7.out)
     have B67:Hid (Below w5.heap.size w5 (w6.alloc (.cells #[.int .i64 u'.f.k,.int .i64 u'.f.n,.int .i64 u'.f.mn,.int .i64 u'.f.mx,.slice u'.f.rq u'.f.rs.length u'.f.rc,.slice u'.f.kq u'.f.kl u'.f.kc] 25))):=aJ (by rw [hz5];exact B6.out) B7.out lz9
     go_wp2_with (at_builtin;refine wpList_append_own_at _ rfl _ _ 23 rfl w1.heap.size 25 s0 (.agg #[.int .i64 0,.int .i64 0,.int .i64 0,.int .i64 0,.slice none 0 0,.slice none 0 0]) 6 80 uL ji jz0 jz1 jz2 rfl (by decide) (.slice kq nk.length kc) nk.length (fA nk) rfl K7.out.row ⟨w6.heap.size,0,none⟩ 1 1 u'.f.cells rfl rfl N7.out (fun v hv=>by simp [Fl.cells] at hv;rcases hv with rfl | rfl | rfl | rfl | rfl | rfl <;> rfl) (by unfold maxLen;omega) (by omega) K7.out.bel.size ?_;intro v' w8 hown' hgrow _ hblk;obtain⟨q8,c8,rfl⟩:=aZ hown';have K8:=aD (K.out.snoc (by omega) (by omega) B5.out T5.out F5.out B67.out hown' hgrow hblk);clear hown' hgrow hblk)
     go_roundw
     case rel=>exact⟨j+1,nk ++ [u'],q8,c8,by omega,by go_num,by rw [m7];rfl,NX.out u' E5.out,by rw [m7];exact K8.out⟩
     case measure=>simp [intOf];omega
    ·obtain rfl:j=t.ks.length:=by omega
     rw [aAQ] at HMP
     rw [HKL.out] at n5
     have i1:¬ (t.ks.length:Int) < (t.ks.length:Int):=by omega
     have fb:=fun z=>aG K.out.bx z
     have hbz:w.heap.size+1 < wr.heap.size:=aB K.out.rz
     have BX1:Hid (BoxN (wr.setCell ⟨w.heap.size,4,none⟩ (.slice none t.f.rs.length 0)) w.heap.size ⟨t.f.k,t.f.n,t.f.mn,t.f.mx,t.f.rs,none,0,t.f.kq,t.f.kl,t.f.kc⟩):=aO K.out.bx 4 _
     have F1:Hid (Fr (fun z=>z=w.heap.size) wr (wr.setCell ⟨w.heap.size,4,none⟩ (.slice none t.f.rs.length 0))):=(Fr.refl (fun z=>z=w.heap.size) wr).setCell (p:=⟨w.heap.size,4,none⟩) rfl _
     go_upto_region 10 with fail
     clear n0 n1 n2 n3 n4 n5 fb
     generalize (wr.setCell ⟨w.heap.size,4,none⟩ (.slice none t.f.rs.length 0))=w10 at BX1 F1 ⊢
     obtain⟨n0,n1,n2,n3,n4,n5⟩:=BX1.out.six
     simp only [g8] at n1 n2 n3 n4 n5
     have fb:=fun z=>aG BX1.out z
     have BX2:Hid (BoxN (w10.setCell ⟨w.heap.size,5,none⟩ (.slice kq nk.length kc)) w.heap.size ⟨t.f.k,t.f.n,t.f.mn,t.f.mx,t.f.rs,none,0,kq,nk.length,kc⟩):=aO BX1.out 5 _
     have F2:Hid (Fr (fun z=>z=w.heap.size) wr (w10.setCell ⟨w.heap.size,5,none⟩ (.slice kq nk.length kc))):=F1.out.setCell (p:=⟨w.heap.size,5,none⟩) rfl _
     go_upto_region 11 with fail
     clear n0 n1 n2 n3 n4 n5 fb
     generalize (w10.setCell ⟨w.heap.size,5,none⟩ (.slice kq nk.length kc))=w11 at BX2 F2 ⊢
     have RS:BoxN w11 (w.heap.size+1) zFl:=(F2.out.block _ hbz (by omega)).trans K.out.rz
     obtain⟨n0,n1,n2,n3,n4,n5⟩:=BX2.out.six
     simp only [g8] at n1 n2 n3 n4 n5
     obtain⟨r0,r1,r2,r3,r4,r5⟩:=RS.six
     simp only [g8] at r1 r2 r3 r4 r5
     have rz:=fun z=>aG RS z
     have FP:=mV w11 (w.heap.size+1) 0 ⟨t.f.k,t.f.n,t.f.mn,t.f.mx,t.f.rs,none,0,kq,nk.length,kc⟩
     have FA:Fr (fun k=>k=w.heap.size\/k=w.heap.size+1) wr (kP w11 (w.heap.size+1) 0 ⟨t.f.k,t.f.n,t.f.mn,t.f.mx,t.f.rs,none,0,kq,nk.length,kc⟩):=(F2.out.mono fun k hk=>.inl hk).trans (FP.mono fun k hk=>.inr hk)
     have TR:=aD (K.out.tree (by omega) (by omega) HTA.out.node.fit hln FA w.heap.size (by omega))
     have BE:Hid (Below w.heap.size w (kP w11 (w.heap.size+1) 0 ⟨t.f.k,t.f.n,t.f.mn,t.f.mx,t.f.rs,none,0,kq,nk.length,kc⟩)):=bC BW.out FA lz9 (fun k e=>by omega)
     have X9:=aD (jW (g:=⟨t.f.k,t.f.n,t.f.mn,t.f.mx,t.f.rs,none,0,kq,nk.length,kc⟩) RS.six)
     have XE:=aD (show er (.mk ⟨t.f.k,t.f.n,t.f.mn,t.f.mx,t.f.rs,none,0,kq,nk.length,kc⟩ nk)=er t by
      rw [vB,vB t]
      show Er.mk t.f.k t.f.n t.f.mn t.f.mx t.f.rs (nk.map er)=_
      rw [HMP.out])
     have PST:Hid (bN5 w (er t) (.returned (.agg #[.int .i64 t.f.k,.int .i64 t.f.n,.int .i64 t.f.mn,.int .i64 t.f.mx,.slice none t.f.rs.length 0,.slice kq nk.length kc])) (kP w11 (w.heap.size+1) 0 ⟨t.f.k,t.f.n,t.f.mn,t.f.mx,t.f.rs,none,0,kq,nk.length,kc⟩)):=⟨_,rfl,TR.out.1,XE.out,TR.out.2,BE.out⟩
     unfold kP at X9 PST
     clear RS FP FA TR BE XE K
     go_wp2
     refine uT X9.out rfl rfl ?_
     exact PST.out
  | some ad=>
   rw [hrq] at n4
   have HG:=aD (T1.out.node.r)
   rw [hrq] at HG
   go_upto_region 3 with (at_builtin;refine wpList_append_own_at _ rfl _ _ 22 rfl w1.heap.size 110 t0 (.agg #[.int .i64 0,.int .i64 0]) 2 16 bM hi hz0 hz1 hz2 rfl (by decide) (.slice none 0 0) 0 [] rfl (aAX _ _ _ _) ad t.f.rs.length t.f.rc (aS t.f.rs) rfl (by rw [dS]) HG.out.news (lA t.f.rs) (by unfold maxLen;omega) (by omega) lz9 ?_;rw [g8,aAG];intro v' w2 hown' hgrow _ hblk;obtain⟨q2,c2,rfl⟩:=aZ hown';have O2:Hid (RR w1.heap.size w2 (.slice q2 t.f.rs.length c2) t.f.rs):=hown';have B2:Hid (Below w1.heap.size w1 w2):=aL3 (Below.refl _ _) lz9 (aAX (base:=w1.heap.size) w1 110 2) hgrow;clear hown' hgrow hblk)
   have C0:Hid (CI w1 w.heap.size (w.heap.size+1) t (.slice q2 t.f.rs.length c2) [] (.slice none 0 0) w2):=⟨(B2.out.block _ (by omega)).trans N0.out,(B2.out.block _ (by omega)).trans R0.out,O2.out,aAX _ _ _ _,fun u hu=>(by cases hu),B2.out⟩
   clear n0 n1 n2 n3 n4 n5
   go_wp2
   go_loopw [4,5] (fun s i wr=>∃ (j:Nat) (nk:List Tr) (kq:Option Addr) (kc:Nat),j<=t.ks.length/\i=.int .i64 (j:Int)/\s=.slice kq nk.length kc/\nk.map er=(t.ks.take j).map er/\CI w1 w.heap.size (w.heap.size+1) t (.slice q2 t.f.rs.length c2) nk (.slice kq nk.length kc) wr) (fun _ i _=>t.ks.length - (intOf i).toNat)
   case atStart=>exact⟨0,[],none,0,m9 _,rfl,rfl,rfl,C0.out⟩
   case round=>
    obtain⟨j,nk,kq,kc,hj,rfl,rfl,hmap,hC⟩:=hrel
    have K:=aD hC
    have HMP:=aD hmap
    have hnl:nk.length<=1000000:=by have:=congrArg List.length hmap;rw [o8,o8,o9] at this;omega
    have BW:Hid (Below w.heap.size w wr):=aJ B0.out K.out.bel (by omega)
    obtain⟨n0,n1,n2,n3,n4,n5⟩:=K.out.bx.six
    simp only [g8] at n1 n2 n3 n4 n5
    have l1:=aB K.out.bx
    clear hmap hC
    by_cases hlt:j < t.ks.length
    ·obtain⟨u,hu⟩:∃ u,t.ks[j]?=some u:=⟨_,g9 hlt⟩
     have inu:u∈t.ks:=i9 hu
     obtain⟨qk,capk,e1,hm1,hcp1,hx1⟩:=HTA.out.node.k.slice
     injection e1 with e11 e12 e13
     obtain⟨g,o,eq,hg,six⟩:=hx1 j u hu
     rw [e11,HKL.out,eq] at n5
     obtain⟨c0,c1,c2',c3,c4,c5⟩:=six.ck (CK.of_below BW.out) hg
     have hgr:g < wr.heap.size:=i6 hg BW.out.size
     have i0:(0:Int)<=(j:Int):=by omega
     have i1:(j:Int) < (t.ks.length:Int):=by omega
     have hwr:IntKind.wrap .i64 ((j:Int)+1)=(j:Int)+1:=wrap_small _ (by omega) (by omega)
     have CU:=aD (IH.out u wr (by have:=dM inu;have:=HM.out;omega) (by have:=dM inu;have:=HSZ.out;omega) ((HTA.out.kid inu).kept BW.out))
     have NX:Hid (∀ u',er u'=er u->(nk ++ [u']).map er=(t.ks.take (j+1)).map er):=fun u' he=>by rw [o5,hu,aAR,aAR,HMP.out];simp [he]
     clear six hu e11 e12 e13 eq hx1 hm1 hcp1
     go_upto_region 8 with (go_at_call 58;refine(CU.out).mono ?_;rintro e w5 ⟨u',rfl,h51,h52,h53,h54⟩;have T5:=aD h51;have E5:=aD h52;have F5:=aD h53;have B5:=aD h54;clear h51 h52 h53 h54)
     have N6:Hid (BoxN (w5.alloc (.cells #[.int .i64 u'.f.k,.int .i64 u'.f.n,.int .i64 u'.f.mn,.int .i64 u'.f.mx,.slice u'.f.rq u'.f.rs.length u'.f.rc,.slice u'.f.kq u'.f.kl u'.f.kc] 25)) w5.heap.size u'.f):=aE w5 _
     have B6:Hid (Below w5.heap.size w5 (w5.alloc (.cells #[.int .i64 u'.f.k,.int .i64 u'.f.n,.int .i64 u'.f.mn,.int .i64 u'.f.mx,.slice u'.f.rq u'.f.rs.length u'.f.rc,.slice u'.f.kq u'.f.kl u'.f.kc] 25))):=bz9
     clear n0 n1 n2 n3 n4 n5 c0 c1 c2' c3 c4 c5
     generalize hz5:w5.heap.size=z5 at N6 B6 ⊢
     generalize (w5.alloc (.cells #[.int .i64 u'.f.k,.int .i64 u'.f.n,.int .i64 u'.f.mn,.int .i64 u'.f.mx,.slice u'.f.rq u'.f.rs.length u'.f.rc,.slice u'.f.kq u'.f.kl u'.f.kc] 25))=w6 at N6 B6 ⊢
     obtain⟨n0,n1,n2,n3,n4,n5⟩:=N6.out.six
     simp only [g8] at n1 n2 n3 n4 n5
     have B7:Hid (Below w6.heap.size w6 (w6.alloc (.cells #[.int .i64 u'.f.k,.int .i64 u'.f.n,.int .i64 u'.f.mn,.int .i64 u'.f.mx,.slice u'.f.rq u'.f.rs.length u'.f.rc,.slice u'.f.kq u'.f.kl u'.f.kc] 25))):=bz9
     have N7:=aD (yJ (aE w6 (.cells #[.int .i64 u'.f.k,.int .i64 u'.f.n,.int .i64 u'.f.mn,.int .i64 u'.f.mx,.slice u'.f.rq u'.f.rs.length u'.f.rc,.slice u'.f.kq u'.f.kl u'.f.kc] 25)))
     have K7:=aD (((K.out.kept B5.out).kept (by rw [hz5];exact B6.out)).kept B7.out)
     have B67:Hid (Below w5.heap.size w5 (w6.alloc (.cells #[.int .i64 u'.f.k,.int .i64 u'.f.n,.int .i64 u'.f.mn,.int .i64 u'.f.mx,.slice u'.f.rq u'.f.rs.length u'.f.rc,.slice u'.f.kq u'.f.kl u'.f.kc] 25))):=aJ (by rw [hz5];exact B6.out) B7.out lz9
     go_wp2_with (at_builtin;refine wpList_append_own_at _ rfl _ _ 23 rfl w1.heap.size 25 s0 (.agg #[.int .i64 0,.int .i64 0,.int .i64 0,.int .i64 0,.slice none 0 0,.slice none 0 0]) 6 80 uL ji jz0 jz1 jz2 rfl (by decide) (.slice kq nk.length kc) nk.length (fA nk) rfl K7.out.row ⟨w6.heap.size,0,none⟩ 1 1 u'.f.cells rfl rfl N7.out (fun v hv=>by simp [Fl.cells] at hv;rcases hv with rfl | rfl | rfl | rfl | rfl | rfl <;> rfl) (by unfold maxLen;omega) (by omega) K7.out.bel.size ?_;intro v' w8 hown' hgrow _ hblk;obtain⟨q8,c8,rfl⟩:=aZ hown';have K8:=aD (K.out.snoc (by omega) (by omega) B5.out T5.out F5.out B67.out hown' hgrow hblk);clear hown' hgrow hblk)
     go_roundw
     case rel=>exact⟨j+1,nk ++ [u'],q8,c8,by omega,by go_num,by rw [m7];rfl,NX.out u' E5.out,by rw [m7];exact K8.out⟩
     case measure=>simp [intOf];omega
    ·obtain rfl:j=t.ks.length:=by omega
     rw [aAQ] at HMP
     rw [HKL.out] at n5
     have i1:¬ (t.ks.length:Int) < (t.ks.length:Int):=by omega
     have fb:=fun z=>aG K.out.bx z
     have hbz:w.heap.size+1 < wr.heap.size:=aB K.out.rz
     have BX1:Hid (BoxN (wr.setCell ⟨w.heap.size,4,none⟩ (.slice q2 t.f.rs.length c2)) w.heap.size ⟨t.f.k,t.f.n,t.f.mn,t.f.mx,t.f.rs,q2,c2,t.f.kq,t.f.kl,t.f.kc⟩):=aO K.out.bx 4 _
     have F1:Hid (Fr (fun z=>z=w.heap.size) wr (wr.setCell ⟨w.heap.size,4,none⟩ (.slice q2 t.f.rs.length c2))):=(Fr.refl (fun z=>z=w.heap.size) wr).setCell (p:=⟨w.heap.size,4,none⟩) rfl _
     go_upto_region 10 with fail
     clear n0 n1 n2 n3 n4 n5 fb
     generalize (wr.setCell ⟨w.heap.size,4,none⟩ (.slice q2 t.f.rs.length c2))=w10 at BX1 F1 ⊢
     obtain⟨n0,n1,n2,n3,n4,n5⟩:=BX1.out.six
     simp only [g8] at n1 n2 n3 n4 n5
     have fb:=fun z=>aG BX1.out z
     have BX2:Hid (BoxN (w10.setCell ⟨w.heap.size,5,none⟩ (.slice kq nk.length kc)) w.heap.size ⟨t.f.k,t.f.n,t.f.mn,t.f.mx,t.f.rs,q2,c2,kq,nk.length,kc⟩):=aO BX1.out 5 _
     have F2:Hid (Fr (fun z=>z=w.heap.size) wr (w10.setCell ⟨w.heap.size,5,none⟩ (.slice kq nk.length kc))):=F1.out.setCell (p:=⟨w.heap.size,5,none⟩) rfl _
     go_upto_region 11 with fail
     clear n0 n1 n2 n3 n4 n5 fb
     generalize (w10.setCell ⟨w.heap.size,5,none⟩ (.slice kq nk.length kc))=w11 at BX2 F2 ⊢
     have RS:BoxN w11 (w.heap.size+1) zFl:=(F2.out.block _ hbz (by omega)).trans K.out.rz
     obtain⟨n0,n1,n2,n3,n4,n5⟩:=BX2.out.six
     simp only [g8] at n1 n2 n3 n4 n5
     obtain⟨r0,r1,r2,r3,r4,r5⟩:=RS.six
     simp only [g8] at r1 r2 r3 r4 r5
     have rz:=fun z=>aG RS z
     have FP:=mV w11 (w.heap.size+1) 0 ⟨t.f.k,t.f.n,t.f.mn,t.f.mx,t.f.rs,q2,c2,kq,nk.length,kc⟩
     have FA:Fr (fun k=>k=w.heap.size\/k=w.heap.size+1) wr (kP w11 (w.heap.size+1) 0 ⟨t.f.k,t.f.n,t.f.mn,t.f.mx,t.f.rs,q2,c2,kq,nk.length,kc⟩):=(F2.out.mono fun k hk=>.inl hk).trans (FP.mono fun k hk=>.inr hk)
     have TR:=aD (K.out.tree (by omega) (by omega) HTA.out.node.fit hln FA w.heap.size (by omega))
     have BE:Hid (Below w.heap.size w (kP w11 (w.heap.size+1) 0 ⟨t.f.k,t.f.n,t.f.mn,t.f.mx,t.f.rs,q2,c2,kq,nk.length,kc⟩)):=bC BW.out FA lz9 (fun k e=>by omega)
     have X9:=aD (jW (g:=⟨t.f.k,t.f.n,t.f.mn,t.f.mx,t.f.rs,q2,c2,kq,nk.length,kc⟩) RS.six)
     have XE:=aD (show er (.mk ⟨t.f.k,t.f.n,t.f.mn,t.f.mx,t.f.rs,q2,c2,kq,nk.length,kc⟩ nk)=er t by
      rw [vB,vB t]
      show Er.mk t.f.k t.f.n t.f.mn t.f.mx t.f.rs (nk.map er)=_
      rw [HMP.out])
     have PST:Hid (bN5 w (er t) (.returned (.agg #[.int .i64 t.f.k,.int .i64 t.f.n,.int .i64 t.f.mn,.int .i64 t.f.mx,.slice q2 t.f.rs.length c2,.slice kq nk.length kc])) (kP w11 (w.heap.size+1) 0 ⟨t.f.k,t.f.n,t.f.mn,t.f.mx,t.f.rs,q2,c2,kq,nk.length,kc⟩)):=⟨_,rfl,TR.out.1,XE.out,TR.out.2,BE.out⟩
     unfold kP at X9 PST
     clear RS FP FA TR BE XE K
     go_wp2
     refine uT X9.out rfl rfl ?_
     exact PST.out
end Go.Proofs.YtlaimbkenbijeaaGreatDoor
