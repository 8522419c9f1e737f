/-
  Parts of the proof.
-/
import Derived.Test.YtlamifbjklpdbaaGreatSameProofA0
import Derived.Test.YtlamifbjklpdbaaGreatSameProofB21
import Derived.Test.YtlamifbjklpdbaaGreatSameProofB8
import Derived.Test.YtlamifbjklpdbaaGreatSameProofB19
import Derived.Deep.RegionWith
import Derived.Test.YtlamifbjklpdbaaGreatSameProofB14
set_option linter.unusedSimpArgs false
set_option maxRecDepth 100000
set_option maxHeartbeats 8000000
namespace Go.Proofs.YtlamifbjklpdbaaGreat
open Go Go.RowKit
section
attribute [local go_sem] Oper.semAt_some
noncomputable def twT:List Tr->List Tr->List Tr
 | acc,[]=>acc
 | acc,x :: l=>if acc.any (twB x) then twT acc l else twT (acc++[x]) l
theorem aV7:∀ (l m acc:List Tr),twT acc (l++m)=twT (twT acc l) m:=by
 intro l
 induction l with
 | nil=>intro m acc;rfl
 | cons x l ih=>intro m acc;rw [t4,twT,twT];split <;> exact ih _ _
theorem aV6:∀ (l acc:List Tr) (x:Tr),x∈twT acc l->x∈acc\/x∈l:=by
 intro l
 induction l with
 | nil=>intro acc x h;exact .inl h
 | cons y l ih=>
  intro acc x h
  rw [twT] at h
  split at h
  ·exact(ih _ _ h).imp id (m9 _)
  ·rcases ih _ _ h with h | h
   ·rcases o3.1 h with h | h
    ·exact .inl h
    ·simp at h;subst h;exact .inr (n9 ..)
   ·exact .inr (m9 _ h)
theorem aV5:∀ (l acc:List Tr),szs (twT acc l)<=szs acc+szs l:=by
 intro l
 induction l with
 | nil=>intro acc;rw [twT,cM];omega
 | cons y l ih=>
  intro acc
  rw [twT,bE]
  split
  ·have:=ih acc;omega
  ·have:=ih (acc++[y]);rw [eS,bE,cM] at this;omega
noncomputable def twO (ks:List Tr):Option Er:=if (twT [] ks).length=ks.length then none else some (gI 6 (((twT [] ks).flatMap eP).map er) (.mk 2 0 0 0 [] []))
theorem gW{R:Ending->World->Prop}{a:Act}{W:World}{b:Nat}{f:Fl}{e:Bool}(h:Six W b 0 f)(ha:a.tmps[2]?.getD undef=.pointer (some ⟨b,0,none⟩))(he:a.tmps[3]?.getD undef=.bool e)(hd:a.defers=[])(hR:R (.returned (.tuple #[.agg #[.int .i64 f.k,.int .i64 f.n,.int .i64 f.mn,.int .i64 f.mx,.slice f.rq f.rs.length f.rc,.slice f.kq f.kl f.kc],.bool e])) W):bodyPost Tryz.prog Tryz.f48 R .ret a W:=by
 obtain⟨z0,z1,z2,z3,z4,z5⟩:=h
 simp only [m7] at z1 z2 z3 z4 z5
 refine bodyPost_ret (v:=.tuple #[.agg #[.int .i64 f.k,.int .i64 f.n,.int .i64 f.mn,.int .i64 f.mx,.slice f.rq f.rs.length f.rc,.slice f.kq f.kl f.kc],.bool e]) ?_ hd hR
 simp [results,Tryz.results48,go_sem,ha,he,z0,z1,z2,z3,z4,z5]
theorem pA{t:Tr}{w:World}(hta:TA w t)(hs:t.sz<=2000):Calls Tryz.prog 48 #[.agg #[.int .i64 t.f.k,.int .i64 t.f.n,.int .i64 t.f.mn,.int .i64 t.f.mx,.slice t.f.rq t.f.rs.length t.f.rc,.slice t.f.kq t.f.kl t.f.kc]] w (RSays w.heap.size w (twO t.ks)):=by
 obtain⟨t0,hi,hz0,hz1,hz2⟩:=aR gT
 obtain⟨tf,L⟩:=t
 obtain⟨fk,fn,fmn,fmx,frs,frq,frc,fkq,fkl,fkc⟩:=tf
 have hkl:fkl=L.length:=hta.node.kl
 subst hkl
 have hsz:szs L<2000:=by have:=dA (Tr.mk ⟨fk,fn,fmn,fmx,frs,frq,frc,fkq,L.length,fkc⟩ L);simp only [Tr.ks] at this;omega
 have hpl:∀ u∈L,(pp [] u).length<=2000:=fun u hu=>by rw [bL];have:=bW (t:=Tr.mk ⟨fk,fn,fmn,fmx,frs,frq,frc,fkq,L.length,fkc⟩ L) hu;omega
 obtain⟨W,hW,B1,N1,R1⟩:=iK w ⟨fk,fn,fmn,fmx,frs,frq,frc,fkq,L.length,fkc⟩
 have T1:=hta.kept B1
 obtain⟨q',c',e,hml,-,hx⟩:=T1.node.k.slice
 have HTK:Hid (∀ V u,Below W.heap.size W V->u∈L->TA V u):=aA fun V u hV hu=>(T1.kept hV).kid hu
 change ∀ (i:Nat) (t:Tr),L[i]?=some t->∃ g off,q'=some ⟨g,off,none⟩/\g<W.heap.size/\Six W g (off+i*6) t.f at hx
 change Value.slice fkq L.length fkc=Value.slice q' L.length c' at e
 show Calls Tryz.prog 48 #[.agg #[.int .i64 fk,.int .i64 fn,.int .i64 fmn,.int .i64 fmx,.slice frq frs.length frc,.slice fkq L.length fkc]] w (RSays w.heap.size w (twO L))
 injection e with e1 _ e3
 subst e1 e3
 obtain⟨c0,c1,c2,c3,c4,c5⟩:=N1.six
 simp only [m7] at c1 c2 c3 c4 c5
 have hml':L.length<=9223372036854775807:=hml
 have HH:=aA hx
 have BB:=aA B1
 have RR1:=aA R1
 have NN1:=aA N1
 have HS:=aA hsz
 have HPL:=aA hpl
 have LZ:=aC R1
 obtain⟨OO,hOO⟩:∃ o,twO L=o:=⟨_,rfl⟩
 rw [hOO]
 unfold twO at hOO
 have HOO:=aA hOO
 clear hta hs N1 R1 B1 T1 hsz hpl hx hml hOO
 go_enter Tryz.func48,Tryz.ntmps48
 go_upto_region 1 with fail
 go_wp2
 go_loopw [10,4] (fun i s wr=>∃ (j:Nat) (qq:Option Addr) (cc:Nat),j<=L.length/\i=.int .i64 (j:Int)/\s=.slice qq (twT [] (L.take j)).length cc/\wr.ownsRow W.heap.size 25 6 (.slice qq (twT [] (L.take j)).length cc) (twT [] (L.take j)).length (aV (twT [] (L.take j)))/\Below W.heap.size W wr) (fun i _ _=>L.length-(intOf i).toNat)
 case atStart=>exact⟨0,none,0,o9 _,rfl,rfl,aAY _ _ _ _,Below.refl _ _⟩
 case round=>
  obtain⟨j,qq,cc,hj,rfl,rfl,hown,hbel⟩:=hrel
  have HO:=aA hown
  have HB:=aA hbel
  have hmem:∀ j v,v∈twT [] (L.take j)->v∈L:=fun j v hv=>aAS ((aV6 _ _ _ hv).resolve_left (fun q=>by cases q))
  have hszo:∀ j,szs (twT [] (L.take j))<2000:=fun j=>by
   have h1:=aV5 (L.take j) []
   have h2:=gC L j
   have h3:=HS.out
   rw [cM] at h1
   omega
  have HLE:(twT [] (L.take j)).length<=2000:=by have:=eZ (twT [] (L.take j));have:=hszo j;omega
  have HMEM:=aA hmem
  have HSZO:=aA hszo
  clear hown hbel hmem hszo
  by_cases hjl:j<L.length
  ·have i0:(j:Int)<(L.length:Int):=by omega
   obtain⟨u,hu⟩:∃ u,L[j]?=some u:=⟨_,g9 hjl⟩
   obtain⟨g,off,hq,hg,six⟩:=HH.out j u hu
   have hin:u∈L:=n8 hu
   obtain⟨d0,d1,d2,d3,d4,d5⟩:=six.ck (CK.of_below HB.out) hg
   have HN:twT [] (L.take (j+1))=if (twT [] (L.take j)).any (twB u) then twT [] (L.take j) else twT [] (L.take j)++[u]:=by
    rw [s7,hu,aV7]
    show twT _ [u]=_
    rw [twT,twT,twT]
   have HNX:=aA HN
   have K4:Below wr.heap.size wr (wr.alloc (.cells #[.int .i64 u.f.k,.int .i64 u.f.n,.int .i64 u.f.mn,.int .i64 u.f.mx,.slice u.f.rq u.f.rs.length u.f.rc,.slice u.f.kq u.f.kl u.f.kc] 25)):=bz9
   have N4:Hid (BoxN (wr.alloc (.cells #[.int .i64 u.f.k,.int .i64 u.f.n,.int .i64 u.f.mn,.int .i64 u.f.mx,.slice u.f.rq u.f.rs.length u.f.rc,.slice u.f.kq u.f.kl u.f.kc] 25)) wr.heap.size u.f):=aD wr _
   have B4:Hid (Below W.heap.size W (wr.alloc (.cells #[.int .i64 u.f.k,.int .i64 u.f.n,.int .i64 u.f.mn,.int .i64 u.f.mx,.slice u.f.rq u.f.rs.length u.f.rc,.slice u.f.kq u.f.kl u.f.kc] 25))):=HB.out.alloc HB.out.size _
   have O4:=aA (aH HO.out (Fr.of_below (S:=fun _=>False) K4) (fun _ _ z=>z))
   have HOM:Hid (∀ v,v∈twT [] (L.take j)->v∈L):=aA (HMEM.out j)
   rw [hq]
   clear six hu K4 HN HMEM HSZO
   go_upto_region 5 with fail
   generalize (wr.alloc (.cells #[.int .i64 u.f.k,.int .i64 u.f.n,.int .i64 u.f.mn,.int .i64 u.f.mx,.slice u.f.rq u.f.rs.length u.f.rc,.slice u.f.kq u.f.kl u.f.kc] 25))=W4 at N4 B4 O4 ⊢
   generalize twT [] (L.take j)=out at *
   have CT:=aA (vM (w:=W4) (xs:=out) (oO O4.out) (a:=u) (b:=wr.heap.size) N4.out (HTK.out W4 u B4.out hin).tb (fun v hv=>(HTK.out W4 v B4.out (HOM.out v hv)).tb) (HPL.out u hin) (fun v hv=>HPL.out v (HOM.out v hv)))
   clear d0 d1 d2 d3 d4 d5
   obtain⟨r,hr⟩:∃ r,out.any (twB u)=r:=⟨_,rfl⟩
   rw [hr] at CT HNX
   have HR:=aA hr
   clear hr
   cases r with
   | true=>
    go_wp2_with (go_at_call 69;(with_reducible refine CT.out.mono ?_);rintro e w5 ⟨rfl,h5⟩;have B5:=aA (aG B4.out h5 lz9);have O5:=aA (aH O4.out (Fr.of_below (S:=fun _=>False) h5) (fun _ _ z=>z));clear h5)
    go_roundw
    case rel=>exact⟨j+1,qq,cc,by omega,by go_num,by rw [HNX.out];rfl,by rw [HNX.out];exact O5.out,B5.out⟩
    case measure=>simp only [intOf];omega
   | false=>
    go_upto_region 6 with (go_at_call 69;(with_reducible refine CT.out.mono ?_);rintro e w5 ⟨rfl,h5⟩;have B5:=aA (aG B4.out h5 lz9);have O5:=aA (aH O4.out (Fr.of_below (S:=fun _=>False) h5) (fun _ _ z=>z));have N5:Hid (BoxN w5 wr.heap.size u.f):=aA ((h5.block _ (aC N4.out)).trans N4.out);clear h5)
    obtain⟨n0,n1,n2,n3,n4,n5⟩:=N5.out.six
    simp only [m7] at n1 n2 n3 n4 n5
    have K6:Below w5.heap.size w5 (w5.alloc (.cells #[.int .i64 u.f.k,.int .i64 u.f.n,.int .i64 u.f.mn,.int .i64 u.f.mx,.slice u.f.rq u.f.rs.length u.f.rc,.slice u.f.kq u.f.kl u.f.kc] 25)):=bz9
    have M6:=aA (gV (aD w5 (.cells #[.int .i64 u.f.k,.int .i64 u.f.n,.int .i64 u.f.mn,.int .i64 u.f.mx,.slice u.f.rq u.f.rs.length u.f.rc,.slice u.f.kq u.f.kl u.f.kc] 25)))
    have O6:=aA (aH O5.out (Fr.of_below (S:=fun _=>False) K6) (fun _ _ z=>z))
    have B6:Hid (Below W.heap.size W (w5.alloc (.cells #[.int .i64 u.f.k,.int .i64 u.f.n,.int .i64 u.f.mn,.int .i64 u.f.mx,.slice u.f.rq u.f.rs.length u.f.rc,.slice u.f.kq u.f.kl u.f.kc] 25))):=aG B5.out K6 lz9
    clear K6
    go_wp2_with (at_builtin;refine wpList_append_own_at _ rfl _ _ 23 rfl W.heap.size 25 t0 (.agg #[.int .i64 0,.int .i64 0,.int .i64 0,.int .i64 0,.slice none 0 0,.slice none 0 0]) 6 80 cQ hi hz0 hz1 hz2 rfl (by decide) (.slice qq out.length cc) out.length (aV out) rfl O6.out ⟨w5.heap.size,0,none⟩ 1 1 u.f.cells rfl rfl M6.out (fun v hv=>by simp [Fl.cells] at hv;rcases hv with rfl | rfl | rfl | rfl | rfl | rfl <;> rfl) (by unfold maxLen;omega) (by omega) B6.out.size ?_;intro v' w6 hown' hgrow _ _;obtain⟨q6,cap6,rfl⟩:=aQ hown';have O7:=aA hown';have B7:Hid (Below W.heap.size W w6):=kM B6.out lz9 O6.out hgrow;clear hown' hgrow)
    go_roundw
    case rel=>exact⟨j+1,q6,cap6,by omega,by go_num,by rw [HNX.out];simp,by rw [HNX.out,if_neg (by decide),dM,o5,show aV [u]=u.f.cells by simp [aV]];exact O7.out,B7.out⟩
    case measure=>simp only [intOf];omega
  ·have i0:¬ (j:Int)<(L.length:Int):=by omega
   have he:L.take j=L:=o4 (by omega)
   have hmem:=HMEM.out j
   have hszo:=HSZO.out j
   rw [he] at HO HLE hmem hszo ⊢
   clear HMEM HSZO he
   generalize twT [] L=out at HO HLE hmem hszo HOO ⊢
   have d5:wr.cell? ⟨w.heap.size,5,none⟩=some (.slice fkq L.length fkc):=(HB.out.cell (p:=⟨w.heap.size,5,none⟩) (aC NN1.out)).trans c5
   have R5:=aA ((HB.out.block _ LZ).trans RR1.out)
   have hw0:=aC NN1.out
   by_cases hlen:out.length=L.length
   ·have E0:=aA (mF (aG BB.out HB.out lz9) R5.out (aCA _))
    have r0:=aB R5.out (i:=0) rfl
    have r1:=aB R5.out (i:=1) rfl
    have r2:=aB R5.out (i:=2) rfl
    have r3:=aB R5.out (i:=3) rfl
    have r4:=aB R5.out (i:=4) rfl
    have r5:=aB R5.out (i:=5) rfl
    have fz:=fun z=>aK R5.out z
    have hoo:=HOO.out
    rw [if_pos hlen] at hoo
    subst hoo
    rw [hlen]
    go_wp2
    exact gW E0.out.1 rfl rfl rfl ⟨gB 0,rfl,E0.out.2,fun x hx=>by cases hx⟩
   ·have hoo:=HOO.out
    rw [if_neg hlen] at hoo
    have hl2:((out.length:Int)==(L.length:Int))=false:=by simpa using (fun h=>hlen (by omega))
    have AC:=aA (bF3 (oO HO.out) (fun v hv=>HTK.out wr v HB.out (hmem v hv)) (by omega))
    obtain⟨X,hX⟩:∃ X,gI 6 ((out.flatMap eP).map er) (.mk 2 0 0 0 [] [])=X:=⟨_,rfl⟩
    rw [hX] at AC hoo
    subst hoo
    clear hX
    go_wp2_with (go_at_call 73;(with_reducible refine AC.out.mono ?_);rintro e w6 ⟨t6,rfl,h61,h62,h63,h64⟩;have R6:=(h64.block _ (aC R5.out)).trans R5.out;have E0:=aA (oP t6 (aG (aG BB.out HB.out lz9) h64 lz9) R6 (aCA _) h61 (h62.mono fun k hk=>o8 (aC R5.out) hk));have F0:=aA (h62.mono fun k (hk:wr.heap.size<=k)=>o0 (aG BB.out HB.out lz9).size hk);have r0:=aB R6 (i:=0) rfl;have r1:=aB R6 (i:=1) rfl;have r2:=aB R6 (i:=2) rfl;have r3:=aB R6 (i:=3) rfl;have r4:=aB R6 (i:=4) rfl;have r5:=aB R6 (i:=5) rfl;have fz:=fun z=>aK R6 z;have HX:=aA h63;clear h61 h62 h63 h64 R6)
    exact gW E0.out.1 rfl rfl rfl ⟨t6.f,rfl,E0.out.2.1,fun x hx=>⟨t6,rfl,E0.out.2.2,F0.out,by cases hx;exact HX.out⟩⟩
end
def Er.kd:Er->Int | .mk k _ _ _ _ _=>k
def Er.wr(u:List (Int×Int)):Er->Er | .mk k n a b _ ks=>.mk k n a b u ks
def Er.rgs:Er->List (Int×Int) | .mk _ _ _ _ rs _=>rs
theorem dR(t:Tr):(er t).kd=t.f.k:=by rw [bY];rfl
theorem yF(t:Tr):(er t).rgs=t.f.rs:=by rw [bY];rfl
def mB(u:List (Int×Int)):Bool->List Er->List Er
 | _,[]=>[]
 | s,x :: l=>if x.kd=2 then (if s then mB u s l else x.wr u :: mB u true l) else x :: mB u s l
def qR(l:List Er):Bool:=l.any fun x=>decide (x.kd=2)
theorem kB(u:List (Int×Int))(x:Er):∀ (l:List Er) (s:Bool),mB u s (l++[x])=mB u s l++(if x.kd=2 then (if s||qR l then [] else [x.wr u]) else [x]):=by
 intro l
 induction l with
 | nil=>
  intro s
  rw [aAI]
  simp only [mB]
  by_cases h:x.kd=2
  ·rw [if_pos h,if_pos h];cases s <;> rfl
  ·rw [if_neg h,if_neg h];rfl
 | cons y l ih=>
  intro s
  rw [t4,mB,mB]
  by_cases hy:y.kd=2
  ·rw [if_pos hy,if_pos hy]
   cases s with
   | true=>rw [if_pos rfl,if_pos rfl,ih];simp
   | false=>
    rw [if_neg (by decide),if_neg (by decide),ih,t4]
    have:qR (y :: l)=true:=by simp [qR,hy]
    simp [this]
  ·rw [if_neg hy,if_neg hy,ih,t4]
   have:qR (y :: l)=qR l:=by simp [qR,hy]
   rw [this]
structure OS where
 K:List Tr
 A:List (Int×Int)
 f:Nat
 s:Nat
def OS.add(o:OS)(u:Tr):OS:=if u.f.k=2 then (if 1<=o.s then ⟨o.K,o.A++u.f.rs,o.f,o.s+1⟩ else ⟨o.K++[u],o.A++u.f.rs,o.K.length,o.s+1⟩) else ⟨o.K++[u],o.A,o.f,o.s⟩
def osf(l:List Tr):OS:=l.foldl OS.add ⟨[],[],0,0⟩
theorem uL(l:List Tr)(u:Tr):osf (l++[u])=(osf l).add u:=by unfold osf;rw [List.foldl_append];rfl
def fX(u:Tr):Bool:=decide (u.f.k=2)
structure OSI(l:List Tr)(o:OS):Prop where
 sub:∀ u∈o.K,u∈l
 ranges:o.A=(l.filter fX).flatMap fun u=>u.f.rs
 sets:o.s=(l.filter fX).length
 none:o.s=0->∀ u,o.K.map er=mB u false (l.map er)
 some:1<=o.s->∃ x0,o.K[o.f]?=some x0/\x0.f.k=2/\∀ u X,er X=(er x0).wr u->(o.K.set o.f X).map er=mB u false (l.map er)
 szs:szs o.K<=szs l
 lt:o.f<=o.K.length
theorem vC(l:List Tr):qR (l.map er)=true↔1<=(l.filter fX).length:=by
 unfold qR
 rw [List.any_map,aAX]
 constructor
 ·rintro ⟨x,hx,h⟩
  have hm:x∈l.filter fX:=aAF.2 ⟨hx,by unfold fX;rw [<- dR];simpa using h⟩
  exact List.length_pos_of_mem hm
 ·intro h
  obtain⟨x,hx⟩:=List.exists_mem_of_length_pos h
  have:=aAF.1 hx
  exact⟨x,this.1,by have h2:=this.2;unfold fX at h2;rw [<- dR] at h2;simpa using h2⟩
theorem OSI.add{l:List Tr}{o:OS}(h:OSI l o)(u:Tr):OSI (l++[u]) (o.add u):=by
 have hsub:∀ v∈o.K++[u],v∈l++[u]:=fun v hv=>by
  rcases o3.1 hv with q | q
  ·exact o3.2 (.inl (h.sub v q))
  ·exact o3.2 (.inr q)
 have hz:Go.Proofs.YtlamifbjklpdbaaGreat.szs (o.K++[u])<=Go.Proofs.YtlamifbjklpdbaaGreat.szs (l++[u]):=by rw [eS,eS];have:=h.szs;omega
 have hz2:Go.Proofs.YtlamifbjklpdbaaGreat.szs o.K<=Go.Proofs.YtlamifbjklpdbaaGreat.szs (l++[u]):=by rw [eS];have:=h.szs;omega
 unfold OS.add
 by_cases hk:u.f.k=2
 ·have hi:fX u=true:=by simpa [fX] using hk
  have hf:(l++[u]).filter fX=l.filter fX++[u]:=by rw [List.filter_append];simp [hi]
  have hku:(er u).kd=2:=(dR u).trans hk
  rw [if_pos hk]
  by_cases hs:1<=o.s
  ·rw [if_pos hs]
   obtain⟨x0,e1,e2,e3⟩:=h.some hs
   refine⟨fun v hv=>o3.2 (.inl (h.sub v hv)),by rw [hf,aBM,h.ranges];simp,by rw [hf,o5,h.sets];rfl,fun e=>by simp at e,fun _=>⟨x0,e1,e2,fun v X hX=>?_⟩,hz2,h.lt⟩
   rw [aAK,aBI,kB,if_pos hku,e3 v X hX,(vC l).2 (by rw [<- h.sets];exact hs)]
   simp
  ·rw [if_neg hs]
   have hs0:o.s=0:=by omega
   have hn:qR (l.map er)=false:=by
    cases hh:qR (l.map er) with
    | false=>rfl
    | true=>have:=(vC l).1 hh;rw [<- h.sets] at this;omega
   refine⟨hsub,by rw [hf,aBM,h.ranges];simp,by rw [hf,o5,h.sets];rfl,fun e=>by simp at e,fun _=>⟨u,by simp,hk,fun v X hX=>?_⟩,hz,by simp⟩
   rw [aAK,aBI,kB,if_pos hku,hn,aBU _ _ lz9,aBF,i8,aAK,h.none hs0 v,aBI,hX]
   simp
 ·have hi:fX u=false:=by simpa [fX] using hk
  have hf:(l++[u]).filter fX=l.filter fX:=by rw [List.filter_append];simp [hi]
  have hku:¬ (er u).kd=2:=fun e=>hk ((dR u).symm.trans e)
  rw [if_neg hk]
  refine⟨hsub,by rw [hf];exact h.ranges,by rw [hf];exact h.sets,fun e v=>?_,fun e=>?_,hz,by rw [o5];have:=h.lt;simp;omega⟩
  ·rw [aAK,aAK,h.none e v,aBI,kB,if_neg hku]
  ·obtain⟨x0,e1,e2,e3⟩:=h.some e
   have hlt:o.f<o.K.length:=(m8.1 e1).1
   refine⟨x0,by rw [aAH hlt];exact e1,e2,fun v X hX=>?_⟩
   rw [List.set_append_left _ _ hlt,aAK,aAK,e3 v X hX,aBI,kB,if_neg hku]
theorem osi(l:List Tr):OSI l (osf l):=by
 have:∀ n,OSI (l.take n) (osf (l.take n)):=by
  intro n
  induction n with
  | zero=>exact⟨fun _ h=>(by cases h),rfl,rfl,fun _ _=>rfl,fun h=>(by cases h),t8 _,t8 _⟩
  | succ n ih=>
   by_cases hn:n<l.length
   ·rw [s7,g9 hn]
    show OSI (l.take n++[l[n]]) (osf (l.take n++[l[n]]))
    rw [uL]
    exact ih.add _
   ·rw [o4 (by omega)]
    rw [o4 (by omega)] at ih
    exact ih
 have h:=this l.length
 rwa [aBQ] at h
section
attribute [local go_sem] Oper.semAt_some
theorem rD{V V':World}{base base':Nat}{e e':TypeId}{size size' n n':Nat}{v u:Value}{xs ys:List Value}(h:V.ownsRow base e size v n xs)(hu:V.ownsRow base' e' size' u n' ys)(hne:e≠e')(hg:V.grownBy V' u.ownBlock):V'.ownsRow base e size v n xs:=
 aH h ((Fr.refl (blk u) V).grown hg fun _ hk=>hk) (fun k hk q=>by obtain⟨_,_,cur,hc⟩:=aF hu q;exact dU h hc (fun e=>hne e.symm) hk)
structure WOr(W:World)(K:List Tr)(A:List (Int×Int))(kq:Option Addr)(kc:Nat)(aq:Option Addr)(ac:Nat)(wr:World):Prop where
 kr:wr.ownsRow W.heap.size 25 6 (.slice kq K.length kc) K.length (aV K)
 ar:RR W.heap.size wr (.slice aq A.length ac) A
 bel:Below W.heap.size W wr
theorem WOr.kept{W wr wr':World}{K:List Tr}{A:List (Int×Int)}{kq aq:Option Addr}{kc ac:Nat}(h:WOr W K A kq kc aq ac wr)(hb:Below wr.heap.size wr wr'):WOr W K A kq kc aq ac wr':=
 ⟨aH h.kr (Fr.of_below (S:=fun _=>False) hb) (fun _ _ z=>z),h.ar.kept hb,aG h.bel hb lz9⟩
theorem WOr.apK{W V V':World}{K:List Tr}{A:List (Int×Int)}{kq aq q6:Option Addr}{kc ac n6 cap6:Nat}{u:Tr}(h:WOr W K A kq kc aq ac V)(ho:V'.ownsRow W.heap.size 25 6 (.slice q6 (K.length+1) cap6) n6 (aV K++u.f.cells))(hg:V.grownBy V' (Value.slice kq K.length kc).ownBlock):WOr W (K++[u]) A q6 cap6 aq ac V':=by
 have e:n6=K.length+1:=by obtain⟨q,c,e⟩:=aQ ho;injection e with _ e;exact e.symm
 subst e
 refine⟨?_,rD h.ar h.kr (by decide) hg,kM h.bel lz9 h.kr hg⟩
 rw [dM,o5,show aV [u]=u.f.cells by simp [aV]]
 exact ho
theorem WOr.apA{W V V':World}{K:List Tr}{A B:List (Int×Int)}{kq aq q6:Option Addr}{kc ac n6 m6 cap6:Nat}(h:WOr W K A kq kc aq ac V)(ho:V'.ownsRow W.heap.size 53 2 (.slice q6 n6 cap6) m6 (aL A++aL B))(hg:V.grownBy V' (Value.slice aq A.length ac).ownBlock):WOr W K (A++B) kq kc q6 cap6 V'/\n6=(A++B).length:=by
 have h1:RR W.heap.size V' (.slice q6 n6 cap6) (A++B):=mC ho
 have e:n6=(A++B).length:=by obtain⟨q,c,e⟩:=h1.shape;injection e with _ e
 subst e
 exact⟨⟨rD h.kr h.ar (by decide) hg,h1,bZ h.bel h.ar hg⟩,rfl⟩
def reR(x:Tr)(C:List (Int×Int))(q:Option Addr)(c:Nat):Tr:=.mk ⟨x.f.k,x.f.n,x.f.mn,x.f.mx,C,q,c,x.f.kq,x.f.kl,x.f.kc⟩ x.ks
theorem bJ3(x:Tr)(C:List (Int×Int))(q:Option Addr)(c:Nat):er (reR x C q c)=(er x).wr C:=by rw [bY,bY];rfl
theorem bJ2(x:Tr)(C:List (Int×Int))(q:Option Addr)(c:Nat):(reR x C q c).sz=x.sz:=by rw [dA,dA];rfl
theorem aW3(l:List Tr)(i:Nat)(x:Tr):szs (l.set i x)<=szs l+x.sz:=by
 induction l generalizing i with
 | nil=>rw [List.set_nil,cM];omega
 | cons y l ih=>
  cases i with
  | zero=>rw [i8,bE,bE];omega
  | succ i=>rw [i9,bE,bE];have:=ih i;omega
theorem KR.set4{W:World}{g:Nat}{ks:List Tr}(h:KR W g ks){i:Nat}{x:Tr}(hx:ks[i]?=some x)(C:List (Int×Int))(q:Option Addr)(c:Nat):KR (W.setCell ⟨g,i*6+4,none⟩ (.slice q C.length c)) g (ks.set i (reR x C q c)):=by
 have hi:i<ks.length:=(m8.1 hx).1
 refine⟨cR h.blk _ _,fun j u hj=>?_⟩
 by_cases e:j=i
 ·subst e
  rw [aBZ hi] at hj
  cases hj
  obtain⟨k0,k1,k2,k3,k4,k5⟩:=h.six j x hx
  exact⟨aE k0 (by omega),aE k1 (by omega),aE k2 (by omega),aE k3 (by omega),s8 _ _ _ k4,aE k5 (by omega)⟩
 ·rw [aBS (Ne.symm e)] at hj
  obtain⟨k0,k1,k2,k3,k4,k5⟩:=h.six j u hj
  exact⟨aE k0 (by omega),aE k1 (by omega),aE k2 (by omega),aE k3 (by omega),aE k4 (by omega),aE k5 (by omega)⟩
theorem bJ1{base:Nat}{W:World}{x:Tr}{C:List (Int×Int)}{q:Option Addr}{c:Nat}(h:TA W x)(hr:RR base W (.slice q C.length c) C)(hf:Fit C)(hl:C.length+3<=8796093022208):TA W (reR x C q c):=
 (aI _).2 ⟨⟨hr.arg,h.node.k,hf,hl,NO.rows hr h.node.own.2⟩,(aT _).2 fun _ hu=>h.kid hu⟩
theorem aZ4{l:List Tr}{m:Nat}(h:∀ u∈l,u.f.rs.length<=m):(osf l).A.length<=l.length*m:=by
 rw [(osi l).ranges]
 have:∀ k:List Tr,(∀ u∈k,u.f.rs.length<=m)->(k.flatMap fun u=>u.f.rs).length<=k.length*m:=by
  intro k
  induction k with
  | nil=>intro _;simp
  | cons x k ih=>
   intro hk
   rw [aAN,o5,o7,Nat.add_mul]
   have h1:=hk x (n9 ..)
   have h2:=ih fun u hu=>hk u (m9 _ hu)
   omega
 refine o0 (this (l.filter fX) fun u hu=>h u (aAF.1 hu).1) (Nat.mul_le_mul_right _ (List.length_filter_le _ _))
noncomputable def aN6 (ks:List Tr):Option Er:=if 2<=(ks.filter fX).length then some (gI 6 ((mB (unC ((ks.filter fX).flatMap fun u=>u.f.rs)) false (ks.map er)).flatMap fun e=>if e.kd=6 then e.ks else [e]) (.mk 2 0 0 0 [] [])) else none
theorem wC(l:List Tr):(l.flatMap eP).map er=(l.map er).flatMap fun e=>if e.kd=6 then e.ks else [e]:=by
 induction l with
 | nil=>rfl
 | cons x l ih=>
  rw [aAN,aAK,ih,s6,aAN]
  congr 1
  unfold eP
  rw [dR]
  by_cases h:x.f.k=6
  ·rw [if_pos h,if_pos h,bY];rfl
  ·rw [if_neg h,if_neg h];rfl
theorem jG{R:Ending->World->Prop}{a:Act}{W:World}{b:Nat}{f:Fl}{e:Bool}(h:Six W b 0 f)(ha:a.tmps[2]?.getD undef=.pointer (some ⟨b,0,none⟩))(he:a.tmps[3]?.getD undef=.bool e)(hd:a.defers=[])(hR:R (.returned (.tuple #[.agg #[.int .i64 f.k,.int .i64 f.n,.int .i64 f.mn,.int .i64 f.mx,.slice f.rq f.rs.length f.rc,.slice f.kq f.kl f.kc],.bool e])) W):bodyPost Tryz.prog Tryz.f47 R .ret a W:=by
 obtain⟨z0,z1,z2,z3,z4,z5⟩:=h
 simp only [m7] at z1 z2 z3 z4 z5
 refine bodyPost_ret (v:=.tuple #[.agg #[.int .i64 f.k,.int .i64 f.n,.int .i64 f.mn,.int .i64 f.mx,.slice f.rq f.rs.length f.rc,.slice f.kq f.kl f.kc],.bool e]) ?_ hd hR
 simp [results,Tryz.results47,go_sem,ha,he,z0,z1,z2,z3,z4,z5]
theorem rR{t:Tr}{w:World}(hta:TA w t)(hs:t.sz<=2000)(hrl:∀ u∈t.ks,u.f.rs.length<=600000):Calls Tryz.prog 47 #[.agg #[.int .i64 t.f.k,.int .i64 t.f.n,.int .i64 t.f.mn,.int .i64 t.f.mx,.slice t.f.rq t.f.rs.length t.f.rc,.slice t.f.kq t.f.kl t.f.kc]] w (RSays w.heap.size w (aN6 t.ks)):=by
 obtain⟨t0,hi,hz0,hz1,hz2⟩:=aR gT
 obtain⟨s0,hjr,sz0,sz1,sz2⟩:=aR cL
 obtain⟨tf,L⟩:=t
 obtain⟨fk,fn,fmn,fmx,frs,frq,frc,fkq,fkl,fkc⟩:=tf
 have hkl:fkl=L.length:=hta.node.kl
 subst hkl
 have hsz:szs L<2000:=by have:=dA (Tr.mk ⟨fk,fn,fmn,fmx,frs,frq,frc,fkq,L.length,fkc⟩ L);simp only [Tr.ks] at this;omega
 obtain⟨W,hW,B1,N1,R1⟩:=iK w ⟨fk,fn,fmn,fmx,frs,frq,frc,fkq,L.length,fkc⟩
 have T1:=hta.kept B1
 obtain⟨q',c',e,hml,-,hx⟩:=T1.node.k.slice
 have HTK:Hid (∀ V u,Below W.heap.size W V->u∈L->TA V u):=aA fun V u hV hu=>(T1.kept hV).kid hu
 change ∀ (i:Nat) (t:Tr),L[i]?=some t->∃ g off,q'=some ⟨g,off,none⟩/\g<W.heap.size/\Six W g (off+i*6) t.f at hx
 change Value.slice fkq L.length fkc=Value.slice q' L.length c' at e
 change ∀ u∈L,u.f.rs.length<=600000 at hrl
 show Calls Tryz.prog 47 #[.agg #[.int .i64 fk,.int .i64 fn,.int .i64 fmn,.int .i64 fmx,.slice frq frs.length frc,.slice fkq L.length fkc]] w (RSays w.heap.size w (aN6 L))
 injection e with e1 _ e3
 subst e1 e3
 obtain⟨c0,c1,c2,c3,c4,c5⟩:=N1.six
 simp only [m7] at c1 c2 c3 c4 c5
 have hml':L.length<=9223372036854775807:=hml
 have hLl:L.length<2000:=by have:=eZ L;omega
 have HH:=aA hx
 have BB:=aA B1
 have RR1:=aA R1
 have NN1:=aA N1
 have HS:=aA hsz
 have HRL:=aA hrl
 have LZ:=aC R1
 obtain⟨OO,hOO⟩:∃ o,aN6 L=o:=⟨_,rfl⟩
 rw [hOO]
 unfold aN6 at hOO
 have HOO:=aA hOO
 clear hta hs N1 R1 B1 T1 hsz hrl hx hml hOO
 go_enter Tryz.func47,Tryz.ntmps47
 go_upto_region 1 with fail
 go_wp2
 go_loopw [13,4,5,6,7] (fun i s a f n wr=>∃ (j:Nat) (kq aq:Option Addr) (kc ac:Nat),j<=L.length/\i=.int .i64 (j:Int)/\s=.slice kq (osf (L.take j)).K.length kc/\a=.slice aq (osf (L.take j)).A.length ac/\f=.int .i64 ((osf (L.take j)).f:Int)/\n=.int .i64 ((osf (L.take j)).s:Int)/\WOr W (osf (L.take j)).K (osf (L.take j)).A kq kc aq ac wr) (fun i _ _ _ _ _=>L.length-(intOf i).toNat)
 case atStart=>exact⟨0,none,none,0,0,o9 _,rfl,rfl,rfl,rfl,rfl,aAY _ _ _ _,RR.nil _ _,Below.refl _ _⟩
 case round=>
  obtain⟨j,kq,aq,kc,ac,hj,rfl,rfl,rfl,rfl,rfl,hown⟩:=hrel
  have HO:=aA hown
  have hoi:=osi (L.take j)
  have hKl:(osf (L.take j)).K.length<=2000:=by
   have h1:=eZ (osf (L.take j)).K
   have h2:=hoi.szs
   have h3:=gC L j
   have h4:=HS.out
   omega
  have hAl:(osf (L.take j)).A.length<=1200000000:=by
   have h1:=aZ4 (l:=L.take j) (m:=600000) fun u hu=>HRL.out u (aAS hu)
   have h2:(L.take j).length<=2000:=by rw [aAG];omega
   have h3:=Nat.mul_le_mul_right 600000 h2
   omega
  have hsl:(osf (L.take j)).s<=2000:=by
   rw [hoi.sets]
   have:=List.length_filter_le fX (L.take j)
   rw [aAG] at this
   omega
  have hfl:(osf (L.take j)).f<=2000:=o0 hoi.lt hKl
  have HOI:=aA hoi
  clear hown hoi
  by_cases hjl:j<L.length
  ·have i0:(j:Int)<(L.length:Int):=by omega
   obtain⟨u,hu⟩:∃ u,L[j]?=some u:=⟨_,g9 hjl⟩
   obtain⟨g,off,hq,hg,six⟩:=HH.out j u hu
   have hin:u∈L:=n8 hu
   have hul:=HRL.out u hin
   obtain⟨d0,d1,d2,d3,d4,d5⟩:=six.ck (CK.of_below HO.out.bel) hg
   have HN:osf (L.take (j+1))=(osf (L.take j)).add u:=by
    rw [s7,hu]
    exact uL _ _
   have HNX:=aA HN
   have K4:Below wr.heap.size wr (wr.alloc (.cells #[.int .i64 u.f.k,.int .i64 u.f.n,.int .i64 u.f.mn,.int .i64 u.f.mx,.slice u.f.rq u.f.rs.length u.f.rc,.slice u.f.kq u.f.kl u.f.kc] 25)):=bz9
   have N4:Hid (BoxN (wr.alloc (.cells #[.int .i64 u.f.k,.int .i64 u.f.n,.int .i64 u.f.mn,.int .i64 u.f.mx,.slice u.f.rq u.f.rs.length u.f.rc,.slice u.f.kq u.f.kl u.f.kc] 25)) wr.heap.size u.f):=aD wr _
   have O4:=aA (HO.out.kept K4)
   rw [hq]
   clear six hu K4 HN HOI
   go_upto_region 7 with fail
   generalize (wr.alloc (.cells #[.int .i64 u.f.k,.int .i64 u.f.n,.int .i64 u.f.mn,.int .i64 u.f.mx,.slice u.f.rq u.f.rs.length u.f.rc,.slice u.f.kq u.f.kl u.f.kc] 25))=W4 at N4 O4 ⊢
   clear d0 d1 d2 d3 d4 d5 HO
   generalize osf (L.take j)=oo at HNX O4 hKl hAl hsl hfl ⊢
   obtain⟨K,A,F,S⟩:=oo
   dsimp only at O4 hKl hAl hsl hfl ⊢
   obtain⟨n0,n1,n2,n3,n4,n5⟩:=N4.out.six
   simp only [m7] at n1 n2 n3 n4 n5
   by_cases k2:u.f.k=2
   ·have e2:(u.f.k==2)=true:=by simpa using k2
    have TU:=aA (HTK.out W4 u O4.out.bel hin)
    have AR:=TU.out.node.r
    have step:∀ (V:World) (q6:Option Addr) (cap6:Nat),WOr W K (A++u.f.rs) kq kc q6 cap6 V->BoxN V wr.heap.size u.f->True:=fun _ _ _ _ _=>trivial
    clear step
    by_cases hS:1<=S
    ·have hS1:((S:Int)+1>1):=by omega
     have EN:=aA (show (OS.mk K A F S).add u=⟨K,A++u.f.rs,F,S+1⟩ by unfold OS.add;rw [if_pos k2,if_pos hS])
     cases hrq:u.f.rq with
     | none=>
      rw [hrq] at n4
      have hrs:u.f.rs=[]/\u.f.rc=0:=by
       rw [hrq] at AR
       rcases AR with⟨p,cap,e,h1,h2⟩ | ⟨g',off',cap,e,-⟩
       ·injection e with e1 _ e3
        subst e1
        exact⟨h1,e3.trans (h2 rfl)⟩
       ·cases e
      rw [hrs.1,hrs.2,List.length_nil] at n4
      have HRS:=aA hrs
      clear hrs AR
      go_wp2_with (at_builtin;refine wpList_append_own_none rfl _ _ 22 rfl W.heap.size 53 s0 2 aY hjr (.slice aq A.length ac) A.length (aL A) rfl O4.out.ar rfl ?_)
      go_roundw
      case rel=>exact⟨j+1,kq,aq,kc,ac,by omega,by go_num,by rw [HNX.out,EN.out],by rw [HNX.out,EN.out,HRS.out.1,t9],by rw [HNX.out,EN.out],by rw [HNX.out,EN.out];go_num,by rw [HNX.out,EN.out,HRS.out.1,t9];exact O4.out⟩
      case measure=>simp only [intOf];omega
     | some ad=>
      rw [hrq] at n4 AR
      have NW:=aA (AR.news)
      clear AR
      go_wp2_with (at_builtin;refine wpList_append_own_at _ rfl _ _ 22 rfl W.heap.size 53 s0 (.agg #[.int .i64 0,.int .i64 0]) 2 16 aY hjr sz0 sz1 sz2 rfl (by decide) (.slice aq A.length ac) A.length (aL A) rfl O4.out.ar ad u.f.rs.length u.f.rc (aL u.f.rs) rfl (cI u.f.rs) NW.out (fY u.f.rs) (by unfold maxLen;omega) (by omega) O4.out.bel.size ?_;intro v' w6 hown' hgrow _ _;obtain⟨q6,cap6,rfl⟩:=aQ hown';obtain⟨h71,h72⟩:=O4.out.apA hown' hgrow;have O7:=aA h71;have EL:=aA h72;clear hown' hgrow h71 h72)
      go_roundw
      case rel=>exact⟨j+1,kq,q6,kc,cap6,by omega,by go_num,by rw [HNX.out,EN.out],by rw [HNX.out,EN.out,EL.out],by rw [HNX.out,EN.out],by rw [HNX.out,EN.out];go_num,by rw [HNX.out,EN.out];exact O7.out⟩
      case measure=>simp only [intOf];omega
    ·have hS0:S=0:=by omega
     subst hS0
     have EN:=aA (show (OS.mk K A F 0).add u=⟨K++[u],A++u.f.rs,K.length,1⟩ by unfold OS.add;rw [if_pos k2,if_neg (by simp)])
     cases hrq:u.f.rq with
     | none=>
      rw [hrq] at n4
      have hrs:u.f.rs=[]/\u.f.rc=0:=by
       rw [hrq] at AR
       rcases AR with⟨p,cap,e,h1,h2⟩ | ⟨g',off',cap,e,-⟩
       ·injection e with e1 _ e3
        subst e1
        exact⟨h1,e3.trans (h2 rfl)⟩
       ·cases e
      have n4':=n4
      rw [hrs.1,hrs.2,List.length_nil] at n4'
      have HRS:=aA hrs
      have HRQ:=aA hrq
      clear hrs AR hrq n4
      clear k2
      go_upto_region 12 with (at_builtin;refine wpList_append_own_none rfl _ _ 22 rfl W.heap.size 53 s0 2 aY hjr (.slice aq A.length ac) A.length (aL A) rfl O4.out.ar rfl ?_)
      clear n0 n1 n2 n3 n4' n5
      have K6:Below W4.heap.size W4 (W4.alloc (.cells #[.int .i64 u.f.k,.int .i64 u.f.n,.int .i64 u.f.mn,.int .i64 u.f.mx,.slice u.f.rq u.f.rs.length u.f.rc,.slice u.f.kq u.f.kl u.f.kc] 25)):=bz9
      have M6:=aA (gV (aD W4 (.cells #[.int .i64 u.f.k,.int .i64 u.f.n,.int .i64 u.f.mn,.int .i64 u.f.mx,.slice u.f.rq u.f.rs.length u.f.rc,.slice u.f.kq u.f.kl u.f.kc] 25)))
      have O6:=aA (O4.out.kept K6)
      obtain⟨n0,n1,n2,n3,n4,n5⟩:=N4.out.six
      simp only [m7] at n1 n2 n3 n4 n5
      clear K6
      go_wp2_with (at_builtin;refine wpList_append_own_at _ rfl _ _ 23 rfl W.heap.size 25 t0 (.agg #[.int .i64 0,.int .i64 0,.int .i64 0,.int .i64 0,.slice none 0 0,.slice none 0 0]) 6 80 cQ hi hz0 hz1 hz2 rfl (by decide) (.slice kq K.length kc) K.length (aV K) rfl O6.out.kr ⟨W4.heap.size,0,none⟩ 1 1 u.f.cells rfl rfl M6.out (fun v hv=>by simp [Fl.cells] at hv;rcases hv with rfl | rfl | rfl | rfl | rfl | rfl <;> rfl) (by unfold maxLen;omega) (by omega) O6.out.bel.size ?_;intro v' w6 hown' hgrow _ _;obtain⟨q6,cap6,rfl⟩:=aQ hown';have O7:=aA (O6.out.apK hown' hgrow);clear hown' hgrow)
      go_roundw
      case rel=>exact⟨j+1,q6,aq,cap6,ac,by omega,by go_num,by rw [HNX.out,EN.out];simp,by rw [HNX.out,EN.out,HRS.out.1,t9],by rw [HNX.out,EN.out],by rw [HNX.out,EN.out];rfl,by rw [HNX.out,EN.out,HRS.out.1,t9];exact O7.out⟩
      case measure=>simp only [intOf];omega
     | some ad=>
      have n4':=n4
      rw [hrq] at n4' AR
      have NW:=aA (AR.news)
      clear AR n4 k2 hrq
      go_upto_region 12 with (at_builtin;refine wpList_append_own_at _ rfl _ _ 22 rfl W.heap.size 53 s0 (.agg #[.int .i64 0,.int .i64 0]) 2 16 aY hjr sz0 sz1 sz2 rfl (by decide) (.slice aq A.length ac) A.length (aL A) rfl O4.out.ar ad u.f.rs.length u.f.rc (aL u.f.rs) rfl (cI u.f.rs) NW.out (fY u.f.rs) (by unfold maxLen;omega) (by omega) O4.out.bel.size ?_;intro v' w5 hown' hgrow _ _;obtain⟨q5,cap5,rfl⟩:=aQ hown';obtain⟨h71,h72⟩:=O4.out.apA hown' hgrow;have O5:=aA h71;have EL:=aA h72;have N5:Hid (BoxN w5 wr.heap.size u.f):=aA ((hgrow.block _ (aC N4.out) (fun e=>dU O4.out.ar N4.out (by decide) e.symm)).trans N4.out);clear hown' hgrow h71 h72)
      clear n0 n1 n2 n3 n4' n5
      have K6:Below w5.heap.size w5 (w5.alloc (.cells #[.int .i64 u.f.k,.int .i64 u.f.n,.int .i64 u.f.mn,.int .i64 u.f.mx,.slice u.f.rq u.f.rs.length u.f.rc,.slice u.f.kq u.f.kl u.f.kc] 25)):=bz9
      have M6:=aA (gV (aD w5 (.cells #[.int .i64 u.f.k,.int .i64 u.f.n,.int .i64 u.f.mn,.int .i64 u.f.mx,.slice u.f.rq u.f.rs.length u.f.rc,.slice u.f.kq u.f.kl u.f.kc] 25)))
      have O6:=aA (O5.out.kept K6)
      obtain⟨n0,n1,n2,n3,n4,n5⟩:=N5.out.six
      simp only [m7] at n1 n2 n3 n4 n5
      clear K6
      go_wp2_with (at_builtin;refine wpList_append_own_at _ rfl _ _ 23 rfl W.heap.size 25 t0 (.agg #[.int .i64 0,.int .i64 0,.int .i64 0,.int .i64 0,.slice none 0 0,.slice none 0 0]) 6 80 cQ hi hz0 hz1 hz2 rfl (by decide) (.slice kq K.length kc) K.length (aV K) rfl O6.out.kr ⟨w5.heap.size,0,none⟩ 1 1 u.f.cells rfl rfl M6.out (fun v hv=>by simp [Fl.cells] at hv;rcases hv with rfl | rfl | rfl | rfl | rfl | rfl <;> rfl) (by unfold maxLen;omega) (by omega) O6.out.bel.size ?_;intro v' w6 hown' hgrow _ _;obtain⟨q6,cap6,rfl⟩:=aQ hown';have O7:=aA (O6.out.apK hown' hgrow);clear hown' hgrow)
      go_roundw
      case rel=>exact⟨j+1,q6,q5,cap6,cap5,by omega,by go_num,by rw [HNX.out,EN.out];simp,by rw [HNX.out,EN.out,EL.out],by rw [HNX.out,EN.out],by rw [HNX.out,EN.out];rfl,by rw [HNX.out,EN.out];exact O7.out⟩
      case measure=>simp only [intOf];omega
   ·have e2:(u.f.k==2)=false:=by simpa using k2
    have EN:=aA (show (OS.mk K A F S).add u=⟨K++[u],A,F,S⟩ by unfold OS.add;rw [if_neg k2])
    go_upto_region 12 with fail
    clear n0 n1 n2 n3 n4 n5
    have K6:Below W4.heap.size W4 (W4.alloc (.cells #[.int .i64 u.f.k,.int .i64 u.f.n,.int .i64 u.f.mn,.int .i64 u.f.mx,.slice u.f.rq u.f.rs.length u.f.rc,.slice u.f.kq u.f.kl u.f.kc] 25)):=bz9
    have M6:=aA (gV (aD W4 (.cells #[.int .i64 u.f.k,.int .i64 u.f.n,.int .i64 u.f.mn,.int .i64 u.f.mx,.slice u.f.rq u.f.rs.length u.f.rc,.slice u.f.kq u.f.kl u.f.kc] 25)))
    have O6:=aA (O4.out.kept K6)
    obtain⟨n0,n1,n2,n3,n4,n5⟩:=N4.out.six
    simp only [m7] at n1 n2 n3 n4 n5
    clear K6
    go_wp2_with (at_builtin;refine wpList_append_own_at _ rfl _ _ 23 rfl W.heap.size 25 t0 (.agg #[.int .i64 0,.int .i64 0,.int .i64 0,.int .i64 0,.slice none 0 0,.slice none 0 0]) 6 80 cQ hi hz0 hz1 hz2 rfl (by decide) (.slice kq K.length kc) K.length (aV K) rfl O6.out.kr ⟨W4.heap.size,0,none⟩ 1 1 u.f.cells rfl rfl M6.out (fun v hv=>by simp [Fl.cells] at hv;rcases hv with rfl | rfl | rfl | rfl | rfl | rfl <;> rfl) (by unfold maxLen;omega) (by omega) O6.out.bel.size ?_;intro v' w6 hown' hgrow _ _;obtain⟨q6,cap6,rfl⟩:=aQ hown';have O7:=aA (O6.out.apK hown' hgrow);clear hown' hgrow)
    go_roundw
    case rel=>exact⟨j+1,q6,aq,cap6,ac,by omega,by go_num,by rw [HNX.out,EN.out];simp,by rw [HNX.out,EN.out],by rw [HNX.out,EN.out],by rw [HNX.out,EN.out],by rw [HNX.out,EN.out];exact O7.out⟩
    case measure=>simp only [intOf];omega
  ·have i0:¬ (j:Int)<(L.length:Int):=by omega
   have he:L.take j=L:=o4 (by omega)
   rw [he] at HO HOI hKl hAl hsl hfl ⊢
   have hbel:=HO.out.bel
   have R5:=aA ((hbel.block _ LZ).trans RR1.out)
   have hwr:=aA (aG BB.out hbel lz9)
   have hs:=HOI.out.sets
   by_cases h2:2<=(L.filter fX).length
   ·have hoo:=HOO.out
    rw [if_pos h2] at hoo
    have hs2:¬ ((osf L).s:Int)<2:=by omega
    obtain⟨x0,hx0,hk0,hmap⟩:=HOI.out.some (by omega)
    have hflt:(osf L).f<(osf L).K.length:=(m8.1 hx0).1
    have hrg:=HOI.out.ranges
    have hsub:=HOI.out.sub
    have hszk:=HOI.out.szs
    rw [<- hrg] at hoo
    clear HOI he hs
    generalize osf L=oo at *
    obtain⟨K,A,F,S⟩:=oo
    dsimp only at HO hKl hAl hsl hfl hs2 hx0 hmap hflt hrg hsub hszk hoo ⊢
    obtain⟨g,ek,hKR,hkc,hgW⟩:∃ g:Nat,kq=some ⟨g,0,none⟩/\KR wr g K/\(K.length<=kc/\kc<=maxLen)/\W.heap.size<=g:=by
     have hkr:=HO.out.kr
     rcases hkr.2 with⟨e,hn⟩ | ⟨g,cap,cur,e,h1,h2',h3,h4,_⟩
     ·exfalso;omega
     ·injection e with e1 _ e3
      subst e1 e3
      exact⟨g,rfl,KR.of_row hkr,⟨h3,h4⟩,h1⟩
    subst ek
    have hFit:Fit A:=by
     rw [hrg]
     intro r hr
     obtain⟨u,hu,hr⟩:=aBJ.1 hr
     exact(HTK.out W u (Below.refl _ _) (aAF.1 hu).1).node.fit r hr
    have OC:=aA (bQ1 (w:=wr) HO.out.ar.arg (RR.nil 0 wr).arg hFit eM (by simp;omega))
    have HKR:=aA hKR
    have HUN:=aA (bG0 hFit)
    have f0:(0:Int)<=(F:Int):=by omega
    have f1:(F:Int)<(K.length:Int):=by omega
    have h0:x0∈K:=n8 hx0
    have HX0:=aA hx0
    have HMAP:=aA hmap
    have HSUB:=aA hsub
    have HSZK:=aA hszk
    have HBEL:=aA hbel
    have hx0s:x0.sz<=2000:=by
     have h1:=HS.out
     have h2':x0.sz<=szs L:=by
      have:∀ l:List Tr,x0∈l->x0.sz<=szs l:=by
       intro l
       induction l with
       | nil=>intro h;cases h
       | cons y l ih=>
        intro h
        rw [bE]
        rcases u0.1 h with rfl | h
        ·omega
        ·have:=ih h;omega
      exact this L (hsub x0 h0)
     omega
    have HX0S:=aA (show szs K+x0.sz<1000000 by have:=HS.out;omega)
    clear hKR hFit hx0 hmap hsub hszk hbel hrg hx0s HOO HRL HH c0 c1 c2 c3 c4 c5
    go_upto_region 17 with (go_at_call 72;(with_reducible refine OC.out.mono ?_);rintro e w5 ⟨v5,C,rfl,h51,h52,h53,h54⟩;obtain⟨q5,c5,rfl⟩:=h51.shape;have X5:=aA h51;have Y5:=aA h52;have Z5:=aA h53;have B5:=aA h54;have K5:=aA (HKR.out.kept h54);have k4:=(HKR.out.kept h54).six F x0 HX0.out |>.2.2.2.2.1;have fz:=fun z=>(HKR.out.kept h54).frz z;clear h51 h52 h53 h54)
    have hC:C=unC A:=Y5.out.one HUN.out (fun c=>⟨fun q=>q.elim id (fun q=>absurd q (fH c)),.inl⟩)
    have F6:=aA ((Fr.refl (fun z=>z=g) w5).setCell (p:=⟨g,F*6+4,none⟩) rfl (.slice q5 C.length c5))
    have K6:=aA (K5.out.set4 HX0.out C q5 c5)
    have B6:Hid (Below W.heap.size W (w5.setCell ⟨g,F*6+4,none⟩ (.slice q5 C.length c5))):=aA (bB (aG HBEL.out B5.out lz9) F6.out lz9 (fun k e=>by omega))
    have X6:Hid (RR wr.heap.size (w5.setCell ⟨g,F*6+4,none⟩ (.slice q5 C.length c5)) (.slice q5 C.length c5) C):=aA (X5.out.fr F6.out (fun k hk e=>by
     subst e
     obtain⟨cur,hc⟩:=K5.out.blk
     exact dU X5.out hc (by decide) hk))
    generalize (w5.setCell ⟨g,F*6+4,none⟩ (.slice q5 C.length c5))=w6 at F6 K6 B6 X6 ⊢
    clear k4 fz OC
    have hlen6:(K.set F (reR x0 C q5 c5)).length=K.length:=aAQ
    have AC:=bF3 (w:=w6) (q:=some ⟨g,0,none⟩) (c:=kc) (l:=K.set F (reR x0 C q5 c5)) (K6.out.arg (by rw [hlen6];exact hkc.1) hkc.2) (fun v hv=>by
     rcases List.mem_or_eq_of_mem_set hv with q | q
     ·exact HTK.out w6 v B6.out (HSUB.out v q)
     ·subst q
      exact bJ1 (HTK.out w6 x0 B6.out (HSUB.out x0 h0)) X6.out Y5.out.fit (by have:=Z5.out;simp at this;omega)) (by
     have h1:=aW3 K F (reR x0 C q5 c5)
     rw [bJ2] at h1
     have:=HX0S.out
     omega)
    rw [wC,HMAP.out C (reR x0 C q5 c5) (bJ3 x0 C q5 c5),hlen6,hC] at AC
    have hoo':some _=OO:=hoo
    obtain⟨X,hX⟩:∃ X,gI 6 ((mB (unC A) false (L.map er)).flatMap fun e=>if e.kd=6 then e.ks else [e]) (.mk 2 0 0 0 [] [])=X:=⟨_,rfl⟩
    rw [hX] at AC hoo'
    subst hoo'
    have HAC:=aA AC
    have R6:=aA ((B6.out.block _ LZ).trans RR1.out)
    have BW:=aA (aG BB.out B6.out lz9)
    clear AC hX hoo hC
    go_wp2_with (go_at_call 73;(with_reducible refine HAC.out.mono ?_);rintro e w7 ⟨t7,rfl,h61,h62,h63,h64⟩;have R7:=(h64.block _ (aC R6.out)).trans R6.out;have E0:=aA (oP t7 (aG BW.out h64 lz9) R7 (aCA _) h61 (h62.mono fun k hk=>o8 (aC R6.out) hk));have F0:=aA (h62.mono fun k (hk:w6.heap.size<=k)=>o0 BW.out.size hk);have r0:=aB R7 (i:=0) rfl;have r1:=aB R7 (i:=1) rfl;have r2:=aB R7 (i:=2) rfl;have r3:=aB R7 (i:=3) rfl;have r4:=aB R7 (i:=4) rfl;have r5:=aB R7 (i:=5) rfl;have fz:=fun z=>aK R7 z;have HX:=aA h63;clear h61 h62 h63 h64 R7)
    exact jG E0.out.1 rfl rfl rfl ⟨t7.f,rfl,E0.out.2.1,fun x hx=>⟨t7,rfl,E0.out.2.2,F0.out,by cases hx;exact HX.out⟩⟩
   ·have hoo:=HOO.out
    rw [if_neg h2] at hoo
    subst hoo
    have hs2:((osf L).s:Int)<2:=by omega
    have E0:=aA (mF hwr.out R5.out (aCA _))
    have r0:=aB R5.out (i:=0) rfl
    have r1:=aB R5.out (i:=1) rfl
    have r2:=aB R5.out (i:=2) rfl
    have r3:=aB R5.out (i:=3) rfl
    have r4:=aB R5.out (i:=4) rfl
    have r5:=aB R5.out (i:=5) rfl
    have fz:=fun z=>aK R5.out z
    go_wp2
    exact jG E0.out.1 rfl rfl rfl ⟨gB 0,rfl,E0.out.2,fun x hx=>by cases hx⟩
end
section
variable (un:List (Int×Int)->List (Int×Int))
noncomputable def nf:Ps->Ps
 | .lf k n rs=>.lf k n rs
 | .grp n x=>.grp n x
 | .rep a b x=>iL a b x
 | .row l=>jC l
 | .alt l=>kO un l
noncomputable def gL:Ps->Ps
 | .lf k n rs=>.lf k n rs
 | .grp n x=>.grp n (sim un x)
 | .rep a b x=>.rep a b (sim un x)
 | .row l=>.row (l.map (sim un))
 | .alt l=>.alt (l.map (sim un))
theorem bH8(x:Ps):sim un x=nf un (gL un x):=by
 cases x with
 | lf k n rs=>rw [sim];rfl
 | grp n y=>rw [sim];rfl
 | rep a b y=>rw [sim];rfl
 | row l=>rw [sim,cY];rfl
 | alt l=>rw [sim,cY];rfl
def shp:Ps->Prop
 | .lf k _ _=>k=2\/k=3\/k=4\/k=8
 | .grp _ _=>True
 | .rep _ _ x=>fW x=true\/x=.row []
 | .row l=>l.length≠1/\∀ x∈l,iB x=true\/x=.row []
 | .alt l=>2<=l.length/\∀ x∈l,kQ x=true
structure Nd(z:Ps):Prop where
 kw:∀ y∈z.kids,wf y
 kn:∀ y∈z.kids,nrm y
 sh:shp z
theorem bF7{z:Ps}(h:wf z):shp z:=by
 cases z with
 | lf k n rs=>rw [wf] at h;exact h
 | grp n y=>trivial
 | rep a b y=>rw [wf] at h;exact .inl h.1
 | row l=>
  rw [wf] at h
  refine⟨h.1,fun x hx=>?_⟩
  obtain⟨i,hi⟩:=List.mem_iff_getElem?.1 hx
  exact .inl (h.2.1 i x hi).1
 | alt l=>rw [wf] at h;exact⟨h.1,h.2.1⟩
theorem aZ9{x y:Ps}(h:nrm x)(hy:y∈x.kids):nrm y:=by
 cases x with
 | lf k n rs=>cases hy
 | grp n k=>simp [Ps.kids] at hy;subst hy;rw [nrm] at h;exact h
 | rep a b k=>simp [Ps.kids] at hy;subst hy;rw [nrm] at h;exact h.2.2.2.2
 | row l=>rw [nrm] at h;exact(eL l).1 h.2 y hy
 | alt l=>rw [nrm] at h;exact(eL l).1 h.2.2 y hy
theorem Nd.of{z:Ps}(h:wf z)(hn:nrm z):Nd z:=⟨fun _ hy=>eJ h hy,fun _ hy=>aZ9 hn hy,bF7 h⟩
theorem Nd.ofk{x:Ps}(h:wf x):Nd (gL un x):=by
 cases x with
 | lf k n rs=>exact⟨fun y hy=>(by cases hy),fun y hy=>(by cases hy),(by rw [wf] at h;exact h)⟩
 | grp n k=>
  rw [wf] at h
  exact⟨fun y hy=>(by simp [gL,Ps.kids] at hy;subst hy;exact pB un k h),fun y hy=>(by simp [gL,Ps.kids] at hy;subst hy;exact oS un k),trivial⟩
 | rep a b k=>
  rw [wf] at h
  exact⟨fun y hy=>(by simp [gL,Ps.kids] at hy;subst hy;exact pB un k h.2),fun y hy=>(by simp [gL,Ps.kids] at hy;subst hy;exact oS un k),oL un k h.2 h.1⟩
 | row l=>
  rw [wf] at h
  refine⟨fun y hy=>?_,fun y hy=>?_,by simpa using h.1,fun y hy=>?_⟩
  ·obtain⟨x,hx,rfl⟩:=s4.1 hy;exact pB un x ((dC l).1 h.2.2 x hx)
  ·obtain⟨x,hx,rfl⟩:=s4.1 hy;exact oS un x
  ·obtain⟨x,hx,rfl⟩:=s4.1 hy
   obtain⟨i,hi⟩:=List.mem_iff_getElem?.1 hx
   rcases tA un ((dC l).1 h.2.2 x hx) (h.2.1 i x hi).1 with e | e
   ·exact .inl e.1
   ·exact .inr e
 | alt l=>
  rw [wf] at h
  refine⟨fun y hy=>?_,fun y hy=>?_,by simpa using h.1,fun y hy=>?_⟩
  ·obtain⟨x,hx,rfl⟩:=s4.1 hy;exact pB un x ((dC l).1 h.2.2 x hx)
  ·obtain⟨x,hx,rfl⟩:=s4.1 hy;exact oS un x
  ·obtain⟨x,hx,rfl⟩:=s4.1 hy
   have hw:=(dC l).1 h.2.2 x hx
   exact aT8 un x hw (h.2.1 x hx) (fun y hy=>eJ hw hy)
noncomputable def stp:Ps->Option Ps
 | .rep a b x=>if a=1/\b=1 then some x else if a=0/\b=-1/\kS x=true then some x else if b=0/\grs x=0 then some (.row []) else if isE x then some (.row []) else none
 | .row l=>if l.any isE then some (mkB (l.filter fun x=>!isE x)) else none
 | .alt l=>if 2<=(l.filter isS).length then some (mkP (bV (un ((l.filter isS).flatMap rsP)) false l)) else if (aW [] l).length=l.length then none else some (mkP (aW [] l))
 | _=>none
theorem gH{x:Ps}(h:wf x)(hn:nrm x):nf un x=x:=by
 cases x with
 | lf k n rs=>rfl
 | grp n y=>rfl
 | rep a b y=>
  rw [nrm] at hn
  obtain⟨h1,h2,h3,h4,h5⟩:=hn
  show iL a b y=_
  unfold iL
  rw [if_neg h1,if_neg h2,if_neg h3,if_neg (by rw [h4];simp)]
 | row l=>
  rw [nrm] at hn
  show jC l=_
  unfold jC
  rw [if_neg]
  intro h
  obtain⟨z,hz,e⟩:=aAX.1 h
  rw [hn.1 z hz] at e
  cases e
 | alt l=>
  rw [nrm] at hn
  show kO un l=_
  unfold kO bG
  rw [if_neg (by have:=hn.1;omega),pF l [] (by rw [aAI];exact hn.2.1),aAI]
  rw [wf] at h
  match l,h.1 with
  | x :: y :: r,_=>rfl
theorem sK:nrm (.row []):=by rw [nrm];exact⟨fun _ h=>(by cases h),(eL _).2 (fun _ h=>by cases h)⟩
theorem yN:wf (.row []):=by rw [wf];exact⟨by simp,fun i x h=>by simp at h,trivial⟩
theorem Nd.no:Nd (.row []):=Nd.of yN sK
theorem qX(l:List Ps):∀ acc:List Ps,(aW acc l).length<=acc.length+l.length/\((aW acc l).length=acc.length+l.length->aW acc l=acc++l):=by
 induction l with
 | nil=>intro acc;rw [aW];simp
 | cons x l ih=>
  intro acc
  rw [aW]
  split
  ·obtain⟨h1,h2⟩:=ih acc
   rw [o7]
   exact⟨by omega,fun e=>by omega⟩
  ·obtain⟨h1,h2⟩:=ih (acc++[x])
   rw [o5,aBP] at h1 h2
   rw [o7]
   exact⟨by omega,fun e=>by rw [h2 (by omega),r8];rfl⟩
theorem wR(u:List (Int×Int))(l:List Ps):bV u true l=l.filter fun x=>!isS x:=by
 induction l with
 | nil=>rfl
 | cons x l ih=>
  rw [bV,aAV]
  by_cases h:isS x=true
  ·rw [if_pos h,if_pos rfl,ih];simp [h]
  ·rw [if_neg h,ih];simp [h]
theorem aB8(u:List (Int×Int))(l:List Ps):((bV u false l).filter isS).length<=1:=by
 induction l with
 | nil=>simp [bV]
 | cons x l ih=>
  rw [bV]
  by_cases h:isS x=true
  ·rw [if_pos h,if_neg (by decide),wR,aAV,List.filter_filter]
   have:(l.filter fun a=>isS a && !isS a)=[]:=by
    rw [List.filter_eq_nil_iff]
    intro a _
    simp
   rw [this]
   split <;> simp
  ·rw [if_neg h,aAV,if_neg h];exact ih
theorem aF0(l:List Ps):bG un (bG un l)=bG un l:=by
 unfold bG
 by_cases h:2<=(l.filter isS).length
 ·rw [if_pos h,if_neg (by have:=aB8 (un ((l.filter isS).flatMap rsP)) l;omega)]
 ·rw [if_neg h,if_neg h]
theorem aD5(u:List (Int×Int))(l:List Ps):bU (bV u true l)+(l.filter isS).length<=bU l:=by
 induction l with
 | nil=>simp [bV]
 | cons x l ih=>
  have hx:=gG x
  rw [bV,aAV]
  by_cases h:isS x=true
  ·rw [if_pos h,if_pos h,if_pos rfl,o7,bU];omega
  ·rw [if_neg h,if_neg h,bU,bU];omega
theorem xF(u:List (Int×Int))(l:List Ps)(h0:1<=(l.filter isS).length):bU (bV u false l)+(l.filter isS).length<=bU l+1:=by
 induction l with
 | nil=>simp at h0
 | cons x l ih=>
  have hx:=gG x
  rw [aAV] at h0
  rw [bV,aAV]
  by_cases h:isS x=true
  ·rw [if_pos h,if_pos h,if_neg (by decide),o7,bU,bU,Ps.sz]
   have:=aD5 u l
   omega
  ·rw [if_neg h] at h0
   rw [if_neg h,if_neg h,bU,bU]
   have:=ih h0
   omega
theorem aD6(l:List Ps):∀ acc:List Ps,bU (aW acc l)+(acc.length+l.length)<=bU acc+bU l+(aW acc l).length:=by
 induction l with
 | nil=>intro acc;rw [aW,bU];simp
 | cons x l ih=>
  intro acc
  have hx:=gG x
  rw [aW,bU,o7]
  split
  ·have:=ih acc;omega
  ·have:=ih (acc++[x])
   rw [uF,o5,aBP,bU,bU] at this
   omega
theorem aM7(l:List Ps)(h:l.any isE=true):bU (l.filter fun x=>!isE x)<bU l:=by
 induction l with
 | nil=>simp at h
 | cons x l ih=>
  have hx:=gG x
  have hle:=oC (fun x=>!isE x) l
  rw [aAV]
  by_cases he:isE x=true
  ·rw [if_neg (by simp [he]),bU];omega
  ·rw [if_pos (by simpa using he),bU,bU]
   have:=ih (by rw [aCC] at h;simpa [he] using h)
   omega
theorem zL(un:List (Int×Int)->List (Int×Int)){m:List Ps}(hm:m≠[])(h1:∀ x∈m,nf un x=x):nf un (mkP m)=mkP (aW [] (bG un m)):=by
 match m,hm,h1 with
 | [x],_,h1=>
  show nf un x=_
  rw [h1 x (by simp)]
  have:bG un [x]=[x]:=by
   unfold bG
   rw [if_neg]
   rw [aAV]
   split <;> simp
  rw [this,aW,if_neg (by simp),aW]
  rfl
 | x :: y :: r,_,_=>rfl
theorem Nd.ofP{m:List Ps}(hm:m≠[])(hw:∀ y∈m,wf y)(hn:∀ y∈m,nrm y)(hb:∀ y∈m,kQ y=true):Nd (mkP m):=by
 match m,hm,hw,hn,hb with
 | [x],_,hw,hn,_=>exact Nd.of (hw x (by simp)) (hn x (by simp))
 | x :: y :: r,_,hw,hn,hb=>exact⟨hw,hn,by simp,hb⟩
theorem aK0{z z':Ps}(h:Nd z)(e:stp un z=some z'):Nd z'/\nf un z'=nf un z/\z'.sz<z.sz:=by
 cases z with
 | lf k n rs=>cases e
 | grp n x=>cases e
 | rep a b x=>
  have hw:=h.kw x (by simp [Ps.kids])
  have hn:=h.kn x (by simp [Ps.kids])
  have hp:=gG x
  simp only [stp] at e
  show _/\_=iL a b x/\_
  unfold iL
  by_cases h1:a=1/\b=1
  ·rw [if_pos h1] at e ⊢;cases e
   exact⟨Nd.of hw hn,gH un hw hn,by rw [Ps.sz];omega⟩
  rw [if_neg h1] at e ⊢
  by_cases h2:a=0/\b=-1/\kS x=true
  ·rw [if_pos h2] at e ⊢;cases e
   exact⟨Nd.of hw hn,gH un hw hn,by rw [Ps.sz];omega⟩
  rw [if_neg h2] at e ⊢
  by_cases h3:b=0/\grs x=0
  ·rw [if_pos h3] at e ⊢;cases e
   exact⟨Nd.no,gH un yN sK,by rw [Ps.sz,Ps.sz,bU];omega⟩
  rw [if_neg h3] at e ⊢
  by_cases h4:isE x=true
  ·rw [if_pos h4] at e ⊢;cases e
   exact⟨Nd.no,gH un yN sK,by rw [Ps.sz,Ps.sz,bU];omega⟩
  rw [if_neg h4] at e
  cases e
 | row l=>
  simp only [stp] at e
  show _/\_=jC l/\_
  unfold jC
  by_cases ha:l.any isE=true
  ·rw [if_pos ha] at e ⊢;cases e
   have hk:∀ y∈l.filter (fun x=>!isE x),y∈l/\isE y=false:=fun y hy=>⟨(aAF.1 hy).1,by simpa using (aAF.1 hy).2⟩
   have hsz:=aM7 l ha
   have hle:=uR (l.filter fun x=>!isE x)
   refine⟨?_,?_,by rw [Ps.sz];omega⟩
   ·generalize hm:l.filter (fun x=>!isE x)=m at hk
    match m,hk with
    | [],_=>exact Nd.no
    | [x],hk=>exact Nd.of (h.kw x (hk x (by simp)).1) (h.kn x (hk x (by simp)).1)
    | x :: y :: r,hk=>exact⟨fun u hu=>h.kw u (hk u hu).1,fun u hu=>h.kn u (hk u hu).1,by simp,fun u hu=>(h.sh.2 u (hk u hu).1)⟩
   ·generalize hm:l.filter (fun x=>!isE x)=m at hk
    match m,hk with
    | [],_=>exact gH un yN sK
    | [x],hk=>exact gH un (h.kw x (hk x (by simp)).1) (h.kn x (hk x (by simp)).1)
    | x :: y :: r,hk=>
     show jC (x :: y :: r)=.row (x :: y :: r)
     unfold jC
     rw [if_neg]
     intro q
     obtain⟨z,hz,e⟩:=aAX.1 q
     rw [(hk z hz).2] at e
     cases e
  ·rw [if_neg ha] at e;cases e
 | alt l=>
  have hl2:=h.sh.1
  simp only [stp] at e
  by_cases hs:2<=(l.filter isS).length
  ·rw [if_pos hs] at e;cases e
   have hj:bG un l=bV (un ((l.filter isS).flatMap rsP)) false l:=by unfold bG;rw [if_pos hs]
   rw [<- hj]
   have hmem:∀ y∈bG un l,wf y/\nrm y/\kQ y=true:=fun y hy=>by
    rcases kH un hy with⟨u,rfl⟩ | hy
    ·exact⟨by rw [wf];exact .inl rfl,by rw [nrm];trivial,rfl⟩
    ·exact⟨h.kw y hy,h.kn y hy,h.sh.2 y hy⟩
   have hne:bG un l≠[]:=uY un (fun e=>by rw [e] at hl2;simp at hl2)
   refine⟨Nd.ofP hne (fun y hy=>(hmem y hy).1) (fun y hy=>(hmem y hy).2.1) (fun y hy=>(hmem y hy).2.2),?_,?_⟩
   ·rw [zL un hne fun x hx=>gH un (hmem x hx).1 (hmem x hx).2.1,aF0];rfl
   ·have h1:=xF (un ((l.filter isS).flatMap rsP)) l (by omega)
    rw [<- hj] at h1
    have h2:=qC (bG un l)
    rw [Ps.sz]
    omega
  ·rw [if_neg hs] at e
   have hj:bG un l=l:=by unfold bG;rw [if_neg hs]
   by_cases ht:(aW [] l).length=l.length
   ·rw [if_pos ht] at e;cases e
   ·rw [if_neg ht] at e;cases e
    have hmem:∀ y∈aW [] l,y∈l:=fun y hy=>((cX l [] y).1 hy).resolve_left (fun q=>by cases q)
    have hne:aW [] l≠[]:=pG (fun e=>by rw [e] at hl2;simp at hl2)
    have hfew:((aW [] l).filter isS).length<2:=by have:=tV un l;rw [hj] at this;exact this
    have hj2:bG un (aW [] l)=aW [] l:=by unfold bG;rw [if_neg (by omega)]
    refine⟨Nd.ofP hne (fun y hy=>h.kw y (hmem y hy)) (fun y hy=>h.kn y (hmem y hy)) (fun y hy=>h.sh.2 y (hmem y hy)),?_,?_⟩
    ·rw [zL un hne fun x hx=>gH un (h.kw x (hmem x hx)) (h.kn x (hmem x hx)),hj2,pF _ [] (by rw [aAI];exact jF l [] List.nodup_nil),aAI]
     show _=kO un l
     unfold kO
     rw [hj]
    ·have h1:=aD6 l []
     have h2:=(qX l []).1
     have h3:=qC (aW [] l)
     rw [bU] at h1
     rw [List.length_nil] at h1 h2
     rw [Ps.sz]
     omega
theorem aK1{z:Ps}(h:Nd z)(e:stp un z=none):nf un z=z:=by
 cases z with
 | lf k n rs=>rfl
 | grp n x=>rfl
 | rep a b x=>
  simp only [stp] at e
  show iL a b x=_
  unfold iL
  by_cases h1:a=1/\b=1
  ·rw [if_pos h1] at e;cases e
  rw [if_neg h1] at e ⊢
  by_cases h2:a=0/\b=-1/\kS x=true
  ·rw [if_pos h2] at e;cases e
  rw [if_neg h2] at e ⊢
  by_cases h3:b=0/\grs x=0
  ·rw [if_pos h3] at e;cases e
  rw [if_neg h3] at e ⊢
  by_cases h4:isE x=true
  ·rw [if_pos h4] at e;cases e
  rw [if_neg h4]
 | row l=>
  simp only [stp] at e
  show jC l=_
  unfold jC
  by_cases ha:l.any isE=true
  ·rw [if_pos ha] at e;cases e
  ·rw [if_neg ha]
 | alt l=>
  simp only [stp] at e
  by_cases hs:2<=(l.filter isS).length
  ·rw [if_pos hs] at e;cases e
  ·rw [if_neg hs] at e
   by_cases ht:(aW [] l).length=l.length
   ·have:=(qX l []).2 (by simpa using ht)
    show kO un l=_
    unfold kO bG
    rw [if_neg hs,this,aAI]
    have:=h.sh.1
    match l,this with
    | x :: y :: r,_=>rfl
   ·rw [if_neg ht] at e;cases e
end
theorem dS(x:Ps):(te x).kd=x.kd:=by
 cases x with
 | lf k n rs=>rw [te];rfl
 | grp n y=>rw [te];rfl
 | rep a b y=>rw [te];rfl
 | row l=>
  rw [te]
  simp only [Ps.kd]
  by_cases h:l.isEmpty=true
  ·rw [if_pos h,if_pos h];rfl
  ·rw [if_neg h,if_neg h];rfl
 | alt l=>rw [te];rfl
theorem kT{k n:Int}{rs:List (Int×Int)}(h:wf (.lf k n rs)):k=2\/k=3\/k=4\/k=8:=by rw [wf] at h;exact h
theorem yT{l m:List Ps}(h:∀ x∈l,∀ y∈m,te x=te y->x=y)(e:l.map te=m.map te):l=m:=by
 induction l generalizing m with
 | nil=>cases m with
  | nil=>rfl
  | cons y m=>simp at e
 | cons x l ih=>
  cases m with
  | nil=>simp at e
  | cons y m=>
   rw [s6,s6] at e
   injection e with e1 e2
   rw [h x (n9 ..) y (n9 ..) e1,ih (fun a ha b hb=>h a (m9 _ ha) b (m9 _ hb)) e2]
theorem bG7(x:Ps):∀ y,wf x->wf y->te x=te y->x=y:=by
 refine Ps.ind (P:=fun x=>∀ y,wf x->wf y->te x=te y->x=y) (fun x ih=>?_) x
 intro y hx hy e
 have hk:x.kd=y.kd:=by rw [<- dS,<- dS,e]
 cases x with
 | lf k n rs=>
  have h1:=kT hx
  cases y with
  | lf k' n' rs'=>rw [te,te] at e;cases e;rfl
  | grp n' y=>simp only [Ps.kd] at hk;omega
  | rep a b y=>simp only [Ps.kd] at hk;omega
  | row l=>simp only [Ps.kd] at hk;split at hk <;> omega
  | alt l=>simp only [Ps.kd] at hk;omega
 | grp n x=>
  cases y with
  | lf k' n' rs'=>have h1:=kT hy;simp only [Ps.kd] at hk;omega
  | grp n' y=>
   rw [te,te] at e
   injection e with e1 e2 e3 e4 e5 e6
   injection e6 with e7 e8
   rw [ih x (by simp [Ps.kids]) y (eJ hx (by simp [Ps.kids])) (eJ hy (by simp [Ps.kids])) e7]
   congr 1
   omega
  | rep a b y=>simp only [Ps.kd] at hk;omega
  | row l=>simp only [Ps.kd] at hk;split at hk <;> omega
  | alt l=>simp only [Ps.kd] at hk;omega
 | rep a b x=>
  cases y with
  | lf k' n' rs'=>have h1:=kT hy;simp only [Ps.kd] at hk;omega
  | grp n' y=>simp only [Ps.kd] at hk;omega
  | rep a' b' y=>
   rw [te,te] at e
   injection e with e1 e2 e3 e4 e5 e6
   injection e6 with e7 e8
   rw [ih x (by simp [Ps.kids]) y (eJ hx (by simp [Ps.kids])) (eJ hy (by simp [Ps.kids])) e7,e3,e4]
  | row l=>simp only [Ps.kd] at hk;split at hk <;> omega
  | alt l=>simp only [Ps.kd] at hk;omega
 | row l=>
  cases y with
  | lf k' n' rs'=>have h1:=kT hy;simp only [Ps.kd] at hk;split at hk <;> omega
  | grp n' y=>simp only [Ps.kd] at hk;split at hk <;> omega
  | rep a b y=>simp only [Ps.kd] at hk;split at hk <;> omega
  | row m=>
   rw [te,te] at e
   congr 1
   by_cases h1:l.isEmpty=true
   ·by_cases h2:m.isEmpty=true
    ·rw [List.isEmpty_iff] at h1 h2;rw [h1,h2]
    ·rw [if_pos h1,if_neg h2] at e;cases e
   ·by_cases h2:m.isEmpty=true
    ·rw [if_neg h1,if_pos h2] at e;cases e
    ·rw [if_neg h1,if_neg h2,bP,bP] at e
     injection e with e1 e2 e3 e4 e5 e6
     exact yT (fun a ha b hb=>ih a ha b (eJ hx ha) (eJ hy hb)) e6
  | alt m=>simp only [Ps.kd] at hk;split at hk <;> omega
 | alt l=>
  cases y with
  | lf k' n' rs'=>have h1:=kT hy;simp only [Ps.kd] at hk;omega
  | grp n' y=>simp only [Ps.kd] at hk;omega
  | rep a b y=>simp only [Ps.kd] at hk;omega
  | row m=>simp only [Ps.kd] at hk;split at hk <;> omega
  | alt m=>
   rw [te,te,bP,bP] at e
   injection e with e1 e2 e3 e4 e5 e6
   congr 1
   exact yT (fun a ha b hb=>ih a ha b (eJ hx ha) (eJ hy hb)) e6
theorem aQ9(t:Tr)(p:Way):∀ (ks:List Tr) (i:Nat),(∀ u∈ks,∀ p,aN (pp p u)=aN (pp [] u))->aN (pps t p i ks)=(ks.map fun u=>aN (pp [] u)).sum:=by
 intro ks
 induction ks with
 | nil=>intro i _;rw [pps];rfl
 | cons u ks ih=>
  intro i h
  rw [pps,dB,h u (n9 ..),ih (i+1) fun v hv=>h v (m9 _ hv),s6,List.sum_cons]
theorem rI(t:Tr):∀ p,aN (pp p t)=(if t.f.k=7 then 1 else 0)+(t.ks.map fun u=>aN (pp [] u)).sum:=by
 refine Tr.ind (P:=fun t=>∀ p,aN (pp p t)=(if t.f.k=7 then 1 else 0)+(t.ks.map fun u=>aN (pp [] u)).sum) (fun t ih=>?_) t
 intro p
 have hp:∀ u∈t.ks,∀ p,aN (pp p u)=aN (pp [] u):=fun u hu p=>by rw [ih u hu p,ih u hu []]
 rw [bX,show ((p,t) :: pps t p 0 t.ks)=[(p,t)]++pps t p 0 t.ks from rfl,dB,aQ9 t p t.ks 0 hp]
 simp [aN]
theorem bB0(x:Ps):∀ t:Tr,er t=te x->wf x->aN (pp [] t)=grs x:=by
 refine Ps.ind (P:=fun x=>∀ t:Tr,er t=te x->wf x->aN (pp [] t)=grs x) (fun x ih=>?_) x
 intro t e hw
 have hk:t.f.k=x.kd:=by rw [<- dR,e,dS]
 have hl:∀ (l:List Ps) (ks:List Tr),(∀ y∈l,y∈x.kids)->ks.map er=l.map te->(ks.map fun u=>aN (pp [] u)).sum=bT l:=by
  intro l
  induction l with
  | nil=>intro ks _ e;rw [List.map_eq_nil_iff.1 e];rfl
  | cons y l ih2=>
   intro ks hs e
   cases ks with
   | nil=>simp at e
   | cons u ks=>
    rw [s6,s6] at e
    injection e with e1 e2
    rw [s6,List.sum_cons,bT,ih y (hs y (n9 ..)) u e1 (eJ hw (hs y (n9 ..))),ih2 ks (fun z hz=>hs z (m9 _ hz)) e2]
 rw [rI]
 rw [bY] at e
 cases x with
 | lf k n rs=>
  have h1:=kT hw
  rw [te] at e
  injection e with e1 e2 e3 e4 e5 e6
  rw [List.map_eq_nil_iff.1 e6,hk,if_neg (by simp only [Ps.kd];omega)]
  rfl
 | grp n y=>
  rw [te] at e
  injection e with e1 e2 e3 e4 e5 e6
  rw [hl [y] t.ks (by simp [Ps.kids]) e6,if_pos e1,grs,bT,bT]
  omega
 | rep a b y=>
  rw [te] at e
  injection e with e1 e2 e3 e4 e5 e6
  rw [hl [y] t.ks (by simp [Ps.kids]) e6,hk,if_neg (by simp [Ps.kd]),grs,bT,bT]
  omega
 | row l=>
  rw [te] at e
  rw [hk,if_neg (by simp only [Ps.kd];split <;> omega),grs]
  by_cases h:l.isEmpty=true
  ·rw [if_pos h] at e
   injection e with e1 e2 e3 e4 e5 e6
   rw [List.isEmpty_iff.1 h,List.map_eq_nil_iff.1 e6]
   rfl
  ·rw [if_neg h,bP] at e
   injection e with e1 e2 e3 e4 e5 e6
   rw [hl l t.ks (fun _ h=>h) e6]
   omega
 | alt l=>
  rw [te,bP] at e
  injection e with e1 e2 e3 e4 e5 e6
  rw [hl l t.ks (fun _ h=>h) e6,hk,if_neg (by simp [Ps.kd]),grs]
  omega
section
attribute [local go_sem] Oper.semAt_some
structure RBx(w:World)(tf uf:Fl)(g off:Nat)(W:World):Prop where
 bel:Below w.heap.size w W
 box:BoxN W w.heap.size tf
 res:W.heap[w.heap.size+1]?=some (.cells #[.int .i64 0,.int .i64 0,.int .i64 0,.int .i64 0,.slice none 0 0,.slice none 0 0] 25 (0,0))
 gl:g<W.heap.size
 kid:Six W g off uf
theorem RBx.kept{w W W':World}{tf uf:Fl}{g off:Nat}(h:RBx w tf uf g off W)(hb:Below W.heap.size W W'):RBx w tf uf g off W':=
 ⟨aG h.bel hb lz9,(hb.block _ (aC h.box)).trans h.box,(hb.block _ (aC h.res)).trans h.res,o8 h.gl hb.size,h.kid.ck (CK.of_below hb) h.gl⟩
theorem RBx.put{w W:World}{tf uf:Fl}{g off:Nat}(h:RBx w tf uf g off W):Six (cD W (w.heap.size+1) 0 uf) (w.heap.size+1) 0 uf/\Below w.heap.size w (cD W (w.heap.size+1) 0 uf):=by
 have P9:=dP W (w.heap.size+1) 0 uf
 have X9:=dT (b:=w.heap.size+1) (o:=0) (f:=⟨0,0,0,0,[],none,0,none,0,0⟩) (g:=uf) ⟨aB h.res (i:=0) rfl,aB h.res (i:=1) rfl,aB h.res (i:=2) rfl,aB h.res (i:=3) rfl,aB h.res (i:=4) rfl,aB h.res (i:=5) rfl⟩
 exact⟨X9,bB h.bel P9 lz9 (fun k e=>by omega)⟩
theorem gX{R:Ending->World->Prop}{a:Act}{W:World}{b:Nat}{f:Fl}{e:Bool}(h:Six W b 0 f)(ha:a.tmps[2]?.getD undef=.pointer (some ⟨b,0,none⟩))(he:a.tmps[3]?.getD undef=.bool e)(hd:a.defers=[])(hR:R (.returned (.tuple #[.agg #[.int .i64 f.k,.int .i64 f.n,.int .i64 f.mn,.int .i64 f.mx,.slice f.rq f.rs.length f.rc,.slice f.kq f.kl f.kc],.bool e])) W):bodyPost Tryz.prog Tryz.f43 R .ret a W:=by
 obtain⟨z0,z1,z2,z3,z4,z5⟩:=h
 simp only [m7] at z1 z2 z3 z4 z5
 refine bodyPost_ret (v:=.tuple #[.agg #[.int .i64 f.k,.int .i64 f.n,.int .i64 f.mn,.int .i64 f.mx,.slice f.rq f.rs.length f.rc,.slice f.kq f.kl f.kc],.bool e]) ?_ hd hR
 simp [results,Tryz.results43,go_sem,ha,he,z0,z1,z2,z3,z4,z5]
theorem pH{t u:Tr}{w:World}(hta:TB w t)(hk:t.ks=[u]):Calls Tryz.prog 43 #[.agg #[.int .i64 t.f.k,.int .i64 t.f.n,.int .i64 t.f.mn,.int .i64 t.f.mx,.slice t.f.rq t.f.rs.length t.f.rc,.slice t.f.kq t.f.kl t.f.kc]] w fun e w'=>e=.returned (.tuple #[.agg #[.int .i64 u.f.k,.int .i64 u.f.n,.int .i64 u.f.mn,.int .i64 u.f.mx,.slice u.f.rq u.f.rs.length u.f.rc,.slice u.f.kq u.f.kl u.f.kc],.bool (nE t.f&&nE u.f)])/\Below w.heap.size w w':=by
 obtain⟨g,off,cap,q1,q2,q3,hl,hs⟩:=sY hta hk
 obtain⟨uf,hu⟩:∃ x,u.f=x:=⟨_,rfl⟩
 rw [hu] at hs ⊢
 clear hu hta hk
 obtain⟨tf,tks⟩:=t
 have CA:=aA (fun W=>oG tf W)
 have CU:=aA (fun W=>oG uf W)
 obtain⟨bt,hbt⟩:∃ b,nE tf=b:=⟨_,rfl⟩
 obtain⟨bu,hbu⟩:∃ b,nE uf=b:=⟨_,rfl⟩
 rw [hbt] at CA
 rw [hbu] at CU
 rw [show nE (Tr.mk tf tks).f=bt from hbt,hbu]
 clear hbt hbu
 obtain⟨fk,fn,fmn,fmx,frs,frq,frc,fkq,fkl,fkc⟩:=tf
 dsimp only [Tr.f] at *
 subst q1 q2 q3
 obtain⟨W,hW,B1,N1,R1⟩:=iK w ⟨fk,fn,fmn,fmx,frs,frq,frc,some ⟨g,off,none⟩,1,fkc⟩
 have X0:Hid (RBx w ⟨fk,fn,fmn,fmx,frs,frq,frc,some ⟨g,off,none⟩,1,fkc⟩ uf g off W):=⟨B1,N1,R1,o8 hl B1.size,hs.ck (CK.of_below B1) hl⟩
 clear hs N1 R1 B1 hl
 have n0:=X0.out.box.six.1
 have n1:=X0.out.box.six.2.1
 have n2:=X0.out.box.six.2.2.1
 have n3:=X0.out.box.six.2.2.2.1
 have n4:=X0.out.box.six.2.2.2.2.1
 have n5:=X0.out.box.six.2.2.2.2.2
 simp only [m7] at n1 n2 n3 n4 n5
 obtain⟨k0,k1,k2,k3,k4,k5⟩:=X0.out.kid
 have r0:=aB X0.out.res (i:=0) rfl
 have r1:=aB X0.out.res (i:=1) rfl
 have r2:=aB X0.out.res (i:=2) rfl
 have r3:=aB X0.out.res (i:=3) rfl
 have r4:=aB X0.out.res (i:=4) rfl
 have r5:=aB X0.out.res (i:=5) rfl
 have fz:=fun z=>aK X0.out.res z
 cases bt with
 | false=>
  go_enter Tryz.func43,Tryz.ntmps43
  go_upto_region 1 with fail
  first | go_region_with (go_at_call 67;(with_reducible refine(CA.out _).mono ?_);rintro e w5 ⟨rfl,h5⟩;have X5:=aA (X0.out.kept ((Below.refl _ _).drew.trans h5));clear h5;have n0:=X5.out.box.six.1;have n1:=X5.out.box.six.2.1;have n2:=X5.out.box.six.2.2.1;have n3:=X5.out.box.six.2.2.2.1;have n4:=X5.out.box.six.2.2.2.2.1;have n5:=X5.out.box.six.2.2.2.2.2;simp only [m7] at n1 n2 n3 n4 n5;obtain⟨k0,k1,k2,k3,k4,k5⟩:=X5.out.kid;have r0:=aB X5.out.res (i:=0) rfl;have r1:=aB X5.out.res (i:=1) rfl;have r2:=aB X5.out.res (i:=2) rfl;have r3:=aB X5.out.res (i:=3) rfl;have r4:=aB X5.out.res (i:=4) rfl;have r5:=aB X5.out.res (i:=5) rfl;have fz:=fun z=>aK X5.out.res z) | fail
  all_goals go_wp2
  all_goals exact gX X5.out.put.1 rfl rfl rfl ⟨rfl,X5.out.put.2⟩
 | true=>
  go_enter Tryz.func43,Tryz.ntmps43
  go_upto_region 1 with fail
  first | go_region_with (go_at_call 67;first |((with_reducible refine(CU.out _).mono ?_);rintro e w6 ⟨rfl,h6⟩;have X6:=aA (X5.out.kept h6);clear h6;have n0:=X6.out.box.six.1;have n1:=X6.out.box.six.2.1;have n2:=X6.out.box.six.2.2.1;have n3:=X6.out.box.six.2.2.2.1;have n4:=X6.out.box.six.2.2.2.2.1;have n5:=X6.out.box.six.2.2.2.2.2;simp only [m7] at n1 n2 n3 n4 n5;obtain⟨k0,k1,k2,k3,k4,k5⟩:=X6.out.kid;have r0:=aB X6.out.res (i:=0) rfl;have r1:=aB X6.out.res (i:=1) rfl;have r2:=aB X6.out.res (i:=2) rfl;have r3:=aB X6.out.res (i:=3) rfl;have r4:=aB X6.out.res (i:=4) rfl;have r5:=aB X6.out.res (i:=5) rfl;have fz:=fun z=>aK X6.out.res z) |((with_reducible refine(CA.out _).mono ?_);rintro e w5 ⟨rfl,h5⟩;have X5:=aA (X0.out.kept ((Below.refl _ _).drew.trans h5));clear h5;have n0:=X5.out.box.six.1;have n1:=X5.out.box.six.2.1;have n2:=X5.out.box.six.2.2.1;have n3:=X5.out.box.six.2.2.2.1;have n4:=X5.out.box.six.2.2.2.2.1;have n5:=X5.out.box.six.2.2.2.2.2;simp only [m7] at n1 n2 n3 n4 n5;obtain⟨k0,k1,k2,k3,k4,k5⟩:=X5.out.kid;have r0:=aB X5.out.res (i:=0) rfl;have r1:=aB X5.out.res (i:=1) rfl;have r2:=aB X5.out.res (i:=2) rfl;have r3:=aB X5.out.res (i:=3) rfl;have r4:=aB X5.out.res (i:=4) rfl;have r5:=aB X5.out.res (i:=5) rfl;have fz:=fun z=>aK X5.out.res z)) | fail
  all_goals go_wp2
  all_goals exact gX X6.out.put.1 rfl rfl rfl ⟨rfl,X6.out.put.2⟩
end
noncomputable def rlR (a b:Int) (x:Ps):Nat->Option Ps
 | 0=>if a=1/\b=1 then some x else none
 | 1=>if a=0/\b=-1/\kS x=true then some x else none
 | 2=>if b=0/\grs x=0 then some (.row []) else none
 | 3=>if isE x then some (.row []) else none
 | _+4=>none
noncomputable def rlB (l:List Ps):Nat->Option Ps
 | 0=>none
 | 1=>none
 | 2=>none
 | 3=>none
 | 4=>if l.any isE then some (mkB (l.filter fun x=>!isE x)) else none
 | _+5=>none
noncomputable def rlA (l:List Ps):Nat->Option Ps
 | 0=>none
 | 1=>none
 | 2=>none
 | 3=>none
 | 4=>none
 | 5=>if 2<=(l.filter isS).length then some (mkP (bV (unC ((l.filter isS).flatMap rsP)) false l)) else none
 | 6=>if (aW [] l).length=l.length then none else some (mkP (aW [] l))
 | _+7=>none
noncomputable def rl (j:Nat):Ps->Option Ps
 | .rep a b x=>rlR a b x j
 | .row l=>rlB l j
 | .alt l=>rlA l j
 | .lf _ _ _=>none
 | .grp _ _=>none
def rk(j:Nat):Int:=if j<4 then 9 else if j=4 then 5 else 6
theorem sZ{z:Ps}(h:Nd z)(e:z.kd=9):∃ a b x,z=.rep a b x:=by
 cases z with
 | lf k n rs=>have:=h.sh;simp only [shp] at this;simp only [Ps.kd] at e;omega
 | grp n y=>simp [Ps.kd] at e
 | rep a b x=>exact⟨a,b,x,rfl⟩
 | row l=>simp only [Ps.kd] at e;split at e <;> omega
 | alt l=>simp [Ps.kd] at e
theorem bL8{z:Ps}(h:Nd z)(e:z.kd=5):∃ l,z=.row l/\l≠[]:=by
 cases z with
 | lf k n rs=>have:=h.sh;simp only [shp] at this;simp only [Ps.kd] at e;omega
 | grp n y=>simp [Ps.kd] at e
 | rep a b x=>simp [Ps.kd] at e
 | row l=>exact⟨l,rfl,fun q=>by subst q;simp [Ps.kd] at e⟩
 | alt l=>simp [Ps.kd] at e
theorem aP8{z:Ps}(h:Nd z)(e:z.kd=6):∃ l,z=.alt l:=by
 cases z with
 | lf k n rs=>have:=h.sh;simp only [shp] at this;simp only [Ps.kd] at e;omega
 | grp n y=>simp [Ps.kd] at e
 | rep a b x=>simp [Ps.kd] at e
 | row l=>simp only [Ps.kd] at e;split at e <;> omega
 | alt l=>exact⟨l,rfl⟩
theorem iO{z:Ps}{j:Nat}(h:z.kd≠rk j):rl j z=none:=by
 unfold rk at h
 cases z with
 | lf k n rs=>rfl
 | grp n y=>rfl
 | rep a b x=>
  simp only [Ps.kd] at h
  match j,h with
  | 0,h=>simp at h
  | 1,h=>simp at h
  | 2,h=>simp at h
  | 3,h=>simp at h
  | j+4,_=>rfl
 | row l=>
  match j,h with
  | 0,_=>rfl
  | 1,_=>rfl
  | 2,_=>rfl
  | 3,_=>rfl
  | 4,h=>
   have:l=[]:=by
    cases l with
    | nil=>rfl
    | cons=>simp [Ps.kd] at h
   subst this
   rfl
  | j+5,_=>rfl
 | alt l=>
  simp only [Ps.kd] at h
  match j,h with
  | 0,_=>rfl
  | 1,_=>rfl
  | 2,_=>rfl
  | 3,_=>rfl
  | 4,_=>rfl
  | j+5,h=>simp at h
theorem aM0{z z':Ps}{j:Nat}(h:∀ i,i<j->rl i z=none)(e:rl j z=some z'):stp unC z=some z':=by
 cases z with
 | lf k n rs=>cases e
 | grp n y=>cases e
 | rep a b x=>
  have no:∀ {p:Prop} [Decidable p] {v:Ps},(if p then some v else none)=none->¬ p:=fun {p} _ {v} q hp=>by rw [if_pos hp] at q;cases q
  have yes:∀ {p:Prop} [Decidable p] {v:Ps},(if p then some v else none)=some z'->p/\v=z':=fun {p} _ {v} q=>by
   by_cases hp:p
   ·rw [if_pos hp] at q;cases q;exact⟨hp,rfl⟩
   ·rw [if_neg hp] at q;cases q
  simp only [stp]
  match j,h,e with
  | 0,h,e=>
   obtain⟨h1,rfl⟩:=yes e
   rw [if_pos h1]
  | 1,h,e=>
   obtain⟨h1,rfl⟩:=yes e
   rw [if_neg (no (h 0 (by omega))),if_pos h1]
  | 2,h,e=>
   obtain⟨h1,rfl⟩:=yes e
   rw [if_neg (no (h 0 (by omega))),if_neg (no (h 1 (by omega))),if_pos h1]
  | 3,h,e=>
   obtain⟨h1,rfl⟩:=yes e
   rw [if_neg (no (h 0 (by omega))),if_neg (no (h 1 (by omega))),if_neg (no (h 2 (by omega))),if_pos h1]
  | j+4,h,e=>cases e
 | row l=>
  match j,e with
  | 0,e=>cases e
  | 1,e=>cases e
  | 2,e=>cases e
  | 3,e=>cases e
  | 4,e=>exact e
  | j+5,e=>cases e
 | alt l=>
  match j,h,e with
  | 0,_,e=>cases e
  | 1,_,e=>cases e
  | 2,_,e=>cases e
  | 3,_,e=>cases e
  | 4,_,e=>cases e
  | 5,_,e=>
   simp only [rl,rlA] at e
   simp only [stp]
   by_cases h2:2<=(l.filter isS).length
   ·rw [if_pos h2] at e ⊢;exact e
   ·rw [if_neg h2] at e;cases e
  | 6,h,e=>
   have h5:=h 5 (by omega)
   simp only [rl,rlA] at e h5
   simp only [stp]
   by_cases h2:2<=(l.filter isS).length
   ·rw [if_pos h2] at h5;cases h5
   ·rw [if_neg h2];exact e
  | j+7,_,e=>cases e
theorem aY3{z:Ps}(h:∀ i,i<7->rl i z=none):stp unC z=none:=by
 cases z with
 | lf k n rs=>rfl
 | grp n y=>rfl
 | rep a b x=>
  have no:∀ {p:Prop} [Decidable p] {v:Ps},(if p then some v else none)=none->¬ p:=fun {p} _ {v} q hp=>by rw [if_pos hp] at q;cases q
  simp only [stp]
  rw [if_neg (no (h 0 (by omega))),if_neg (no (h 1 (by omega))),if_neg (no (h 2 (by omega))),if_neg (no (h 3 (by omega)))]
 | row l=>exact h 4 (by omega)
 | alt l=>
  have h5:=h 5 (by omega)
  have h6:=h 6 (by omega)
  simp only [rl,rlA] at h5 h6
  simp only [stp]
  by_cases h2:2<=(l.filter isS).length
  ·rw [if_pos h2] at h5;cases h5
  ·rw [if_neg h2]
   exact h6
structure NS(c f:Bool)(z:Ps)(t:Tr):Prop where
 er:er t=te z
 nd:Nd z
 sg:∀ s∈pfl z,dG c f s
 sz:z.sz<=2000
theorem NS.tsz{c f:Bool}{z:Ps}{t:Tr}(h:NS c f z t):t.sz<=2000:=by rw [<- mT,h.er,pJ];exact h.sz
theorem pK{t:Tr}{a b:Int}{x:Ps}(e:er t=te (.rep a b x)):t.f.k=9/\t.f.mn=a/\t.f.mx=b/\∃ u,t.ks=[u]/\er u=te x:=by
 rw [bY,te] at e
 injection e with e1 e2 e3 e4 e5 e6
 refine⟨e1,e3,e4,?_⟩
 generalize t.ks=ks at e6
 match ks,e6 with
 | [],e6=>simp at e6
 | [u],e6=>exact⟨u,rfl,by simpa using e6⟩
 | u :: v :: r,e6=>simp at e6
theorem bG5{t:Tr}{l:List Ps}(hl:l≠[])(e:er t=te (.row l)):t.f.k=5/\t.ks.map er=l.map te:=by
 rw [bY,te,if_neg (by cases l with | nil=>exact absurd rfl hl | cons=>simp),bP] at e
 injection e with e1 e2 e3 e4 e5 e6
 exact⟨e1,e6⟩
theorem aJ5{t:Tr}{l:List Ps}(e:er t=te (.alt l)):t.f.k=6/\t.ks.map er=l.map te:=by
 rw [bY,te,bP] at e
 injection e with e1 e2 e3 e4 e5 e6
 exact⟨e1,e6⟩
theorem yU:te (.row [])=.mk 1 0 0 0 [] []:=by rw [te];rfl
theorem aQ1{x:Ps}(hw:wf x):(x.kd==1)=isE x:=by
 cases x with
 | lf k n rs=>have:=kT hw;simp only [Ps.kd,isE,n7];omega
 | grp n y=>rfl
 | rep a b y=>rfl
 | row l=>cases l <;> rfl
 | alt l=>rfl
theorem bD1{u:Tr}{x:Ps}(hw:wf x)(e:er u=te x):nE u.f=kS x:=by
 have hk:u.f.k=x.kd:=by rw [<- dR,e,dS]
 cases x with
 | rep a b y=>
  obtain⟨h1,h2,h3,-⟩:=pK e
  unfold nE kS
  rw [h1,h2,h3]
  rfl
 | lf k n rs=>
  have h1:=kT hw
  have h2:(k==9)=false:=by rw [n7];omega
  unfold nE kS
  rw [hk]
  simp only [Ps.kd,h2,Bool.false_and]
 | grp n y=>unfold nE kS;rw [hk];rfl
 | row l=>unfold nE kS;rw [hk];cases l <;> rfl
 | alt l=>unfold nE kS;rw [hk];rfl
theorem RSays.of{base:Nat}{w:World}{o:Option Er}{t':Tr}{b:Bool}{e:Ending}{w':World}(h1:e=.returned (.tuple #[.agg #[.int .i64 t'.f.k,.int .i64 t'.f.n,.int .i64 t'.f.mn,.int .i64 t'.f.mx,.slice t'.f.rq t'.f.rs.length t'.f.rc,.slice t'.f.kq t'.f.kl t'.f.kc],.bool b]))(h2:Below w.heap.size w w')(hb:o.isSome=b)(ht:TA w' t')(hf:Foot (fun k=>base<=k) t')(he:∀ x,o=some x->er t'=x):RSays base w o e w':=
 ⟨t'.f,by rw [hb];exact h1,h2,fun x hx=>⟨t',rfl,ht,hf,he x hx⟩⟩
theorem vF{N:Nat->Prop}{t u:Tr}(h:Foot N t)(hu:u∈t.ks):Foot N u:=cB h hu
theorem aL3{c f:Bool}{z:Ps}{t:Tr}{V:World}{base:Nat}(h:NS c f z t)(ht:TA V t)(hf:Foot (fun k=>base<=k) t)(hk:z.kd=9):Calls Tryz.prog 42 #[.agg #[.int .i64 t.f.k,.int .i64 t.f.n,.int .i64 t.f.mn,.int .i64 t.f.mx,.slice t.f.rq t.f.rs.length t.f.rc,.slice t.f.kq t.f.kl t.f.kc]] V (RSays base V ((rl 0 z).map te)):=by
 obtain⟨a,b,x,rfl⟩:=sZ h.nd hk
 obtain⟨-,e2,e3,u,e4,e5⟩:=pK h.er
 have hu:u∈t.ks:=by rw [e4];simp
 refine(aD8 ht.tb e4).mono fun e w' ⟨h1,h2⟩=>RSays.of h1 h2 ?_ ((ht.kept h2).kid hu) (vF hf hu) fun y hy=>?_
 ·unfold bK1
  rw [e2,e3]
  simp only [rl,rlR]
  by_cases q:a=1/\b=1
  ·rw [if_pos q,q.1,q.2];rfl
  ·rw [if_neg q]
   simp only [Option.map_none,Option.isSome_none]
   symm
   simpa using q
 ·simp only [rl,rlR] at hy
  by_cases q:a=1/\b=1
  ·rw [if_pos q] at hy;cases hy;exact e5
  ·rw [if_neg q] at hy;cases hy
theorem aC2{c f:Bool}{z:Ps}{t:Tr}{V:World}{base:Nat}(h:NS c f z t)(ht:TA V t)(hf:Foot (fun k=>base<=k) t)(hk:z.kd=9):Calls Tryz.prog 43 #[.agg #[.int .i64 t.f.k,.int .i64 t.f.n,.int .i64 t.f.mn,.int .i64 t.f.mx,.slice t.f.rq t.f.rs.length t.f.rc,.slice t.f.kq t.f.kl t.f.kc]] V (RSays base V ((rl 1 z).map te)):=by
 obtain⟨a,b,x,rfl⟩:=sZ h.nd hk
 obtain⟨e1,e2,e3,u,e4,e5⟩:=pK h.er
 have hu:u∈t.ks:=by rw [e4];simp
 have hx:=bD1 (h.nd.kw x (by simp [Ps.kids])) e5
 refine(pH ht.tb e4).mono fun e w' ⟨h1,h2⟩=>RSays.of h1 h2 ?_ ((ht.kept h2).kid hu) (vF hf hu) fun y hy=>?_
 ·rw [hx]
  unfold nE
  rw [e1,e2,e3]
  simp only [rl,rlR]
  by_cases q:a=0/\b=-1/\kS x=true
  ·rw [if_pos q,q.1,q.2.1,q.2.2];rfl
  ·rw [if_neg q]
   simp only [Option.map_none,Option.isSome_none]
   symm
   simpa using q
 ·simp only [rl,rlR] at hy
  by_cases q:a=0/\b=-1/\kS x=true
  ·rw [if_pos q] at hy;cases hy;exact e5
  ·rw [if_neg q] at hy;cases hy
theorem aX5{c f:Bool}{z:Ps}{t:Tr}{V:World}{base:Nat}(h:NS c f z t)(ht:TA V t)(hk:z.kd=9):Calls Tryz.prog 44 #[.agg #[.int .i64 t.f.k,.int .i64 t.f.n,.int .i64 t.f.mn,.int .i64 t.f.mx,.slice t.f.rq t.f.rs.length t.f.rc,.slice t.f.kq t.f.kl t.f.kc]] V (RSays base V ((rl 2 z).map te)):=by
 obtain⟨a,b,x,rfl⟩:=sZ h.nd hk
 obtain⟨e1,e2,e3,u,e4,e5⟩:=pK h.er
 have hg:aN (pp [] t)=grs x:=by
  rw [rI,if_neg (by rw [e1];decide),e4]
  simp [bB0 x u e5 (h.nd.kw x (by simp [Ps.kids]))]
 have hl:¬ 2000<(pp [] t).length:=by rw [bL];have:=h.tsz;omega
 refine(aO2 ht.tb).mono fun e w' ⟨h1,h2⟩=>RSays.of (t':=.mk (gB 1) []) h1 h2 ?_ (tI _ _) (kN _ _) fun y hy=>?_
 ·rw [if_neg hl,hg,e3]
  simp only [rl,rlR]
  by_cases q:b=0/\grs x=0
  ·rw [if_pos q,q.1,q.2];rfl
  ·rw [if_neg q]
   simp only [Option.map_none,Option.isSome_none]
   symm
   simp only [Bool.and_eq_false_iff,n7]
   omega
 ·simp only [rl,rlR] at hy
  by_cases q:b=0/\grs x=0
  ·rw [if_pos q] at hy;cases hy;rw [yU,bY];rfl
  ·rw [if_neg q] at hy;cases hy
theorem sE{c f:Bool}{z:Ps}{t:Tr}{V:World}{base:Nat}(h:NS c f z t)(ht:TA V t)(hk:z.kd=9):Calls Tryz.prog 45 #[.agg #[.int .i64 t.f.k,.int .i64 t.f.n,.int .i64 t.f.mn,.int .i64 t.f.mx,.slice t.f.rq t.f.rs.length t.f.rc,.slice t.f.kq t.f.kl t.f.kc]] V (RSays base V ((rl 3 z).map te)):=by
 obtain⟨a,b,x,rfl⟩:=sZ h.nd hk
 obtain⟨-,-,-,u,e4,e5⟩:=pK h.er
 have hu:u.f.k=x.kd:=by rw [<- dR,e5,dS]
 refine(nH ht.tb e4).mono fun e w' ⟨h1,h2⟩=>RSays.of (t':=.mk (gB 1) []) h1 h2 ?_ (tI _ _) (kN _ _) fun y hy=>?_
 ·rw [hu,aQ1 (h.nd.kw x (by simp [Ps.kids]))]
  simp only [rl,rlR]
  cases isE x <;> rfl
 ·simp only [rl,rlR] at hy
  cases hx:isE x with
  | true=>rw [hx,if_pos rfl] at hy;cases hy;rw [yU,bY];rfl
  | false=>rw [hx,if_neg (by decide)] at hy;cases hy
theorem RSays.mono{base base':Nat}{w:World}{o o':Option Er}{e:Ending}{w':World}(h:RSays base' w o e w')(hb:base<=base')(ho:o=o'):RSays base w o' e w':=by
 subst ho
 obtain⟨f',h1,h2,h3⟩:=h
 exact⟨f',h1,h2,fun x hx=>by obtain⟨t',q1,q2,q3,q4⟩:=h3 x hx;exact⟨t',q1,q2,q3.mono fun k hk=>o0 hb hk,q4⟩⟩
theorem aF2(m:List Ps):gI 5 (m.map te) (.mk 1 0 0 0 [] [])=te (mkB m):=by
 match m with
 | []=>exact yU.symm
 | [x]=>rfl
 | x :: y :: r=>show Er.mk 5 0 0 0 [] _=te (.row _);rw [te,if_neg (by simp),bP];rfl
theorem rG{m:List Ps}(h:m≠[]):gI 6 (m.map te) (.mk 2 0 0 0 [] [])=te (mkP m):=by
 match m,h with
 | [x],_=>rfl
 | x :: y :: r,_=>show Er.mk 6 0 0 0 [] _=te (.alt _);rw [te,bP];rfl
theorem bC5:∀ (ks:List Tr) (l:List Ps),ks.map er=l.map te->(∀ x∈l,iB x=true\/x=.row [])->(∀ x∈l,wf x)->(ks.flatMap dX).map er=(l.filter fun x=>!isE x).map te/\ks.any vA=l.any isE:=by
 intro ks
 induction ks with
 | nil=>intro l e _ _;cases l with
  | nil=>exact⟨rfl,rfl⟩
  | cons=>simp at e
 | cons u ks ih=>
  intro l e hi hw
  cases l with
  | nil=>simp at e
  | cons x l=>
   rw [s6,s6] at e
   injection e with e1 e2
   obtain⟨h1,h2⟩:=ih l e2 (fun y hy=>hi y (m9 _ hy)) (fun y hy=>hw y (m9 _ hy))
   have hk:u.f.k=x.kd:=by rw [<- dR,e1,dS]
   have hE:=aQ1 (hw x (n9 ..))
   have hu:vA u=isE x:=by unfold vA;rw [hk];exact hE
   rw [aCC,aCC,h2,hu,aAN,aAK,h1,aAV]
   refine⟨?_,rfl⟩
   cases hx:isE x with
   | true=>
    rw [hx] at hE
    have:dX u=[]:=by unfold dX;rw [if_pos (by rw [hk];simpa using hE)]
    rw [this]
    simp
   | false=>
    rw [hx] at hE
    have h5:x.kd≠5:=by
     rcases hi x (n9 ..) with q | q
     ·cases x with
      | lf k n rs=>have:=kT (hw _ (n9 ..));simp only [Ps.kd];omega
      | grp n y=>simp [Ps.kd]
      | rep a b y=>simp [Ps.kd]
      | row l=>cases q
      | alt l=>cases q
     ·subst q;simp [Ps.kd]
    have:dX u=[u]:=by unfold dX;rw [if_neg (by rw [hk];simpa using hE),if_neg (by rw [hk];exact h5)]
    rw [this]
    simp [e1]
theorem tY{c f:Bool}{z:Ps}{t:Tr}{V:World}{base:Nat}(h:NS c f z t)(ht:TA V t)(hb:base<=V.heap.size)(hk:z.kd=5):Calls Tryz.prog 46 #[.agg #[.int .i64 t.f.k,.int .i64 t.f.n,.int .i64 t.f.mn,.int .i64 t.f.mx,.slice t.f.rq t.f.rs.length t.f.rc,.slice t.f.kq t.f.kl t.f.kc]] V (RSays base V ((rl 4 z).map te)):=by
 obtain⟨l,rfl,hl⟩:=bL8 h.nd hk
 obtain⟨-,e2⟩:=bG5 hl h.er
 obtain⟨h1,h2⟩:=bC5 t.ks l e2 h.nd.sh.2 h.nd.kw
 refine(oI ht h.tsz).mono fun e w' q=>q.mono hb ?_
 rw [h1,h2,aF2]
 simp only [rl,rlB]
 split <;> rfl
theorem aA4{m:List Ps}(h:∀ x∈m,kQ x=true)(hw:∀ x∈m,wf x):((m.map te).flatMap fun e=>if e.kd=6 then e.ks else [e])=m.map te:=by
 induction m with
 | nil=>rfl
 | cons x m ih=>
  rw [s6,aAN,ih (fun y hy=>h y (m9 _ hy)) (fun y hy=>hw y (m9 _ hy)),dS]
  have:x.kd≠6:=by
   have h1:=h x (n9 ..)
   cases x with
   | lf k n rs=>have:=kT (hw _ (n9 ..));simp only [Ps.kd];omega
   | grp n y=>simp [Ps.kd]
   | rep a b y=>simp [Ps.kd]
   | row l=>simp only [Ps.kd];split <;> omega
   | alt l=>cases h1
  rw [if_neg this]
  rfl
theorem aQ0{x:Ps}(hw:wf x):isS x=decide (x.kd=2):=by
 cases x with
 | lf k n rs=>simp only [isS,Ps.kd];rfl
 | grp n y=>rfl
 | rep a b y=>rfl
 | row l=>cases l <;> rfl
 | alt l=>rfl
theorem aW9:∀ (ks:List Tr) (l:List Ps),ks.map er=l.map te->(∀ x∈l,wf x)->(ks.filter fX).length=(l.filter isS).length/\((ks.filter fX).flatMap fun u=>u.f.rs)=(l.filter isS).flatMap rsP:=by
 intro ks
 induction ks with
 | nil=>intro l e _;cases l with
  | nil=>exact⟨rfl,rfl⟩
  | cons=>simp at e
 | cons u ks ih=>
  intro l e hw
  cases l with
  | nil=>simp at e
  | cons x l=>
   rw [s6,s6] at e
   injection e with e1 e2
   obtain⟨h1,h2⟩:=ih l e2 (fun y hy=>hw y (m9 _ hy))
   have hs:fX u=isS x:=by unfold fX;rw [aQ0 (hw x (n9 ..)),<- dR,e1,dS]
   rw [aAV,aAV,hs]
   cases hx:isS x with
   | true=>
    rw [if_pos rfl,if_pos rfl,o7,o7,h1,aAN,aAN,h2]
    refine⟨rfl,?_⟩
    congr 1
    obtain⟨n,rs,rfl⟩:=xZ hx
    rw [<- yF,e1,te]
    rfl
   | false=>rw [if_neg (by decide),if_neg (by decide)];exact⟨h1,h2⟩
theorem aX3(u:List (Int×Int)):∀ (l:List Ps) (s:Bool),(∀ x∈l,wf x)->(∀ n rs,.lf 2 n rs∈l->n=0)->mB u s (l.map te)=(bV u s l).map te:=by
 intro l
 induction l with
 | nil=>intro s _ _;rfl
 | cons x l ih=>
  intro s hw h0
  have ih':=fun s=>ih s (fun y hy=>hw y (m9 _ hy)) (fun n rs hm=>h0 n rs (m9 _ hm))
  rw [s6,mB,bV,dS]
  have hs:=aQ0 (hw x (n9 ..))
  by_cases hk:x.kd=2
  ·have hx:isS x=true:=by rw [hs];simpa using hk
   rw [if_pos hk,if_pos hx]
   cases s with
   | true=>rw [if_pos rfl,if_pos rfl];exact ih' true
   | false=>
    rw [if_neg (by decide),if_neg (by decide),s6,ih' true]
    congr 1
    obtain⟨n,rs,rfl⟩:=xZ hx
    rw [h0 n rs (n9 ..),te,te]
    rfl
  ·have hx:¬ isS x=true:=by rw [hs];simpa using hk
   rw [if_neg hk,if_neg hx,s6,ih' s]
theorem aN4{l:List Ps}{k n:Int}{rs:List (Int×Int)}(h:.lf k n rs∈l):Sgn.lf k n rs∈pfl (.alt l):=by rw [pfl];exact kE h (by rw [pfl];simp)
theorem aC3{c f:Bool}{z:Ps}{t:Tr}{V:World}{base:Nat}(h:NS c f z t)(ht:TA V t)(hb:base<=V.heap.size)(hk:z.kd=6):Calls Tryz.prog 47 #[.agg #[.int .i64 t.f.k,.int .i64 t.f.n,.int .i64 t.f.mn,.int .i64 t.f.mx,.slice t.f.rq t.f.rs.length t.f.rc,.slice t.f.kq t.f.kl t.f.kc]] V (RSays base V ((rl 5 z).map te)):=by
 obtain⟨l,rfl⟩:=aP8 h.nd hk
 obtain⟨-,e2⟩:=aJ5 h.er
 obtain⟨h1,h2⟩:=aW9 t.ks l e2 h.nd.kw
 have hset:∀ n rs,.lf 2 n rs∈l->lC c f rs/\n=0:=fun n rs hm=>(h.sg _ (aN4 hm)).1 rfl
 have hrl:∀ u∈t.ks,u.f.rs.length<=600000:=fun u hu=>by
  have hm:er u∈l.map te:=by rw [<- e2];exact s4.2 ⟨u,hu,rfl⟩
  obtain⟨x,hx,ex⟩:=s4.1 hm
  rw [<- yF,<- ex]
  cases x with
  | lf k n rs=>
   rw [te]
   show rs.length<=_
   by_cases hk2:k=2
   ·subst hk2
    exact mA (hset n rs hx).1.1
   ·rw [(h.sg _ (aN4 hx)).2.1 hk2];simp
  | grp n y=>rw [te];simp [Er.rgs]
  | rep a b y=>rw [te];simp [Er.rgs]
  | row m=>rw [te];split <;> simp [Er.rgs]
  | alt m=>rw [te];simp [Er.rgs]
 refine(rR ht h.tsz hrl).mono fun e w' q=>q.mono hb ?_
 unfold aN6
 rw [h1,h2,e2]
 simp only [rl,rlA]
 by_cases hn:2<=(l.filter isS).length
 ·rw [if_pos hn,if_pos hn,aX3 _ l false h.nd.kw (fun n rs hm=>(hset n rs hm).2)]
  have hmem:∀ y∈bV (unC ((l.filter isS).flatMap rsP)) false l,wf y/\kQ y=true:=fun y hy=>by
   rcases fP _ l false y hy with rfl | hy
   ·exact⟨by rw [wf];exact .inl rfl,rfl⟩
   ·exact⟨h.nd.kw y hy.1,h.nd.sh.2 y hy.1⟩
  rw [aA4 (fun y hy=>(hmem y hy).2) (fun y hy=>(hmem y hy).1),rG (tW _ l fun e=>by rw [e] at hn;simp at hn)]
  rfl
 ·rw [if_neg hn,if_neg hn];rfl
theorem bG1:∀ (ks:List Tr) (l:List Ps) (A:List Tr) (B:List Ps),ks.map er=l.map te->A.map er=B.map te->(∀ x∈l,wf x)->(∀ x∈B,wf x)->(twT A ks).map er=(aW B l).map te:=by
 intro ks
 induction ks with
 | nil=>intro l A B e hA _ _;cases l with
  | nil=>rw [twT,aW];exact hA
  | cons=>simp at e
 | cons u ks ih=>
  intro l A B e hA hw hB
  cases l with
  | nil=>simp at e
  | cons x l=>
   rw [s6,s6] at e
   injection e with e1 e2
   have hx:=hw x (n9 ..)
   have hw':∀ y∈l,wf y:=fun y hy=>hw y (m9 _ hy)
   have hiff:A.any (twB u)=true↔x∈B:=by
    rw [aAX]
    constructor
    ·rintro ⟨v,hv,hs⟩
     have he:=(eU _ _).1 hs
     have hm:er v∈B.map te:=by rw [<- hA];exact s4.2 ⟨v,hv,rfl⟩
     obtain⟨y,hy,ey⟩:=s4.1 hm
     have:x=y:=bG7 x y hx (hB y hy) (by rw [<- e1,he,<- ey])
     subst this
     exact hy
    ·intro hm
     have hm2:te x∈A.map er:=by rw [hA];exact s4.2 ⟨x,hm,rfl⟩
     obtain⟨v,hv,ev⟩:=s4.1 hm2
     exact⟨v,hv,(eU _ _).2 (e1.trans ev.symm)⟩
   rw [twT,aW]
   by_cases hm:x∈B
   ·rw [if_pos (hiff.2 hm),if_pos hm];exact ih l A B e2 hA hw' hB
   ·rw [if_neg (fun q=>hm (hiff.1 q)),if_neg hm]
    exact ih l (A++[u]) (B++[x]) e2 (by rw [aAK,aAK,hA];simp [e1]) hw' (fun y hy=>by
     rcases o3.1 hy with q | q
     ·exact hB y q
     ·simp at q;subst q;exact hx)
theorem wT{c f:Bool}{z:Ps}{t:Tr}{V:World}{base:Nat}(h:NS c f z t)(ht:TA V t)(hb:base<=V.heap.size)(hk:z.kd=6):Calls Tryz.prog 48 #[.agg #[.int .i64 t.f.k,.int .i64 t.f.n,.int .i64 t.f.mn,.int .i64 t.f.mx,.slice t.f.rq t.f.rs.length t.f.rc,.slice t.f.kq t.f.kl t.f.kc]] V (RSays base V ((rl 6 z).map te)):=by
 obtain⟨l,rfl⟩:=aP8 h.nd hk
 obtain⟨-,e2⟩:=aJ5 h.er
 have ht2:=bG1 t.ks l [] [] e2 rfl h.nd.kw (fun _ q=>by cases q)
 have hl1:(twT [] t.ks).length=(aW [] l).length:=by have:=congrArg List.length ht2;simpa using this
 have hl2:t.ks.length=l.length:=by have:=congrArg List.length e2;simpa using this
 have hmem:∀ y∈aW [] l,y∈l:=fun y hy=>((cX l [] y).1 hy).resolve_left (fun q=>by cases q)
 refine(pA ht h.tsz).mono fun e w' q=>q.mono hb ?_
 unfold twO
 rw [hl1,hl2,wC,ht2,aA4 (fun y hy=>h.nd.sh.2 y (hmem y hy)) (fun y hy=>h.nd.kw y (hmem y hy))]
 simp only [rl,rlA]
 by_cases hn:(aW [] l).length=l.length
 ·rw [if_pos hn,if_pos hn];rfl
 ·rw [if_neg hn,if_neg hn,rG (pG fun e=>by have:=h.nd.sh.1;rw [e] at this;simp at this)];rfl
theorem aZ3(l:List Ps):pfl (mkB l)=eK l:=uS l
theorem bH2{c f:Bool}{z z':Ps}(h:Nd z)(hs:∀ s∈pfl z,dG c f s)(e:stp unC z=some z'):∀ s∈pfl z',dG c f s:=by
 have hno:∀ s∈pfl (.row []),dG c f s:=fun s hs=>by rw [pfl,eK] at hs;cases hs
 cases z with
 | lf k n rs=>cases e
 | grp n x=>cases e
 | rep a b x=>
  have hx:∀ s∈pfl x,dG c f s:=fun s hq=>hs s (by rw [pfl];simp [hq])
  simp only [stp] at e
  by_cases h1:a=1/\b=1
  ·rw [if_pos h1] at e;cases e;exact hx
  rw [if_neg h1] at e
  by_cases h2:a=0/\b=-1/\kS x=true
  ·rw [if_pos h2] at e;cases e;exact hx
  rw [if_neg h2] at e
  by_cases h3:b=0/\grs x=0
  ·rw [if_pos h3] at e;cases e;exact hno
  rw [if_neg h3] at e
  by_cases h4:isE x=true
  ·rw [if_pos h4] at e;cases e;exact hno
  rw [if_neg h4] at e
  cases e
 | row l=>
  simp only [stp] at e
  by_cases ha:l.any isE=true
  ·rw [if_pos ha] at e;cases e
   intro s q
   rw [aZ3] at q
   obtain⟨y,hy,q⟩:=(fB _ _).1 q
   exact hs s (by rw [pfl];exact(fB _ _).2 ⟨y,(aAF.1 hy).1,q⟩)
  ·rw [if_neg ha] at e;cases e
 | alt l=>
  have hP:∀ m:List Ps,(∀ y∈m,∀ s∈pfl y,dG c f s)->∀ s∈pfl (mkP m),dG c f s:=by
   intro m hm s q
   match m,hm,q with
   | [],_,q=>rw [show mkP []=.alt [] from rfl,pfl,lH] at q;cases q
   | [x],hm,q=>exact hm x (by simp) s q
   | x :: y :: r,hm,q=>
    rw [show mkP (x :: y :: r)=.alt (x :: y :: r) from rfl,pfl] at q
    rcases mI _ _ q with rfl | ⟨v,hv,q⟩
    ·trivial
    ·exact hm v hv s q
  have hl:∀ y∈l,∀ s∈pfl y,dG c f s:=fun y hy s q=>hs s (by rw [pfl];exact kE hy q)
  simp only [stp] at e
  by_cases h2:2<=(l.filter isS).length
  ·rw [if_pos h2] at e;cases e
   refine hP _ fun y hy=>?_
   rcases fP _ l false y hy with rfl | hy
   ·intro s q
    rw [pfl] at q
    simp at q
    subst q
    exact wS fun x hx=>⟨(aAF.1 hx).2,hl x (aAF.1 hx).1⟩
   ·exact hl y hy.1
  ·rw [if_neg h2] at e
   by_cases ht:(aW [] l).length=l.length
   ·rw [if_pos ht] at e;cases e
   ·rw [if_neg ht] at e;cases e
    exact hP _ fun y hy=>hl y (((cX l [] y).1 hy).resolve_left (fun q=>by cases q))
theorem sX{t:Tr}{x:Ps}(e:er t=te x):t.ks.map er=x.kids.map te:=by
 rw [bY] at e
 cases x with
 | lf k n rs=>rw [te] at e;injection e
 | grp n y=>rw [te] at e;injection e
 | rep a b y=>rw [te] at e;injection e
 | row l=>
  rw [te] at e
  by_cases h:l.isEmpty=true
  ·rw [if_pos h] at e;rw [List.isEmpty_iff.1 h];injection e
  ·rw [if_neg h,bP] at e;injection e
 | alt l=>rw [te,bP] at e;injection e
theorem bA5{t:Tr}{x:Ps}(e:er t=te x):Er.mk t.f.k t.f.n t.f.mn t.f.mx t.f.rs (x.kids.map fun y=>te (sim unC y))=te (gL unC x):=by
 rw [bY] at e
 cases x with
 | lf k n rs=>rw [te] at e;injection e with e1 e2 e3 e4 e5 e6;rw [e1,e2,e3,e4,e5];show _=te (.lf k n rs);rw [te];rfl
 | grp n y=>rw [te] at e;injection e with e1 e2 e3 e4 e5 e6;rw [e1,e2,e3,e4,e5];show _=te (.grp n _);rw [te];rfl
 | rep a b y=>rw [te] at e;injection e with e1 e2 e3 e4 e5 e6;rw [e1,e2,e3,e4,e5];show _=te (.rep a b _);rw [te];rfl
 | row l=>
  rw [te] at e
  by_cases h:l.isEmpty=true
  ·rw [if_pos h] at e;injection e with e1 e2 e3 e4 e5 e6;rw [e1,e2,e3,e4,e5,List.isEmpty_iff.1 h];show _=te (.row []);rw [yU];rfl
  ·rw [if_neg h,bP] at e
   injection e with e1 e2 e3 e4 e5 e6
   rw [e1,e2,e3,e4,e5]
   show _=te (.row (l.map (sim unC)))
   rw [te,if_neg (by simpa using h),bP,List.map_map]
   rfl
 | alt l=>
  rw [te,bP] at e
  injection e with e1 e2 e3 e4 e5 e6
  rw [e1,e2,e3,e4,e5]
  show _=te (.alt (l.map (sim unC)))
  rw [te,bP,List.map_map]
  rfl
theorem oQ{x y:Ps}(h:y∈x.kids){s:Sgn}(hs:s∈pfl y):s∈pfl x:=by
 cases x with
 | lf k n rs=>cases h
 | grp n k=>simp [Ps.kids] at h;subst h;rw [pfl];simp [hs]
 | rep a b k=>simp [Ps.kids] at h;subst h;rw [pfl];simp [hs]
 | row l=>rw [pfl];exact(fB l s).2 ⟨y,h,hs⟩
 | alt l=>rw [pfl];exact kE h hs
theorem aK8{c f:Bool}{x:Ps}(h:∀ s∈pfl x,dG c f s):∀ s∈pfl (sim unC x),dG c f s:=
 aK9 unC (P:=dG c f) True.intro (fun _ hl _=>wS hl) x h
theorem bA7{c f:Bool}{x:Ps}(h:∀ s∈pfl x,dG c f s):∀ s∈pfl (gL unC x),dG c f s:=by
 have hk:∀ y∈x.kids,∀ s∈pfl (sim unC y),dG c f s:=fun y hy=>aK8 fun s hs=>h s (oQ hy hs)
 cases x with
 | lf k n rs=>exact h
 | grp n y=>
  intro s hs
  simp only [gL] at hs
  rw [pfl] at hs
  rcases u0.1 hs with rfl | hs
  ·trivial
  ·rcases o3.1 hs with hs | hs
   ·exact hk y (by simp [Ps.kids]) s hs
   ·simp at hs;subst hs;trivial
 | rep a b y=>
  intro s hs
  simp only [gL] at hs
  rw [pfl] at hs
  rcases o3.1 hs with hs | hs
  ·exact hk y (by simp [Ps.kids]) s hs
  ·simp at hs;subst hs;exact h _ (by rw [pfl];simp)
 | row l=>
  intro s hs
  simp only [gL] at hs
  rw [pfl] at hs
  obtain⟨v,hv,hs⟩:=(fB _ _).1 hs
  obtain⟨y,hy,rfl⟩:=s4.1 hv
  exact hk y hy s hs
 | alt l=>
  intro s hs
  simp only [gL] at hs
  rw [pfl] at hs
  rcases mI _ _ hs with rfl | ⟨v,hv,hs⟩
  ·trivial
  ·obtain⟨y,hy,rfl⟩:=s4.1 hv
   exact hk y hy s hs
theorem bA6(x:Ps):(gL unC x).sz<=x.sz:=by
 have hl:∀ l:List Ps,bU (l.map (sim unC))<=bU l:=by
  intro l
  induction l with
  | nil=>exact t8 _
  | cons y l ih=>rw [s6,bU,bU];have:=rZ unC y;omega
 cases x with
 | lf k n rs=>exact t8 _
 | grp n y=>simp only [gL];rw [Ps.sz,Ps.sz];have:=rZ unC y;omega
 | rep a b y=>simp only [gL];rw [Ps.sz,Ps.sz];have:=rZ unC y;omega
 | row l=>simp only [gL];rw [Ps.sz,Ps.sz];have:=hl l;omega
 | alt l=>simp only [gL];rw [Ps.sz,Ps.sz];have:=hl l;omega
def RL(W:World)(rb:Nat):Prop:=W.heap[rb]?=some (.cells #[.int .i64 9,.func (.func 42) #[] #[],.int .i64 9,.func (.func 43) #[] #[],.int .i64 9,.func (.func 44) #[] #[],.int .i64 9,.func (.func 45) #[] #[],.int .i64 5,.func (.func 46) #[] #[],.int .i64 6,.func (.func 47) #[] #[],.int .i64 6,.func (.func 48) #[] #[]] 91 (0,0))
structure SpS(w:World)(s0 b bz rb:Nat)(f:Fl)(nk old:List Tr)(W:World):Prop where
 box:BoxN W b f
 res:W.heap[bz]?=some (.cells #[.int .i64 0,.int .i64 0,.int .i64 0,.int .i64 0,.slice none 0 0,.slice none 0 0] 25 (0,0))
 rr:RR s0 W (.slice f.rq f.rs.length f.rc) f.rs
 bel:Below w.heap.size w W
 rul:RL W rb
 row:(nk++old=[]/\f.kq=none/\f.kc=0)\/∃ g,f.kq=some ⟨g,0,none⟩/\b<g/\bz<g/\KR W g (nk++old)/\∀ u∈nk,Foot (fun k=>g<k) u
 new:∀ u∈nk,TA W u
theorem SpS.kept{w W W':World}{s0 b bz rb:Nat}{f:Fl}{nk old:List Tr}(h:SpS w s0 b bz rb f nk old W)(hb:Below W.heap.size W W'):SpS w s0 b bz rb f nk old W':=
 ⟨(hb.block _ (aC h.box)).trans h.box,(hb.block _ (aC h.res)).trans h.res,h.rr.kept hb,aG h.bel hb lz9,(hb.block _ (aC h.rul)).trans h.rul,
  h.row.imp id fun⟨g,h1,h2,h3,h4,h5⟩=>⟨g,h1,h2,h3,h4.kept hb,h5⟩,fun u hu=>(h.new u hu).kept hb⟩
theorem SpS.at{w W:World}{s0 b bz rb:Nat}{f:Fl}{nk old:List Tr}(h:SpS w s0 b bz rb f nk old W)(ho:old≠[]):∃ g,f.kq=some ⟨g,0,none⟩/\b<g/\bz<g/\KR W g (nk++old)/\∀ u∈nk,Foot (fun k=>g<k) u:=by
 rcases h.row with⟨h1,-⟩ | h1
 ·exact absurd (List.append_eq_nil_iff.1 h1).2 ho
 ·exact h1
theorem SpS.next{w W:World}{s0 b bz rb g j:Nat}{f:Fl}{nk old:List Tr}{t:Tr}(h:SpS w s0 b bz rb f nk old W)(hg:f.kq=some ⟨g,0,none⟩)(hj:nk.length=j)(ho:old≠[])(hrb:rb<w.heap.size)(hwg:w.heap.size<=b)(ht:TA W t)(hf:Foot (fun k=>g<k) t) :
  SpS w s0 b bz rb f (nk++[t]) old.tail (cD W g (j*6) t.f):=by
 obtain⟨g',e,hb,hz,hr,hn⟩:=h.at ho
 rw [hg] at e
 cases e
 have F:=dP W g (j*6) t.f
 have hl:j<(nk++old).length:=by
  rw [o5]
  cases old with
  | nil=>exact absurd rfl ho
  | cons x r=>simp;omega
 obtain⟨cur,hcur⟩:=hr.blk
 have K:CKeep (fun k=>g<k) W (cD W g (j*6) t.f):=F.ckeep (fun k e z=>by omega)
 refine⟨(F.block _ (aC h.box) (by omega)).trans h.box,(F.block _ (aC h.res) (by omega)).trans h.res,h.rr.fr F (fun k hk e=>?_),bB h.bel F lz9 (fun k e=>by omega),(F.block _ (aC h.rul) (by omega)).trans h.rul,.inr ⟨g,hg,hb,hz,?_,fun u hu=>?_⟩,fun u hu=>?_⟩
 ·subst e
  exact dU h.rr hcur (by decide) hk
 ·have:=hr.set hl t
  cases old with
  | nil=>exact absurd rfl ho
  | cons x r=>
   rw [aBU _ _ (by omega),hj,aBF,i8] at this
   rw [r8]
   exact this
 ·rcases o3.1 hu with q | q
  ·exact hn u q
  ·simp at q;subst q;exact hf
 ·rcases o3.1 hu with q | q
  ·exact(h.new u q).ckN (hn u q) K
  ·simp at q
   subst q
   exact ht.ckN hf K
theorem SpS.tree{w W:World}{s0 b bz rb:Nat}{f:Fl}{nk:List Tr}(h:SpS w s0 b bz rb f nk [] W)(hs:bz<s0)(hl:f.kl=nk.length)(hc:nk.length<=f.kc)(hm:f.kc<=maxLen)(hF:Fit f.rs)(hn:f.rs.length+3<=8796093022208) :
  TA W (.mk f nk)/\Foot (fun k=>bz<k) (.mk f nk):=by
 have hrow:=h.row
 rw [t9] at hrow
 constructor
 ·refine(aI _).2 ⟨⟨h.rr.arg,?_,hF,hn,NO.rows h.rr (fun a e _=>?_)⟩,(aT _).2 fun u hu=>h.new u hu⟩
  ·show ArgK W (.slice f.kq f.kl f.kc) nk
   rcases hrow with⟨h1,h2,h3⟩ | ⟨g,h1,-,-,h2,-⟩
   ·subst h1
    rw [h2,hl]
    exact .inl ⟨none,f.kc,rfl,rfl,fun _=>h3⟩
   ·rw [h1,hl]
    exact h2.arg hc hm
  ·rcases hrow with⟨-,h2,-⟩ | ⟨g,h1,-,-,h2,-⟩
   ·rw [h2] at e;cases e
   ·rw [h1] at e;cases e;exact h2.blk
 ·refine(aI _).2 ⟨⟨fun a e hz=>?_,fun a e hz=>?_⟩,(aT _).2 fun u hu=>?_⟩
  ·have e':f.rq=some a:=e
   have:=(aF h.rr (g:=a.block) (by rw [e'];rfl)).1
   omega
  ·have e':f.kq=some a:=e
   rcases hrow with⟨-,h2,-⟩ | ⟨g,h1,-,h3,-,-⟩
   ·rw [h2] at e';cases e'
   ·rw [h1] at e';cases e';exact h3
  ·rcases hrow with⟨h1,-,-⟩ | ⟨g,-,-,h3,-,h4⟩
   ·have hu':u∈nk:=hu
    rw [h1] at hu';cases hu'
   ·exact(h4 u hu).mono fun k hk=>by omega
structure SI(w:World)(b bz rb:Nat)(c f:Bool)(fin:Ps)(z:Ps)(t:Tr)(W:World):Prop where
 box:BoxN W b t.f
 res:W.heap[bz]?=some (.cells #[.int .i64 0,.int .i64 0,.int .i64 0,.int .i64 0,.slice none 0 0,.slice none 0 0] 25 (0,0))
 bel:Below w.heap.size w W
 rul:RL W rb
 ta:TA W t
 ft:Foot (fun k=>bz<k) t
 ns:NS c f z t
 fin:nf unC z=fin
theorem SI.kept{w W W':World}{b bz rb:Nat}{c f:Bool}{fin z:Ps}{t:Tr}(h:SI w b bz rb c f fin z t W)(hb:Below W.heap.size W W'):SI w b bz rb c f fin z t W':=
 ⟨(hb.block _ (aC h.box)).trans h.box,(hb.block _ (aC h.res)).trans h.res,aG h.bel hb lz9,(hb.block _ (aC h.rul)).trans h.rul,h.ta.kept hb,h.ft,h.ns,h.fin⟩
theorem SI.step{w W:World}{b bz rb j:Nat}{c f:Bool}{fin z z':Ps}{t t':Tr}(h:SI w b bz rb c f fin z t W)(h0:∀ i,i<j->rl i z=none)(h1:rl j z=some z')(ht:TA W t')(hf:Foot (fun k=>bz<k) t')(he:er t'=te z')(hbz:b<bz)(hrb:rb<w.heap.size)(hwb:w.heap.size<=b):SI w b bz rb c f fin z' t' (cD W b 0 t'.f)/\z'.sz<z.sz:=by
 have hs:=aM0 h0 h1
 obtain⟨s1,s2,s3⟩:=aK0 unC h.ns.nd hs
 have F:=dP W b 0 t'.f
 refine⟨⟨?_,(F.block _ (aC h.res) (by omega)).trans h.res,bB h.bel F lz9 (fun k e=>by omega),(F.block _ (aC h.rul) (by omega)).trans h.rul,ht.ckN hf (F.ckeep (fun k e z=>by omega)),hf,⟨he,s1,bH2 h.ns.nd h.ns.sg hs,by have:=h.ns.sz;omega⟩,by rw [s2];exact h.fin⟩,s3⟩
 have hb:=h.box
 unfold cD
 exact aJ (aJ (aJ (aJ (aJ (aJ hb 0 _) 1 _) 2 _) 3 _) 4 _) 5 _
theorem vH{P:Tr->Prop}(t:Tr):∀ p,(∀ z∈pp p t,P z.2)->bF P t:=by
 refine Tr.ind (P:=fun t=>∀ p,(∀ z∈pp p t,P z.2)->bF P t) (fun t ih=>?_) t
 intro p h
 rw [bX] at h
 have hps:∀ (ks:List Tr) (i:Nat),(∀ z∈pps t p i ks,P z.2)->∀ u∈ks,∃ q,∀ z∈pp q u,P z.2:=by
  intro ks
  induction ks with
  | nil=>intro i _ u hu;cases hu
  | cons v ks ih2=>
   intro i h u hu
   rw [aX] at h
   rcases u0.1 hu with rfl | hu
   ·exact⟨_,fun z hz=>h z (o3.2 (.inl hz))⟩
   ·exact ih2 (i+1) (fun z hz=>h z (o3.2 (.inr hz))) u hu
 refine(aI _).2 ⟨h (p,t) (n9 ..),(aT _).2 fun u hu=>?_⟩
 obtain⟨q,hq⟩:=hps t.ks 0 (fun z hz=>h z (m9 _ hz)) u hu
 exact ih u hu q hq
theorem aI1{H:Gh}(hk:Gk H)(hu:H.L.u=uB H.Z)(hn:bF (fun v=>v.f.k=8->1<=v.f.n) H.t):bF (fun v=>v.f.k=8->H.L.u v.f.n.toNat=true) H.t:=by
 refine vH H.t [] fun z hz h8=>?_
 rw [hu]
 unfold uB
 rw [aAX]
 rw [<- hk.mp] at hz
 obtain⟨y,hy,rfl⟩:=s4.1 hz
 have h1:=((aI _).1 (fD H.t [] hn y.1 (by rw [<- hk.mp];exact s4.2 ⟨y,hy,rfl⟩))).1 h8
 exact⟨y,hy,by simp [h8];omega⟩
def Lx(L:Ln):Ln:=⟨L.s,L.c,L.o,fun _=>true⟩
theorem vJ{H:Gh}(hk:Gk H)(hu:H.L.u=uB H.Z)(hn:bF (fun v=>v.f.k=8->1<=v.f.n) H.t)(a j:Nat):(∃ y,Mt H.L H.t (cf0 a) y/\y.p=j) ↔ ∃ y,Mt (Lx H.L) H.t (cf0 a) y/\y.p=j:=
 aS4 (show SameL H.L.u H.L (Lx H.L) from ⟨rfl,rfl,rfl,fun _ h=>h⟩) (aI1 hk hu hn) a j
theorem vZ{c o:Bool}{x:Ps}(h:∀ s∈pfl x,dG c o s):∀ t:Tr,er t=te x->bF (fun v=>v.f.k=8->1<=v.f.n) t:=by
 refine Ps.ind (P:=fun x=>(∀ s∈pfl x,dG c o s)->∀ t:Tr,er t=te x->bF (fun v=>v.f.k=8->1<=v.f.n) t) (fun x ih=>?_) x h
 intro h t e
 refine(aI _).2 ⟨fun h8=>?_,(aT _).2 fun u hu=>?_⟩
 ·rw [bY] at e
  cases x with
  | lf k n rs=>
   rw [te] at e
   injection e with e1 e2
   rw [e2]
   exact((h (.lf k n rs) (by rw [pfl];simp)).2.2.1 (by rw [<- e1];exact h8)).1
  | grp n y=>rw [te] at e;injection e with e1;rw [h8] at e1;omega
  | rep a b y=>rw [te] at e;injection e with e1;rw [h8] at e1;omega
  | row l=>rw [te] at e;split at e <;> (injection e with e1;rw [h8] at e1;omega)
  | alt l=>rw [te] at e;injection e with e1;rw [h8] at e1;omega
 ·have hm:er u∈x.kids.map te:=by rw [<- sX e];exact s4.2 ⟨u,hu,rfl⟩
  obtain⟨y,hy,ey⟩:=s4.1 hm
  exact ih y hy (fun s hs=>h s (oQ hy hs)) u ey.symm
theorem aC4{Ha Hb:Gh}{c o:Bool}{x:Ps}(hx:PsOK c o x)(ka:Gk Ha)(kb:Gk Hb)(ua:Ha.L.u=uB Ha.Z)(ub:Hb.L.u=uB Hb.Z)(ea:er Ha.t=te x)(eb:er Hb.t=te (sim unC x))(hs:Ha.L.s=Hb.L.s)(hc:Ha.L.c=Hb.L.c)(ho:Ha.L.o=Hb.L.o)(a j:Nat) :
  (∃ y,Mt Ha.L Ha.t (cf0 a) y/\y.p=j) ↔ ∃ y,Mt Hb.L Hb.t (cf0 a) y/\y.p=j:=by
 have hL:Lx Ha.L=Lx Hb.L:=by unfold Lx;rw [hs,hc,ho]
 have hb:∀ a b,Sgn.rp a b∈pfl x->0<=a/\(b=-1\/a<=b):=fun a b q=>by
  have:eX a b=true:=hx.sg _ q
  unfold eX at this
  simp at this
  omega
 rw [vJ ka ua (vZ hx.sg Ha.t ea) a j,vJ kb ub (vZ hx.sim.sg Hb.t eb) a j,hL]
 have key:∀ y,Mt (Lx Hb.L) Ha.t (cf0 a) y↔Mt (Lx Hb.L) Hb.t (cf0 a) y:=fun y=>by
  rw [bE6 Ha.t (tp x) (by rw [bF0];exact ea) _ _,<- bH9 unC hun x hb _ _,bE6 (tp (sim unC x)) Hb.t (by rw [bF0];exact eb.symm) _ _]
 exact⟨fun⟨y,h1,h2⟩=>⟨y,(key y).1 h1,h2⟩,fun⟨y,h1,h2⟩=>⟨y,(key y).2 h1,h2⟩⟩
theorem aC5:∀ (l m:List Nat),l.Pairwise (· < ·)->m.Pairwise (· < ·)->(∀ j,j∈l↔j∈m)->l=m:=by
 intro l
 induction l with
 | nil=>intro m _ _ h;cases m with
  | nil=>rfl
  | cons y m=>exact absurd ((h y).2 (n9 ..)) (by simp)
 | cons x l ih=>
  intro m hl hm h
  cases m with
  | nil=>exact absurd ((h x).1 (n9 ..)) (by simp)
  | cons y m=>
   have hl':=aAT.1 hl
   have hm':=aAT.1 hm
   have hxy:x=y:=by
    rcases u0.1 ((h x).1 (n9 ..)) with q | q
    ·exact q
    ·rcases u0.1 ((h y).2 (n9 ..)) with r | r
     ·exact r.symm
     ·have h1:=hm'.1 x q
      have h2:=hl'.1 y r
      omega
   subst hxy
   rw [ih m hl'.2 hm'.2 fun j=>?_]
   constructor
   ·intro q
    rcases u0.1 ((h j).1 (m9 _ q)) with r | r
    ·have:=hl'.1 j q;omega
    ·exact r
   ·intro q
    rcases u0.1 ((h j).2 (m9 _ q)) with r | r
    ·have:=hm'.1 j q;omega
    ·exact r
theorem WM.other{Ha Hb:Gh}{V V':World}{rsa rsb:List (Option Nat)}{wka wkb:Int}{mua mub:Bool}(hb:WM Hb V rsb wkb mub)(ha:WM Ha V rsa wka mua)(hf:Fr (fun k=>wmf Ha rsa k\/False) V V')(hd:∀ k,wmf Ha rsa k->¬ wmf Hb rsb k)(ht:Foot (fun k=>k<Ha.base) Hb.t):WM Hb V' rsb wkb mub:=by
 have hsame:∀ k,k<V.heap.size->wmf Hb rsb k->V'.heap[k]?=V.heap[k]?:=fun k hk hw=>hf.block k hk (fun q=>q.elim (fun q=>hd k q hw) id)
 refine⟨(hsame _ hb.b_lt (.inl rfl)).trans hb.hd,cT hb.z ha hf (fun _ _ q=>q) ⟨by decide,by decide,by decide⟩,cT hb.pl ha hf (fun _ _ q=>q) ⟨by decide,by decide,by decide⟩,?_,hb.ap,fun i k z a b=>?_,hb.bb,?_,hb.tf,hb.wk⟩
 ·refine aH hb.rw hf fun k hk q=>?_
  have:k=Hb.rb:=by
   have e:(Value.slice (some ⟨Hb.rb,0,none⟩) Hb.Z.length Hb.rc).ownBlock=some Hb.rb:=rfl
   rw [e] at hk
   injection hk with hk
   exact hk.symm
  exact q.elim (fun q=>hd k q (.inr (.inl this))) id
 ·obtain⟨h1,cs,h2,h3,h4⟩:=hb.row i k z a b
  have hmem:some k∈rsb:=n8 a
  refine⟨h1,cs,(hsame k (aC h2) (.inr (.inr hmem))).trans h2,h3,fun a' ha'=>?_⟩
  obtain⟨b',q,n,c,p1,p2,p3⟩:=h4 a' ha'
  refine⟨b',q,n,c,p1,p2,fun e=>?_⟩
  obtain⟨l,l1,l2,l3⟩:=p3 e
  exact⟨l,l1,cT l2 ha hf (fun _ _ q=>q) ⟨by decide,by decide,by decide⟩,l3⟩
 ·exact hb.ta.ckN ht (hf.ckeep fun k q hk=>by
   rcases q with q | q
   ·have:=ha.wf_lo q;omega
   ·exact q)
def Apt2(Ha Hb:Gh)(rsa rsb:List (Option Nat)):Prop:=∀ k,wmf Ha rsa k->¬ wmf Hb rsb k
theorem Apt2.left{Ha Hb:Gh}{V:World}{rsa rsa' rsb:List (Option Nat)}{wkb:Int}{mub:Bool}(h:Apt2 Ha Hb rsa rsb)(hb:WM Hb V rsb wkb mub)(g:Grw V.heap.size rsa rsa'):Apt2 Ha Hb rsa' rsb:=fun k q r=>by
 have:=(hb.wf_ty r).1
 exact h k (g.wmf q this) r
theorem Apt2.symm{Ha Hb:Gh}{rsa rsb:List (Option Nat)}(h:Apt2 Ha Hb rsa rsb):Apt2 Hb Ha rsb rsa:=fun k q r=>h k r q
end Go.Proofs.YtlamifbjklpdbaaGreat
