/-
  Parts of the proof.
-/
import Derived.Test.YtlamifbjklpdbaaGreatSameProofA0
import Derived.Test.YtlamifbjklpdbaaGreatSameProofB10
import Derived.Test.YtlamifbjklpdbaaGreatSameProofB8
import Derived.Test.YtlamifbjklpdbaaGreatSameProofB9
import Derived.Test.YtlamifbjklpdbaaGreatSameProofB0
import Derived.Maps.Views
import Derived.Maps.OwnOps
import Derived.Shelf.Small.Utf8
import Derived.Shelf.Utf8.AppendRunePlain
import Derived.Test.YtlamifbjklpdbaaGreatProg
import Derived.Laws.IdiomStrings
import Derived.Laws.BytesArg
import Derived.Laws.OwnMore
set_option linter.unusedSimpArgs false
set_option maxRecDepth 100000
set_option maxHeartbeats 8000000
namespace Go.Proofs.YtlamifbjklpdbaaGreat
open Go Go.RowKit
def gM(most:Nat)(t:Tr):List Zl:=jM most [] ([],t)
theorem jN(most:Nat)(t:Tr):(gM most t).map (·.1)=(pp [] t).take most:=by
 unfold gM jM
 rw [aAI,List.length_nil,Nat.sub_zero,List.map_take,aJ2]
theorem jO(most:Nat)(t:Tr):(gM most t).length=min most (pp [] t).length:=by
 have:=congrArg List.length (jN most t)
 rwa [aAC,aAG] at this
theorem rF(t:Tr):(gM 2001 t).length=gA t:=by rw [jO,gA];omega
def aU7(w:World)(L:List Zl)(e:Ending)(w':World):Prop:=∃ q c,e=.returned (.slice q L.length c)/\ZR w.heap.size w' (.slice q L.length c) L/\Below w.heap.size w w'
theorem sW{w:World}{t:Tr}(most:Nat)(hm:most<=100000)(hta:TB w t):Calls Tryz.prog 19 #[.agg #[.int .i64 t.f.k,.int .i64 t.f.n,.int .i64 t.f.mn,.int .i64 t.f.mx,.slice t.f.rq t.f.rs.length t.f.rc,.slice t.f.kq t.f.kl t.f.kc],.int .i64 (most:Int)] w (aU7 w (gM most t)):=by
 have B1:Hid (Below w.heap.size w (w.alloc (.cells #[.int .i64 t.f.k,.int .i64 t.f.n,.int .i64 t.f.mn,.int .i64 t.f.mx,.slice t.f.rq t.f.rs.length t.f.rc,.slice t.f.kq t.f.kl t.f.kc] 25))):=bz9
 have N1:BoxN (w.alloc (.cells #[.int .i64 t.f.k,.int .i64 t.f.n,.int .i64 t.f.mn,.int .i64 t.f.mx,.slice t.f.rq t.f.rs.length t.f.rc,.slice t.f.kq t.f.kl t.f.kc] 25)) w.heap.size t.f:=aD w _
 obtain⟨c0,c1,c2,c3,c4,c5⟩:=N1.six
 simp only [m7] at c1 c2 c3 c4 c5
 have LY:Hid (Calls Tryz.prog 32 #[.slice none 0 0,.agg #[.int .i64 t.f.k,.int .i64 t.f.n,.int .i64 t.f.mn,.int .i64 t.f.mx,.slice t.f.rq t.f.rs.length t.f.rc,.slice t.f.kq t.f.kl t.f.kc,.int .i64 1,.int .i64 0,.bool true,.bool true,.bool true,.int .i64 0],.int .i64 (most:Int)] (w.alloc (.cells #[.int .i64 t.f.k,.int .i64 t.f.n,.int .i64 t.f.mn,.int .i64 t.f.mx,.slice t.f.rq t.f.rs.length t.f.rc,.slice t.f.kq t.f.kl t.f.kc] 25)) (wF w (w.alloc (.cells #[.int .i64 t.f.k,.int .i64 t.f.n,.int .i64 t.f.mn,.int .i64 t.f.mx,.slice t.f.rq t.f.rs.length t.f.rc,.slice t.f.kq t.f.kl t.f.kc] 25)) (.slice none 0 0) (gM most t))):=(by
  have h:=bO9 (w0:=w) hm t.sz t [] (w.alloc (.cells #[.int .i64 t.f.k,.int .i64 t.f.n,.int .i64 t.f.mn,.int .i64 t.f.mx,.slice t.f.rq t.f.rs.length t.f.rc,.slice t.f.kq t.f.kl t.f.kc] 25)) [] none 0 lz9 hta B1.out (aAY _ _ _ _) lz9
  have e:(zc (([],t),0)).toArray=#[.int .i64 t.f.k,.int .i64 t.f.n,.int .i64 t.f.mn,.int .i64 t.f.mx,.slice t.f.rq t.f.rs.length t.f.rc,.slice t.f.kq t.f.kl t.f.kc,.int .i64 1,.int .i64 0,.bool true,.bool true,.bool true,.int .i64 0]:=(by simp [zc,Fl.cells,arP,fiP,laP,brP])
  rw [e] at h
  exact h)
 clear N1 hta
 go_enter Tryz.func19,Tryz.ntmps19
 go_wp2_with (go_at_call 32;(with_reducible refine(LY.out).mono ?_);rintro e w5 ⟨q5,k5,rfl,h51,h52,h53⟩;have X5:=aA h51;have F5:=aA h53;clear h51 h52 h53)
 go_ret
 exact⟨q5,k5,rfl,X5.out,bB B1.out F5.out lz9 (fun k e=>by cases e)⟩
theorem ZR.cells{base:Nat}{W:World}{g c:Nat}{L:List Zl}(h:ZR base W (.slice (some ⟨g,0,none⟩) L.length c) L){i:Nat}{z:Zl}(hi:L[i]?=some z){j:Nat}{v:Value}(hj:(zc z)[j]?=some v):W.cell? ⟨g,i*12+j,none⟩=some v:=
 aP h ((iT L i j z hi (by have:=(m8.1 hj).1;rw [jD] at this;exact this)).trans hj)
theorem NB.foot{W:World}{t:Tr}(h:NB W t):zW (fun k=>k<W.heap.size) t:=by
 refine⟨fun a e hz=>?_,fun a e hz=>?_⟩
 ·rcases h.r with⟨p,cap,-,e2,-⟩ | ⟨g,off,cap,e2,hg,-⟩
  ·exact absurd e2 hz
  ·injection e2 with e3
   rw [e] at e3
   cases e3
   exact hg
 ·rcases h.k with⟨p,cap,-,e2,-⟩ | ⟨g,off,cap,e2,hg,-⟩
  ·exact absurd e2 hz
  ·injection e2 with e3
   rw [e] at e3
   cases e3
   exact hg
theorem TB.foot{W:World}{t:Tr}(h:TB W t):Foot (fun k=>k<W.heap.size) t:=iD (fun _=>NB.foot) t h
theorem NB.ckN{N:Nat->Prop}{W W':World}{t:Tr}(h:NB W t)(hf:zW N t)(hc:CKeep N W W'):NB W' t:=by
 refine⟨?_,?_,h.fit,h.len⟩
 ·rcases h.r with q | ⟨g,off,cap,e,hg,h1,h2,h3⟩
  ·exact .inl q
  ·injection e with e1 e2 e3
   refine .inr ⟨g,off,cap,by rw [e1,e3],o8 hg hc.size,h1,h2,fun i x hx=>?_⟩
   have hN:N g:=hf.1 _ e1 (fun z=>by rw [z] at hx;simp at hx)
   exact⟨cO hc (p:=⟨g,off+2*i,none⟩) hN (h3 i x hx).1,cO hc (p:=⟨g,off+2*i+1,none⟩) hN (h3 i x hx).2⟩
 ·rcases h.k with q | ⟨g,off,cap,e,hg,h1,h2,h3⟩
  ·exact .inl q
  ·injection e with e1 e2 e3
   refine .inr ⟨g,off,cap,by rw [e1,e2,e3],o8 hg hc.size,h1,h2,fun i x hx=>(h3 i x hx).ck hc (hf.2 _ e1 (fun z=>by rw [z] at hx;simp at hx))⟩
theorem TB.ckN{N:Nat->Prop}{W W':World}{t:Tr}(h:TB W t)(hf:Foot N t)(hc:CKeep N W W'):TB W' t:=rL (fun _ a b=>NB.ckN a b hc) t h hf
theorem aN0(par:Tr)(p:Way):∀ (ks:List Tr) (i j:Nat) (u:Tr),ks[j]?=some u->(pps par p i ks)[szs (ks.take j)]?=some ((par,i+j) :: p,u)
 | [],i,j,u,h=>by simp at h
 | v :: ks,i,0,u,h=>by
  simp at h
  subst h
  rw [aAL,cM,aX,bX]
  rfl
 | v :: ks,i,j+1,u,h=>by
  rw [aAP] at h
  rw [aBN,bE,aX,aAA (by rw [bL];omega),bL,Nat.add_sub_cancel_left,aN0 par p ks (i+1) j u h,show i+1+j=i+(j+1) by omega]
theorem bL6{t:Tr}{i:Nat}{x:El}(h:(pp [] t)[i]?=some x){j:Nat}{u:Tr}(hu:x.2.ks[j]?=some u):(pp [] t)[i+1+szs (x.2.ks.take j)]?=some ((x.2,j) :: x.1,u)/\i+1+szs (x.2.ks.take j)+u.sz<=i+x.2.sz:=by
 obtain⟨rest,hr⟩:=seg t [] i x h
 have h1:=lU hu
 have h2:=wO x.2.ks (j+1)
 have h3:=dA x.2
 refine⟨?_,by omega⟩
 have e:((pp [] t).drop i)[1+szs (x.2.ks.take j)]?=some ((x.2,j) :: x.1,u):=by
  rw [hr,aAH (by rw [bL];have:=dO u;omega),bX,show 1+szs (x.2.ks.take j)=szs (x.2.ks.take j)+1 by omega,aAP,aN0 _ _ _ _ _ _ hu,m7]
 rw [aBV,<- aAU] at e
 exact e
abbrev bx(b:Nat):Value:=.pointer (some ⟨b,0,none⟩)
def bN7(f:Fl)(c o:Bool)(v:Value)(g:Value):Array Value:=#[.int .i64 f.k,.int .i64 f.n,.int .i64 f.mn,.int .i64 f.mx,.slice f.rq f.rs.length f.rc,.slice f.kq f.kl f.kc,.bool c,.bool o,v,g]
theorem fU(W:World)(cs:List Value)(t:TypeId):∀ (j:Nat) (u:Value),cs[j]?=some u->(W.alloc (.cells cs.toArray t)).cell? ((⟨W.heap.size,0,none⟩:Addr).add j)=some u:=by
 intro j u h
 have hadd:(⟨W.heap.size,0,none⟩:Addr).add j=⟨W.heap.size,j,none⟩:=by unfold Addr.add;split <;> simp_all
 rw [hadd]
 exact aB (aD W (.cells cs.toArray t)) (i:=j) (by simpa using h)
theorem nF{w:World}{k:Nat}(o:Obj)(h:k=w.heap.size):(w.alloc o).heap[k]?=some o:=by rw [h];exact aD w o
section
structure Gh where
 t:Tr
 L:Ln
 Z:List Zl
 base:Nat
 b:Nat
 zb:Nat
 zc:Nat
 pb:Nat
 pc:Nat
 rb:Nat
 rc:Nat
abbrev Gh.n(H:Gh):Nat:=H.L.s.size
abbrev Gh.cells(H:Gh)(wk:Int)(mu:Bool):Array Value:=#[.slice (some ⟨H.zb,0,none⟩) H.Z.length H.zc,.string H.L.s,.bool H.L.c,.bool H.L.o,
 .bool (H.L.u 0),.bool (H.L.u 1),.bool (H.L.u 2),.bool (H.L.u 3),.bool (H.L.u 4),.bool (H.L.u 5),.bool (H.L.u 6),.bool (H.L.u 7),.bool (H.L.u 8),.bool (H.L.u 9),
 .slice (some ⟨H.pb,0,none⟩) H.Z.length H.pc,.slice (some ⟨H.rb,0,none⟩) H.Z.length H.rc,.int .i64 wk,.bool mu]
open Classical in
noncomputable def plB (L:Ln) (t:Tr):Bool:=decide (PlT L t)
def rwV(n:Nat):Option Nat->Value | none=>.slice none 0 0 | some k=>.slice (some ⟨k,0,none⟩) (n+1) (n+1)
def Ls12(base:Nat)(V:World)(q:Option Addr)(c:Nat)(l:List Nat):Prop:=V.ownsRow base 3 1 (.slice q l.length c) l.length (l.map fun j:Nat=>.int .i64 (j:Int))
def fK(L:Ln)(t:Tr)(a:Nat)(l:List Nat):Prop:=(∀ j,j∈l↔Pz L t a j)/\l.Pairwise (· < ·)
def RowK(H:Gh)(V:World)(k:Nat)(t:Tr):Prop:=∃ cs:List Value,V.heap[k]?=some (.cells cs.toArray 112 (0,0))/\cs.length=(H.n+1)*2 /\
 ∀ a,a<=H.n->∃ (h:Bool) (q:Option Addr) (n c:Nat),cs[a*2]?=some (.bool h)/\cs[a*2+1]?=some (.slice q n c)/\(h=true->∃ l:List Nat,n=l.length/\Ls12 H.base V q c l/\fK H.L t a l)
structure WM(H:Gh)(V:World)(rs:List (Option Nat))(wk:Int)(mu:Bool):Prop where
 hd:V.heap[H.b]?=some (.cells (H.cells wk mu) 43 (0,0))
 z:ZR H.base V (.slice (some ⟨H.zb,0,none⟩) H.Z.length H.zc) H.Z
 pl:V.ownsRow H.base 4 1 (.slice (some ⟨H.pb,0,none⟩) H.Z.length H.pc) H.Z.length (H.Z.map fun z=>.bool (plB H.L z.1.2))
 rw:V.ownsRow H.base 110 1 (.slice (some ⟨H.rb,0,none⟩) H.Z.length H.rc) H.Z.length (rs.map (rwV H.n))
 ap:∀ (i j k:Nat),rs[i]?=some (some k)->rs[j]?=some (some k)->i=j
 row:∀ (i k:Nat) (z:Zl),rs[i]?=some (some k)->H.Z[i]?=some z->H.base<=k/\RowK H V k z.1.2
 bb:H.base<=H.b
 ta:TB V H.t
 tf:Foot (fun k=>k<H.base) H.t
 wk:mu=false->0<=wk/\wk<=20000
def wmf(H:Gh)(rs:List (Option Nat))(k:Nat):Prop:=k=H.b\/k=H.rb\/some k∈rs
structure Grw(n:Nat)(rs rs':List (Option Nat)):Prop where
 old:∀ (j k:Nat),rs[j]?=some (some k)->rs'[j]?=some (some k)
 new:∀ k,some k∈rs'->some k∈rs\/n<=k
variable {H:Gh} {V V' W W':World} {rs rs' rs'':List (Option Nat)} {wk:Int} {mu:Bool}
theorem Grw.refl(n:Nat)(rs:List (Option Nat)):Grw n rs rs:=⟨fun _ _ h=>h,fun _ h=>.inl h⟩
theorem Grw.trans{n m:Nat}(h:Grw n rs rs')(k:Grw m rs' rs'')(hm:n<=m):Grw n rs rs'':=
 ⟨fun j i a=>k.old j i (h.old j i a),fun i a=>by
  rcases k.new i a with q | q
  ·exact h.new i q
  ·exact .inr (by omega)⟩
theorem Grw.wmf{n:Nat}(h:Grw n rs rs'){k:Nat}(hk:wmf H rs' k)(hn:k<n):wmf H rs k:=by
 rcases hk with e | e | e
 ·exact .inl e
 ·exact .inr (.inl e)
 ·rcases h.new k e with q | q
  ·exact .inr (.inr q)
  ·omega
theorem mS{A B C:World}{S T:Nat->Prop}(h:Fr (fun k=>wmf H rs k\/S k) A B)(g:Grw A.heap.size rs rs')(k:Fr (fun k=>wmf H rs' k\/T k) B C)(hT:∀ i,T i->S i\/A.heap.size<=i):Fr (fun k=>wmf H rs k\/S k) A C:=
 ⟨k.os.trans h.os,k.tape.trans h.tape,k.output.trans h.output,o0 h.size k.size,fun i hi hs=>(k.block i (o8 hi h.size) (fun q=>by
  rcases q with q | q
  ·exact hs (.inl (g.wmf q hi))
  ·rcases hT i q with r | r
   ·exact hs (.inr r)
   ·omega)).trans (h.block i hi hs)⟩
def sT(ty:TypeId):Prop:=ty=43\/ty=56\/ty=110\/ty=112\/ty=3
structure Kp(H:Gh)(V V':World):Prop where
 size:V.heap.size<=V'.heap.size
 lo:∀ k,k<H.base->k<V.heap.size->V'.heap[k]?=V.heap[k]?
 pl:V'.heap[H.pb]?=V.heap[H.pb]?
 own:∀ (k:Nat) (cs:Array Value) (ty:TypeId),V.heap[k]?=some (.cells cs ty (0,0))->H.base<=k->sT ty->V'.heap[k]?=V.heap[k]?
theorem lI{e:TypeId}{size n:Nat}{v:Value}{xs:List Value}(h:V.ownsRow H.base e size v n xs)(hk:Kp H V V')(he:sT e):V'.ownsRow H.base e size v n xs:=by
 obtain⟨h1,h2 | ⟨g,cap,cur,q1,q2,q3,q4⟩⟩:=h
 ·exact⟨h1,.inl h2⟩
 ·exact⟨h1,.inr ⟨g,cap,cur,q1,q2,(hk.own g cur e q3 q2 he).trans q3,q4⟩⟩
theorem RowK.kp{k:Nat}{t:Tr}(h:RowK H V k t)(hk:Kp H V V')(hb:H.base<=k):RowK H V' k t:=by
 obtain⟨cs,h1,h2,h3⟩:=h
 refine⟨cs,(hk.own k _ _ h1 hb (.inr (.inr (.inr (.inl rfl))))).trans h1,h2,fun a ha=>?_⟩
 obtain⟨b,q,n,c,p1,p2,p3⟩:=h3 a ha
 refine⟨b,q,n,c,p1,p2,fun e=>?_⟩
 obtain⟨l,l1,l2,l3⟩:=p3 e
 exact⟨l,l1,lI l2 hk (.inr (.inr (.inr (.inr rfl)))),l3⟩
theorem WM.kp(h:WM H V rs wk mu)(hk:Kp H V V'):WM H V' rs wk mu:=by
 refine⟨(hk.own _ _ _ h.hd h.bb (.inl rfl)).trans h.hd,lI h.z hk (.inr (.inl rfl)),?_,lI h.rw hk (.inr (.inr (.inl rfl))),h.ap,fun i k z a b=>⟨(h.row i k z a b).1,(h.row i k z a b).2.kp hk (h.row i k z a b).1⟩,h.bb,?_,h.tf,h.wk⟩
 ·obtain⟨h1,h2 | ⟨g,cap,cur,q1,q2,q3,q4⟩⟩:=h.pl
  ·exact⟨h1,.inl h2⟩
  ·refine⟨h1,.inr ⟨g,cap,cur,q1,q2,?_,q4⟩⟩
   injection q1 with q1
   injection q1 with q1
   injection q1 with q1
   subst q1
   exact hk.pl.trans q3
 ·exact h.ta.ckN h.tf ⟨hk.size,fun k cur t fr hk' hc=>(hk.lo k hk' (aC hc)).trans hc⟩
theorem Kp.below(hb:Below V.heap.size V V')(hp:H.pb<V.heap.size):Kp H V V':=
 ⟨hb.size,fun k _ h=>hb.block k h,hb.block _ hp,fun k _ _ h _ _=>hb.block k (aC h)⟩
theorem WM.pb_lt(h:WM H V rs wk mu):H.pb<V.heap.size:=(aF h.pl rfl).2.1
theorem WM.below(h:WM H V rs wk mu)(hb:Below V.heap.size V V'):WM H V' rs wk mu:=h.kp (Kp.below hb h.pb_lt)
theorem Kp.fr{S:Nat->Prop}(hf:Fr S V V')(hp:H.pb<V.heap.size)(hS:∀ k,k<V.heap.size->S k->H.base<=k/\k≠H.pb/\∃ cs ty,V.heap[k]?=some (.cells cs ty (0,0))/\¬ sT ty):Kp H V V':=
 ⟨hf.size,fun k hk h=>hf.block k h (fun q=>by have:=(hS k h q).1;omega),hf.block _ hp (fun q=>(hS _ hp q).2.1 rfl),fun k cs ty h _ hm=>hf.block k (aC h) (fun q=>by
  obtain⟨-,-,cs',ty',h1,h2⟩:=hS k (aC h) q
  rw [h] at h1
  injection h1 with h1
  injection h1 with _ h1 _
  exact h2 (h1 ▸ hm))⟩
theorem WM.fr{S:Nat->Prop}(h:WM H V rs wk mu)(hf:Fr S V V')(hS:∀ k,k<V.heap.size->S k->H.base<=k/\k≠H.pb/\∃ cs ty,V.heap[k]?=some (.cells cs ty (0,0))/\¬ sT ty):WM H V' rs wk mu:=h.kp (Kp.fr hf h.pb_lt hS)
theorem WM.rl(h:WM H V rs wk mu):rs.length=H.Z.length:=by
 have:=h.rw.1
 rw [aAC] at this
 omega
theorem WM.cell(h:WM H V rs wk mu){i:Nat}{v:Value}(hi:(H.cells wk mu)[i]?=some v):V.cell? ⟨H.b,i,none⟩=some v:=aB h.hd hi
theorem WM.frz(h:WM H V rs wk mu)(i:Nat):V.frozen? ⟨H.b,i,none⟩=false:=aK h.hd i
theorem WM.b_lt(h:WM H V rs wk mu):H.b<V.heap.size:=aC h.hd
theorem WM.wf_lo(h:WM H V rs wk mu){k:Nat}(hk:wmf H rs k):H.base<=k:=by
 rcases hk with e | e | e
 ·rw [e];exact h.bb
 ·rw [e];exact(aF h.rw rfl).1
 ·obtain⟨i,hi,hi2⟩:=List.getElem_of_mem e
  have hl:=h.rl
  exact(h.row i k (H.Z[i]'(by omega)) (by rw [g9 hi,hi2]) (g9 _)).1
theorem WM.wf_ty(h:WM H V rs wk mu){k:Nat}(hk:wmf H rs k):k<V.heap.size/\∃ cs ty,V.heap[k]?=some (.cells cs ty (0,0))/\(ty=43\/ty=110\/ty=112):=by
 rcases hk with e | e | e
 ·rw [e];exact⟨h.b_lt,_,_,h.hd,.inl rfl⟩
 ·rw [e]
  obtain⟨a,b,cur,c⟩:=aF h.rw rfl
  exact⟨b,cur,_,c,.inr (.inl rfl)⟩
 ·obtain⟨i,hi,hi2⟩:=List.getElem_of_mem e
  have hl:=h.rl
  obtain⟨cs,h1,-⟩:=(h.row i k (H.Z[i]'(by omega)) (by rw [g9 hi,hi2]) (g9 _)).2
  exact⟨aC h1,_,_,h1,.inr (.inr rfl)⟩
theorem cT{S:Nat->Prop}{base:Nat}{e:TypeId}{size n:Nat}{v:Value}{xs:List Value}(h:V.ownsRow base e size v n xs)(hw:WM H V rs wk mu)(hf:Fr (fun k=>wmf H rs k\/S k) V V')(hS:∀ k,v.ownBlock=some k->¬ S k)(he:e≠43/\e≠110/\e≠112):V'.ownsRow base e size v n xs:=by
 refine aH h hf fun k hk q=>?_
 rcases q with q | q
 ·obtain⟨-,cs,ty,h1,h2⟩:=hw.wf_ty q
  obtain⟨-,-,cur,h3⟩:=aF h hk
  rw [h3] at h1
  injection h1 with h1
  injection h1 with _ h1 _
  subst h1
  rcases h2 with r | r | r
  ·exact he.1 r
  ·exact he.2.1 r
  ·exact he.2.2 r
 ·exact hS k hk q
end
section
attribute [local go_sem] Oper.semAt_some
theorem rA(a:Nat)(w:World)(ha:a<256):Calls Tryz.prog 94 #[.int .u8 (a:Int)] w fun e w'=>e=.returned (.int .u8 (smB a:Int))/\w'=w:=by
 by_cases h1:65<=a
 ·by_cases h2:a<=90
  ·have i1:(65:Int)<=(a:Int):=by omega
   have i2:(a:Int)<=90:=by omega
   have hw:IntKind.wrap .u8 ((a:Int)+32)=(a:Int)+32:=by rw [IntKind.wrap_u8];omega
   have HV:Hid ((smB a:Int)=(a:Int)+32):=aA (by unfold smB;rw [if_pos ⟨h1,h2⟩];omega)
   clear h1 h2
   go_enter Tryz.func94,Tryz.ntmps94
   go_wp2
   go_ret
   exact⟨by rw [HV.out];rfl,rfl⟩
  ·have i1:(65:Int)<=(a:Int):=by omega
   have i2:¬ (a:Int)<=90:=by omega
   have HV:Hid ((smB a:Int)=(a:Int)):=aA (by unfold smB;rw [if_neg (by omega)])
   clear h1 h2
   go_enter Tryz.func94,Tryz.ntmps94
   go_wp2
   go_ret
   exact⟨by rw [HV.out];rfl,rfl⟩
 ·have i1:¬ (65:Int)<=(a:Int):=by omega
  have HV:Hid ((smB a:Int)=(a:Int)):=aA (by unfold smB;rw [if_neg (by omega)])
  clear h1
  go_enter Tryz.func94,Tryz.ntmps94
  go_wp2
  go_ret
  exact⟨by rw [HV.out];rfl,rfl⟩
theorem aH3(a b:Nat)(o:Bool)(w:World)(ha:a<256)(hb:b<256):Calls Tryz.prog 79 #[.int .u8 (a:Int),.int .u8 (b:Int),.bool o] w fun e w'=>e=.returned (.bool (alk o a b))/\w'=w:=by
 by_cases h1:a=b
 ·have i1:((a:Int)==(b:Int))=true:=by rw [h1];simp
  have HV:Hid (alk o a b=true):=aA (by unfold alk;rw [h1];simp)
  clear h1
  go_enter Tryz.func79,Tryz.ntmps79
  go_wp2
  go_ret
  exact⟨by rw [HV.out];rfl,rfl⟩
 ·have i1:((a:Int)==(b:Int))=false:=by simp;omega
  have e1:(a==b)=false:=by simpa using h1
  cases o with
  | false=>
   have HV:Hid (alk false a b=false):=aA (by unfold alk;rw [e1];simp)
   clear h1 e1
   go_enter Tryz.func79,Tryz.ntmps79
   go_wp2
   go_ret
   exact⟨by rw [HV.out];rfl,rfl⟩
  | true=>
   have HV:Hid (alk true a b=(smB a==smB b)):=aA (by unfold alk;rw [e1];simp)
   have CA:=aA (rA a w ha)
   have CB:=aA (rA b w hb)
   have HE:Hid (((smB a:Int)==(smB b:Int))=(smB a==smB b)):=aA (by rw [Bool.eq_iff_iff];simp only [beq_iff_eq];omega)
   generalize smB a=p at HV CA HE
   generalize smB b=q at HV CB HE
   clear h1 e1
   go_enter Tryz.func79,Tryz.ntmps79
   go_wp2_with first
    |(go_at_call 94;(with_reducible refine(CA.out).mono ?_);rintro e w5 ⟨rfl,h5⟩;subst w5)
    |(go_at_call 94;(with_reducible refine(CB.out).mono ?_);rintro e w5 ⟨rfl,h5⟩;subst w5)
   go_ret
   refine⟨?_,rfl⟩
   rw [HV.out,<- HE.out]
   rfl
def eG(is:List Bool)(k:Nat):List Nat:=(List.range k).filter fun j=>is[j]?.getD false
theorem aD7(is:List Bool)(k:Nat):eG is (k+1)=eG is k++(if is[k]?.getD false then [k] else []):=by
 unfold eG
 rw [List.range_succ,List.filter_append]
 congr 1
 by_cases h:is[k]?.getD false=true <;> simp [h]
theorem pX(is:List Bool)(k:Nat):(eG is k).length<=k:=by
 unfold eG
 refine o0 (List.length_filter_le _ _) ?_
 simp
theorem hQ{is:List Bool}{j:Nat}:j∈eG is is.length↔is[j]?=some true:=by
 unfold eG
 rw [aAF,aBW]
 constructor
 ·rintro ⟨h1,h2⟩
  rw [g9 h1] at h2 ⊢
  simpa using h2
 ·intro h
  exact⟨(m8.1 h).1,by rw [h];rfl⟩
theorem zF(is:List Bool)(k:Nat):(eG is k).Pairwise (· < ·):=List.Pairwise.filter _ List.pairwise_lt_range
structure RsI(w:World)(q:Option Addr)(c:Nat)(l:List Nat)(V:World):Prop where
 l:Ls12 w.heap.size V q c l
 bel:Below w.heap.size w V
theorem RsI.snoc{w V w6:World}{q q6:Option Addr}{c c6:Nat}{l:List Nat}{x:Nat}{ob:Obj}(h:RsI w q c l V)
  (o6:w6.ownsRow w.heap.size 3 1 (.slice q6 (l.length+1) c6) (l.length+1) ((l.map fun j:Nat=>.int .i64 (j:Int))++[.int .i64 (x:Int)])) (hg:(V.alloc ob).grownBy w6 (Value.slice q l.length c).ownBlock):RsI w q6 c6 (l++[x]) w6:=by
 have F6:Fr (fun z=>(Value.slice q l.length c).ownBlock=some z) V w6:=((Fr.refl _ V).alloc ob).grown hg fun k hk=>hk
 refine⟨?_,h.bel.trans (F6.below h.bel.size fun k hk=>(aF h.l hk).1)⟩
 unfold Ls12
 rw [o5,aAK]
 exact o6
def bP9(w:World)(l:List Nat)(e:Ending)(w':World):Prop:=∃ q c,e=.returned (.slice q l.length c)/\Ls12 w.heap.size w' q c l/\Below w.heap.size w w'
theorem dD{w:World}{base g c:Nat}{is:List Bool}(h:w.ownsRow base 4 1 (.slice (some ⟨g,0,none⟩) is.length c) is.length (is.map Value.bool))(hl:is.length<=1000000) :
  Calls Tryz.prog 29 #[.slice (some ⟨g,0,none⟩) is.length c] w (bP9 w (eG is is.length)):=by
 have HR:=aA h
 have U5:Hid (RsI w none 0 [] w):=⟨aAY _ _ _ _,Below.refl _ _⟩
 clear h
 go_enter Tryz.func29,Tryz.ntmps29
 go_upto_region 3 with fail
 go_loopw [3,4] (fun l i wr=>∃ (k:Nat) (q:Option Addr) (cc:Nat),k<=is.length/\i=.int .i64 (k:Int)/\l=.slice q (eG is k).length cc/\RsI w q cc (eG is k) wr) (fun _ i _=>is.length-(intOf i).toNat)
 case atStart=>exact⟨0,none,0,by omega,rfl,rfl,U5.out⟩
 case round=>
  obtain⟨k,q,cc,hk,rfl,rfl,hu⟩:=hrel
  have HU:=aA hu
  have HN:=aA (aD7 is k)
  have hlen:=pX is k
  obtain⟨l,hl⟩:∃ l,eG is k=l:=⟨_,rfl⟩
  have HQ:=aA hl
  rw [hl] at hu HU HN hlen ⊢
  clear hl
  clear hu
  rename World=>wr
  by_cases hkl:k<is.length
  ·have i0:(k:Int)<(is.length:Int):=by omega
   have hw2:IntKind.wrap .i64 ((k:Int)+1)=(k:Int)+1:=wrap_small _ (by omega) (by omega)
   obtain⟨x,hx⟩:∃ x,is[k]?=some x:=⟨_,g9 hkl⟩
   have y0:wr.cell? ⟨g,k,none⟩=some (.bool x):=(HU.out.bel.cell (p:=⟨g,k,none⟩) (aF HR.out rfl).2.1).trans (aP HR.out (by simp [hx]))
   rw [hx] at HN
   clear hx
   cases x with
   | true=>
    obtain⟨t0,hi,hz0,hz1,hz2⟩:=aR gU
    have Y7:Hid ((wr.alloc (.cells #[.int .i64 (k:Int)] 3)).ownsRow w.heap.size 3 1 (.slice q l.length cc) l.length (l.map fun j:Nat=>.int .i64 (j:Int))):=aAB HU.out.l _
    have HNEW:Hid (∀ j u,([.int .i64 (k:Int)]:List Value)[j]?=some u->(wr.alloc (.cells #[.int .i64 (k:Int)] 3)).cell? ((⟨wr.heap.size,0,none⟩:Addr).add j)=some u):=fU wr [.int .i64 (k:Int)] _
    have HB8:Hid (w.heap.size<=(wr.alloc (.cells #[.int .i64 (k:Int)] 3)).heap.size):=o0 HU.out.bel.size (by simp)
    go_wp2_with (at_builtin;refine wpList_append_own_at _ rfl _ _ 35 rfl w.heap.size 3 t0 (.int .i64 0) 1 8 gP hi hz0 hz1 hz2 rfl (by decide) (.slice q l.length cc) l.length (l.map fun j:Nat=>.int .i64 (j:Int)) rfl Y7.out ⟨wr.heap.size,0,none⟩ 1 1 [.int .i64 (k:Int)] rfl rfl HNEW.out (by simp [Value.oneCell']) (by unfold maxLen;omega) (by omega) HB8.out ?_;intro v' w6 hown' hgrow _ _;obtain⟨q6,c6,rfl⟩:=aQ hown';have U6:=aA (HU.out.snoc hown' hgrow);clear hown' hgrow)
    go_roundw
    case rel=>exact⟨k+1,q6,c6,by omega,by go_num,by rw [HN.out];simp,by rw [HN.out];exact U6.out⟩
    case measure=>simp only [intOf];omega
   | false=>
    go_wp2
    go_roundw
    case rel=>exact⟨k+1,q,cc,by omega,by go_num,by rw [HN.out];simp,by rw [HN.out];simpa using HU.out⟩
    case measure=>simp only [intOf];omega
  ·have hkk:k=is.length:=by omega
   have i0:¬ (k:Int)<(is.length:Int):=by omega
   have HK:=aA hkk
   clear hkk
   go_wp2
   go_ret
   rw [<- HK.out,HQ.out]
   exact⟨q,cc,rfl,HU.out.l,HU.out.bel⟩
end
section
def isC(c:Int):Bool:=decide (0<=c/\c<=1114111/\(c<55296\/57343<c))
def txt(l:List UInt8):ByteArray:=⟨l.toArray⟩
attribute [local go_sem] aU
theorem aM5(c:Int)(w:World):Calls Tryz.prog 76 #[.int .i64 c] w fun e w'=>e=.returned (.bool (isC c))/\w'=w:=by
 by_cases h0:0<=c
 ·by_cases h1:c<=1114111
  ·by_cases h2:c<55296
   ·have hv:Hid (isC c=true):=by show isC c=true;simp [isC];omega
    go_enter Tryz.func76,Tryz.ntmps76
    go_wp2
    go_ret
    exact⟨by rw [hv.out];rfl,rfl⟩
   ·by_cases h3:57343<c
    ·have hv:Hid (isC c=true):=by show isC c=true;simp [isC];omega
     go_enter Tryz.func76,Tryz.ntmps76
     go_wp2
     go_ret
     exact⟨by rw [hv.out];rfl,rfl⟩
    ·have hv:Hid (isC c=false):=by show isC c=false;simp [isC];omega
     go_enter Tryz.func76,Tryz.ntmps76
     go_wp2
     go_ret
     exact⟨by rw [hv.out];rfl,rfl⟩
  ·have hv:Hid (isC c=false):=by show isC c=false;simp [isC];omega
   go_enter Tryz.func76,Tryz.ntmps76
   go_wp2
   go_ret
   exact⟨by rw [hv.out];rfl,rfl⟩
 ·have hv:Hid (isC c=false):=by show isC c=false;simp [isC];omega
  go_enter Tryz.func76,Tryz.ntmps76
  go_wp2
  go_ret
  exact⟨by rw [hv.out];rfl,rfl⟩
theorem mV(w:World)(l:List Int)(hl:∀ x∈l,0<=x/\x<256) :
  (convert 120 9 (.slice (some ⟨w.heap.size,0,none⟩) l.length l.length)).run Tryz.prog (w.alloc (.cells (l.map (Value.int .u8)).toArray 5))=.ok (.string (txt (l.map fun x=>x.toNat.toUInt8))) (w.alloc (.cells (l.map (Value.int .u8)).toArray 5)):=by
 have:=run_convert_bytes_back (P:=Tryz.prog) (w.alloc (.cells (l.map (Value.int .u8)).toArray 5)) 120 9 5 ⟨w.heap.size,0,none⟩ l.length (l.map fun x=>x.toNat.toUInt8) Tryz.underlying120 Tryz.underlying5 Tryz.underlying9 (fun j hj=>by
  have hj':j<l.length:=by simpa using hj
  have e:(⟨w.heap.size,0,none⟩:Addr).add j=⟨w.heap.size,j,none⟩:=by unfold Addr.add;simp;omega
  rw [e]
  refine(aB (aD w _) (i:=j) (v:=.int .u8 l[j]) (by simp [hj'])).trans ?_
  have:=hl l[j] (List.getElem_mem hj')
  simp
  omega)
 rw [aAC] at this
 exact this
theorem sI(c:Int)(w:World)(hc:isC c=true):Calls Tryz.prog 77 #[.int .i64 c] w fun e w'=>e=.returned (.string (txt (Lib.encodeRune c)))/\Below w.heap.size w w':=by
 have hr:0<=c/\c<=1114111/\(c<55296\/57343<c):=by simpa [isC] using hc
 obtain⟨r0,r1,r2⟩:=hr
 clear hc
 by_cases h1:c<128
 ·have hE:Hid (Lib.encodeRune c=[c].map fun x=>x.toNat.toUInt8):=by show Lib.encodeRune c=_;rw [Lib.encodeRune,Lib.encodeRuneZ_one r0 (by omega)]
  have hcv:=mV w [c] (by simp;omega)
  have w1:IntKind.wrap .u8 c=c:=by rw [IntKind.wrap_u8];omega
  simp only [s6,List.map_nil,o7,List.length_nil] at hcv hE
  clear r2
  go_enter Tryz.func77,Tryz.ntmps77
  go_wp2
  go_ret
  rw [hE.out]
  exact⟨rfl,(Below.refl _ w).alloc lz9 _⟩
 by_cases h2:c<2048
 ·have hE:Hid (Lib.encodeRune c=[192+c/64,128+c%64].map fun x=>x.toNat.toUInt8):=by show Lib.encodeRune c=_;rw [Lib.encodeRune,Lib.encodeRuneZ_two (by omega) (by omega)]
  have hcv:=mV w [192+c/64,128+c%64] (by simp;omega)
  have q1:c.tdiv 64=c/64:=Int.tdiv_eq_ediv_of_nonneg r0
  have q2:c.tmod 64=c%64:=Int.tmod_eq_emod_of_nonneg r0
  have v1:IntKind.wrap .i64 (c/64)=c/64:=wrap_small _ (by omega) (by omega)
  have v2:IntKind.wrap .i64 (192+c/64)=192+c/64:=wrap_small _ (by omega) (by omega)
  have v3:IntKind.wrap .u8 (192+c/64)=192+c/64:=by rw [IntKind.wrap_u8];omega
  have v4:IntKind.wrap .i64 (c%64)=c%64:=wrap_small _ (by omega) (by omega)
  have v5:IntKind.wrap .i64 (128+c%64)=128+c%64:=wrap_small _ (by omega) (by omega)
  have v6:IntKind.wrap .u8 (128+c%64)=128+c%64:=by rw [IntKind.wrap_u8];omega
  simp only [s6,List.map_nil,o7,List.length_nil] at hcv hE
  clear r2
  go_enter Tryz.func77,Tryz.ntmps77
  go_wp2
  go_ret
  rw [hE.out]
  exact⟨rfl,(Below.refl _ w).alloc lz9 _⟩
 have v4:IntKind.wrap .i64 (c%64)=c%64:=wrap_small _ (by omega) (by omega)
 have v5:IntKind.wrap .i64 (128+c%64)=128+c%64:=wrap_small _ (by omega) (by omega)
 have v6:IntKind.wrap .u8 (128+c%64)=128+c%64:=by rw [IntKind.wrap_u8];omega
 have q1:c.tdiv 64=c/64:=Int.tdiv_eq_ediv_of_nonneg r0
 have q2:c.tmod 64=c%64:=Int.tmod_eq_emod_of_nonneg r0
 have q3:c.tdiv 4096=c/4096:=Int.tdiv_eq_ediv_of_nonneg r0
 have q4:(c/64).tmod 64=c/64%64:=Int.tmod_eq_emod_of_nonneg (by omega)
 have u1:IntKind.wrap .i64 (c/64)=c/64:=wrap_small _ (by omega) (by omega)
 have u2:IntKind.wrap .i64 (c/4096)=c/4096:=wrap_small _ (by omega) (by omega)
 have u3:IntKind.wrap .i64 (c/64%64)=c/64%64:=wrap_small _ (by omega) (by omega)
 have u4:IntKind.wrap .i64 (128+c/64%64)=128+c/64%64:=wrap_small _ (by omega) (by omega)
 have u5:IntKind.wrap .u8 (128+c/64%64)=128+c/64%64:=by rw [IntKind.wrap_u8];omega
 by_cases h3:c<65536
 ·have hE:Hid (Lib.encodeRune c=[224+c/4096,128+c/64%64,128+c%64].map fun x=>x.toNat.toUInt8):=by show Lib.encodeRune c=_;rw [Lib.encodeRune,Lib.encodeRuneZ_three (by omega)]
  have hcv:=mV w [224+c/4096,128+c/64%64,128+c%64] (by simp;omega)
  have u6:IntKind.wrap .i64 (224+c/4096)=224+c/4096:=wrap_small _ (by omega) (by omega)
  have u7:IntKind.wrap .u8 (224+c/4096)=224+c/4096:=by rw [IntKind.wrap_u8];omega
  simp only [s6,List.map_nil,o7,List.length_nil] at hcv hE
  clear r2
  go_enter Tryz.func77,Tryz.ntmps77
  go_wp2
  go_ret
  rw [hE.out]
  exact⟨rfl,(Below.refl _ w).alloc lz9 _⟩
 ·have hE:Hid (Lib.encodeRune c=[240+c/262144,128+c/4096%64,128+c/64%64,128+c%64].map fun x=>x.toNat.toUInt8):=by show Lib.encodeRune c=_;rw [Lib.encodeRune,Lib.encodeRuneZ_four (by omega) (by omega)]
  have hcv:=mV w [240+c/262144,128+c/4096%64,128+c/64%64,128+c%64] (by simp;omega)
  have q5:c.tdiv 262144=c/262144:=Int.tdiv_eq_ediv_of_nonneg r0
  have q6:(c/4096).tmod 64=c/4096%64:=Int.tmod_eq_emod_of_nonneg (by omega)
  have u6:IntKind.wrap .i64 (c/262144)=c/262144:=wrap_small _ (by omega) (by omega)
  have u7:IntKind.wrap .i64 (240+c/262144)=240+c/262144:=wrap_small _ (by omega) (by omega)
  have u8:IntKind.wrap .u8 (240+c/262144)=240+c/262144:=by rw [IntKind.wrap_u8];omega
  have u9:IntKind.wrap .i64 (c/4096%64)=c/4096%64:=wrap_small _ (by omega) (by omega)
  have u10:IntKind.wrap .i64 (128+c/4096%64)=128+c/4096%64:=wrap_small _ (by omega) (by omega)
  have u11:IntKind.wrap .u8 (128+c/4096%64)=128+c/4096%64:=by rw [IntKind.wrap_u8];omega
  simp only [s6,List.map_nil,o7,List.length_nil] at hcv hE
  clear r2
  go_enter Tryz.func77,Tryz.ntmps77
  go_wp2
  go_ret
  rw [hE.out]
  exact⟨rfl,(Below.refl _ w).alloc lz9 _⟩
end
theorem bM5(s:ByteArray)(p n:Nat):(s.extract p (p+n)).data.toList=sl s p n:=by
 rw [ByteArray.data_extract,Array.toList_extract,List.extract_eq_take_drop]
 unfold sl
 congr 1
 omega
theorem lS(s:ByteArray)(i:Nat)(h:i<s.size):(s[i]'h).toNat=bt s i:=by
 have e:s.data.toList[i]?=some (s.data.toList[i]'(by rw [eT];exact h)):=g9 _
 unfold bt
 rw [aBE,e]
 rfl
theorem eV{s:ByteArray}{p:Nat}(hb:bad s p=false):(bt s p<128/\Utf8.decode s p=(bt s p,1)) \/
  (1<s.size-p/\bt s p/32=6/\bt s (p+1)/64=2/\128<=bt s p%32*64+bt s (p+1)%64/\Utf8.decode s p=(bt s p%32*64+bt s (p+1)%64,2)) \/
  (2<s.size-p/\bt s p/16=14/\bt s (p+1)/64=2/\bt s (p+2)/64=2/\2048<=bt s p%16*4096+bt s (p+1)%64*64+bt s (p+2)%64/\Utf8.decode s p=(bt s p%16*4096+bt s (p+1)%64*64+bt s (p+2)%64,3)) \/
  (3<s.size-p/\bt s p/8=30/\bt s (p+1)/64=2/\bt s (p+2)/64=2/\bt s (p+3)/64=2/\65536<=bt s p%8*262144+bt s (p+1)%64*4096+bt s (p+2)%64*64+bt s (p+3)%64/\Utf8.decode s p=(bt s p%8*262144+bt s (p+1)%64*4096+bt s (p+2)%64*64+bt s (p+3)%64,4)):=by
 have hn:Utf8.decode s p≠(65533,1):=by simpa [bad] using hb
 have e:=jR s p
 rcases lO (s.size-p) (bt s p) (bt s (p+1)) (bt s (p+2)) (bt s (p+3)) with k | ⟨a1,k⟩ | ⟨a1,a2,a3,a4,k⟩ | ⟨a1,a2,a3,a4,a5,a6,k⟩ | ⟨a1,a2,a3,a4,a5,a6,a7,k⟩
 ·rw [k] at e;exact absurd e hn
 ·rw [k] at e;exact .inl ⟨a1,e⟩
 ·rw [k] at e;exact .inr (.inl ⟨a1,a2,a3,a4,e⟩)
 ·rw [k] at e;exact .inr (.inr (.inl ⟨a1,a2,a3,a4,a5,e⟩))
 ·rw [k] at e;exact .inr (.inr (.inr ⟨a1,a2,a3,a4,a5,a6,e⟩))
def aH5(b0 n:Nat)(c0:Int):Prop:=(n=2/\192<=b0/\b0<224/\c0=b0-192)\/(n=3/\224<=b0/\b0<240/\c0=b0-224)\/(n=4/\240<=b0/\b0<248/\c0=b0-240)
def cvF(s:ByteArray)(p:Nat)(c0:Int):Nat->Int
 | 0=>c0
 | j+1=>64*cvF s p c0 j+bt s (p+(j+1))-128
def oH(s:ByteArray)(p k:Nat):Prop:=∀ j,1<=j->j<k->128<=bt s (p+j)/\bt s (p+j)<=191
theorem nV{s:ByteArray}{p:Nat}{c0:Int}(h0:0<=c0)(h1:c0<=31):∀ j,j<=3->oH s p (j+1)->0<=cvF s p c0 j/\cvF s p c0 j<16777216
 | 0,_,_=>by simp [cvF];omega
 | 1,_,hc=>by have c1:=hc 1 (by omega) (by omega);simp only [cvF,m7];omega
 | 2,_,hc=>by have c1:=hc 1 (by omega) (by omega);have c2:=hc 2 (by omega) (by omega);simp only [cvF,m7,Nat.reduceAdd];omega
 | 3,_,hc=>by have c1:=hc 1 (by omega) (by omega);have c2:=hc 2 (by omega) (by omega);have c3:=hc 3 (by omega) (by omega);simp only [cvF,m7,Nat.reduceAdd];omega
theorem aU0{s:ByteArray}{p:Nat}(h:(128<=bt s p/\bt s p<192)\/248<=bt s p):bad s p=true:=by
 rcases hb:bad s p with _ | _
 ·exfalso
  have:=mZ s p
  rcases eV hb with⟨a1,_⟩ | ⟨_,a2,_⟩ | ⟨_,a2,_⟩ | ⟨_,a2,_⟩ <;> omega
 ·rfl
theorem nY{s:ByteArray}{p n:Nat}{c0:Int}(h:aH5 (bt s p) n c0)(hn:s.size-p<n):bad s p=true:=by
 rcases hb:bad s p with _ | _
 ·exfalso
  rcases h with h | h | h <;> rcases eV hb with⟨a1,_⟩ | ⟨_,a2,_⟩ | ⟨_,a2,_⟩ | ⟨_,a2,_⟩ <;> omega
 ·rfl
theorem iH{s:ByteArray}{p n j:Nat}{c0:Int}(h:aH5 (bt s p) n c0)(h1:1<=j)(hj:j<n)(hb':bt s (p+j)<128\/191<bt s (p+j)):bad s p=true:=by
 rcases hb:bad s p with _ | _
 ·exfalso
  have hj':j=1\/j=2\/j=3:=by rcases h with h | h | h <;> omega
  rcases hj' with rfl | rfl | rfl <;> rcases h with h | h | h <;> rcases eV hb with⟨a1,_⟩ | ⟨_,a2,a3,_⟩ | ⟨_,a2,a3,a4,_⟩ | ⟨_,a2,a3,a4,a5,_⟩ <;> omega
 ·rfl
theorem iC{s:ByteArray}{p n:Nat}{c0:Int}(h:aH5 (bt s p) n c0)(hc:oH s p n)(hb:bad s p=false):(Utf8.decode s p).1=cvF s p c0 (n-1)/\wd s p=n:=by
 unfold wd
 rcases h with⟨rfl,h⟩ | ⟨rfl,h⟩ | ⟨rfl,h⟩
 ·have c1:=hc 1 (by omega) (by omega)
  rcases eV hb with⟨a1,e⟩ | ⟨_,a2,a3,_,e⟩ | ⟨_,a2,a3,a4,_,e⟩ | ⟨_,a2,a3,a4,a5,_,e⟩
  ·omega
  ·have e2:cvF s p c0 (2-1)=64*c0+bt s (p+1)-128:=rfl
   rw [e,e2]
   refine⟨?_,rfl⟩
   simp only
   omega
  ·omega
  ·omega
 ·have c1:=hc 1 (by omega) (by omega)
  have c2:=hc 2 (by omega) (by omega)
  rcases eV hb with⟨a1,e⟩ | ⟨_,a2,a3,_,e⟩ | ⟨_,a2,a3,a4,_,e⟩ | ⟨_,a2,a3,a4,a5,_,e⟩
  ·omega
  ·omega
  ·have e2:cvF s p c0 (3-1)=64*(64*c0+bt s (p+1)-128)+bt s (p+2)-128:=rfl
   rw [e,e2]
   refine⟨?_,rfl⟩
   simp only
   omega
  ·omega
 ·have c1:=hc 1 (by omega) (by omega)
  have c2:=hc 2 (by omega) (by omega)
  have c3:=hc 3 (by omega) (by omega)
  rcases eV hb with⟨a1,e⟩ | ⟨_,a2,a3,_,e⟩ | ⟨_,a2,a3,a4,_,e⟩ | ⟨_,a2,a3,a4,a5,_,e⟩
  ·omega
  ·omega
  ·omega
  ·have e2:cvF s p c0 (4-1)=64*(64*(64*c0+bt s (p+1)-128)+bt s (p+2)-128)+bt s (p+3)-128:=rfl
   rw [e,e2]
   refine⟨?_,rfl⟩
   simp only
   omega
section
attribute [local go_sem] aU
theorem bS{s:ByteArray}{p:Nat}(h:bad s p=true):ch s p=-1/\wd s p=1:=⟨(aT1 h).1,(aT1 h).2.1⟩
theorem lL(s:ByteArray)(p n:Nat):(s.extract p (p+n)).toList=sl s p n:=by rw [Lib.toList_data,bM5]
theorem zA(s:ByteArray)(p:Nat)(w:World)(hp:p<s.size)(hs:s.size<=1099511627776) :
  Calls Tryz.prog 49 #[.string s,.int .i64 (p:Int)] w fun e w'=>e=.returned (.tuple #[.int .i64 (ch s p),.int .i64 (wd s p:Int)])/\Below w.heap.size w w':=by
 have h0:¬ (p:Int)<0:=by omega
 have h1:¬ (s.size:Int)<=(p:Int):=by omega
 have h2:(0:Int)<=(p:Int):=by omega
 have h3:(p:Int)<(s.size:Int):=by omega
 have g0:=lS s p hp
 obtain⟨b0,hb0⟩:∃ b,bt s p=b:=⟨_,rfl⟩
 have hbl:=mZ s p
 rw [hb0] at g0 hbl
 have wb:IntKind.wrap .i64 (b0:Int)=(b0:Int):=wrap_small _ (by omega) (by omega)
 have HB:Hid (bt s p=b0):=hb0
 clear hb0
 by_cases k1:(b0:Int)<128
 ·have E:Hid (ch s p=(b0:Int)/\wd s p=1):=by
   show ch s p=(b0:Int)/\wd s p=1
   have e:Utf8.decode s p=(b0,1):=by
    rw [jR,HB.out]
    unfold Lib.decodeN
    rw [if_pos (by omega)]
   have hb:bad s p=false:=by unfold bad;rw [e];simp;omega
   exact⟨by rw [oX hb,e],by unfold wd;rw [e]⟩
  go_enter Tryz.func49,Tryz.ntmps49
  go_wp2
  go_ret2
  rw [E.out.1,E.out.2]
  exact⟨rfl,Below.refl _ _⟩
 by_cases k2:¬ ((192:Int)<=(b0:Int)/\(b0:Int)<248)
 ·have E:Hid (ch s p=-1/\wd s p=1):=bS (aU0 (by rw [HB.out];omega))
  have k5:¬ ((192:Int)<=(b0:Int)/\(b0:Int)<224):=by omega
  have k6:¬ ((224:Int)<=(b0:Int)/\(b0:Int)<240):=by omega
  have k7:¬ ((240:Int)<=(b0:Int)/\(b0:Int)<248):=by omega
  by_cases k3:(b0:Int)<192
  ·have k4:¬ (192:Int)<=(b0:Int):=by omega
   have k8:¬ (224:Int)<=(b0:Int):=by omega
   have k9:¬ (240:Int)<=(b0:Int):=by omega
   clear k2 k5 k6 k7
   go_enter Tryz.func49,Tryz.ntmps49
   go_wp2
   go_ret2
   rw [E.out.1,E.out.2]
   exact⟨rfl,Below.refl _ _⟩
  ·have j1:(192:Int)<=(b0:Int):=by omega
   have j2:(224:Int)<=(b0:Int):=by omega
   have j3:(240:Int)<=(b0:Int):=by omega
   have j4:¬ (b0:Int)<224:=by omega
   have j5:¬ (b0:Int)<240:=by omega
   have j6:¬ (b0:Int)<248:=by omega
   clear k2 k5 k6 k7
   go_enter Tryz.func49,Tryz.ntmps49
   go_wp2
   go_ret2
   rw [E.out.1,E.out.2]
   exact⟨rfl,Below.refl _ _⟩
 obtain⟨n,c0,hLd⟩:∃ n c0,aH5 b0 n c0:=by
  by_cases q1:b0<224
  ·exact⟨2,_,.inl ⟨rfl,by omega,q1,rfl⟩⟩
  by_cases q2:b0<240
  ·exact⟨3,_,.inr (.inl ⟨rfl,by omega,q2,rfl⟩)⟩
  ·exact⟨4,_,.inr (.inr ⟨rfl,by omega,by omega,rfl⟩)⟩
 have LD:Hid (aH5 (bt s p) n c0):=by show aH5 (bt s p) n c0;rw [HB.out];exact hLd
 have hc0:0<=c0/\c0<=31:=by rcases hLd with h | h | h <;> omega
 have hwsp:IntKind.wrap .i64 ((s.size:Int)-(p:Int))=(s.size:Int)-(p:Int):=wrap_small _ (by omega) (by omega)
 go_enter Tryz.func49,Tryz.ntmps49
 rcases hLd with⟨rfl,l1,l2,l3⟩ | ⟨rfl,l1,l2,l3⟩ | ⟨rfl,l1,l2,l3⟩
 ·have j1:(192:Int)<=(b0:Int):=by omega
  have j4:(b0:Int)<224:=by omega
  have v1:IntKind.wrap .i64 ((b0:Int)-192)=c0:=by rw [wrap_small _ (by omega) (by omega)];omega
  clear k2 l1 l2 l3
  go_upto_region 16 with fail
  by_cases hsh:s.size-p<2
  ·have E:Hid (ch s p=-1/\wd s p=1):=bS (nY LD.out hsh)
   have q1:(s.size:Int)-(p:Int)<2:=by omega
   go_wp2
   go_ret2
   rw [E.out.1,E.out.2]
   exact⟨rfl,Below.refl _ _⟩
  have q1:¬ (s.size:Int)-(p:Int)<2:=by omega
  have hpn:p+2<=s.size:=by omega
  clear hsh
  go_wp2
  go_loopw [7,8] (fun t i wr=>∃ k:Nat,1<=k/\k<=2/\i=.int .i64 (k:Int)/\t=.int .i64 (cvF s p c0 (k-1))/\oH s p k/\wr=w) (fun _ i _=>2-(intOf i).toNat)
  case atStart=>exact⟨1,by omega,by omega,rfl,rfl,fun j h1 h2=>by omega,rfl⟩
  case round=>
   obtain⟨k,hk1,hk,rfl,rfl,hct,hw⟩:=hrel
   subst hw
   obtain⟨j,rfl⟩:∃ j,k=j+1:=⟨k-1,by omega⟩
   rw [aBR]
   have C:Hid (oH s p (j+1)):=hct
   have hcr:=nV (s:=s) (p:=p) hc0.1 hc0.2 j (by omega) hct
   obtain⟨cv,hcv⟩:∃ cv,cvF s p c0 j=cv:=⟨_,rfl⟩
   have HCV:Hid (cvF s p c0 j=cv):=hcv
   rw [hcv] at hcr ⊢
   clear hcv hct
   by_cases hlt:j+1<2
   ·have gk:=lS s (p+(j+1)) (by omega)
    obtain⟨bk,hbk⟩:∃ b,bt s (p+(j+1))=b:=⟨_,rfl⟩
    have hbkl:=mZ s (p+(j+1))
    rw [hbk] at gk hbkl
    have HBK:Hid (bt s (p+(j+1))=bk):=hbk
    clear hbk
    have i1:((j+1:Nat):Int)<2:=by omega
    have wbk:IntKind.wrap .i64 (bk:Int)=(bk:Int):=wrap_small _ (by omega) (by omega)
    have wix:IntKind.wrap .i64 ((p:Int)+((j+1:Nat):Int))=((p+(j+1):Nat):Int):=by rw [wrap_small _ (by omega) (by omega)];omega
    have x0:(0:Int)<=((p+(j+1):Nat):Int):=by omega
    have x1:((p+(j+1):Nat):Int)<(s.size:Int):=by omega
    have x2:((p+(j+1):Nat):Int).toNat=p+(j+1):=by omega
    obtain⟨ix,hix⟩:∃ ix,p+(j+1)=ix:=⟨_,rfl⟩
    obtain⟨jj,hjj⟩:∃ jj,j+1=jj:=⟨_,rfl⟩
    have ixl:ix<s.size:=by omega
    have gx:(s[ix]'ixl).toNat=bk:=by subst hix;exact gk
    clear gk
    rw [hix] at wix x0 x1 x2
    rw [hjj] at wix i1 ⊢
    have HJ:Hid (j+1=jj):=hjj
    have HIX:Hid (p+(j+1)=ix):=hix
    clear hjj hix
    by_cases b1:(bk:Int)<128
    ·have E:Hid (ch s p=-1/\wd s p=1):=bS (iH LD.out (j:=j+1) (by omega) hlt (.inl (by rw [HBK.out];omega)))
     go_wp2
     go_ret2
     rw [E.out.1,E.out.2]
     exact⟨rfl,Below.refl _ _⟩
    by_cases b2:(191:Int)<(bk:Int)
    ·have E:Hid (ch s p=-1/\wd s p=1):=bS (iH LD.out (j:=j+1) (by omega) hlt (.inr (by rw [HBK.out];omega)))
     go_wp2
     go_ret2
     rw [E.out.1,E.out.2]
     exact⟨rfl,Below.refl _ _⟩
    have y1:IntKind.wrap .i64 (64*cv)=64*cv:=wrap_small _ (by omega) (by omega)
    have y2:IntKind.wrap .i64 (64*cv+(bk:Int))=64*cv+(bk:Int):=wrap_small _ (by omega) (by omega)
    have y3:IntKind.wrap .i64 (64*cv+(bk:Int)-128)=64*cv+(bk:Int)-128:=wrap_small _ (by omega) (by omega)
    have y4:IntKind.wrap .i64 ((jj:Int)+1)=(jj:Int)+1:=wrap_small _ (by omega) (by omega)
    go_wp2
    go_roundw
    case rel=>
     refine⟨jj+1,by omega,by have:=HJ.out;omega,by go_num,?_,fun i q1 q2=>?_,by first | rfl | trivial⟩
     ·rw [aBR,<- HJ.out,cvF,HCV.out,HBK.out]
     ·by_cases e:i<j+1
      ·exact C.out i q1 e
      ·obtain rfl:i=j+1:=by have:=HJ.out;omega
       rw [HBK.out];omega
    case measure=>simp only [intOf];have:=HJ.out;omega
   ·obtain rfl:j=2-1:=by omega
    have i1:¬ (((2:Nat)-1+1:Nat):Int)<2:=by omega
    have his:=aM5 cv
    have wpn:IntKind.wrap .i64 ((p:Int)+2)=(p:Int)+2:=wrap_small _ (by omega) (by omega)
    have z1:(p:Int)<=(p:Int)+2:=by omega
    have z2:(p:Int)+2<=(s.size:Int):=by omega
    have z3:((p:Int)+2).toNat=p+2:=by omega
    rcases hcx:isC cv with _ | _
    ·rw [hcx] at his
     have E:Hid (ch s p=-1/\wd s p=1):=by
      refine bS ?_
      rcases hb:bad s p with _ | _
      ·exfalso
       have gv:=iC LD.out C.out hb
       have hv:=nU s p
       rw [gv.1,HCV.out] at hv
       simp [isC] at hcx
       simp [Lib.validRune] at hv
       omega
      ·rfl
     go_wp2_with (go_at_call 76;(with_reducible refine(his _).mono ?_);rintro e w5 ⟨rfl,h5⟩;subst w5)
     refine wx9 ?_
     repeat (go_big_quiet_step (first | exact rfl))
     refine wpQuiet_nil ?_
     intro w5 hw5
     have B5:Hid (Below wr.heap.size wr w5):=aM hw5
     clear hw5
     go_wp2
     go_ret2
     rw [E.out.1,E.out.2]
     exact⟨rfl,B5.out⟩
    ·rw [hcx] at his
     have hEx:Hid (∀ W,Calls Tryz.prog 77 #[.int .i64 cv] W fun e w'=>e=.returned (.string (txt (Lib.encodeRune cv)))/\Below W.heap.size W w'):=fun W=>sI cv W hcx
     have hir:0<=cv/\cv<=1114111/\(cv<55296\/57343<cv):=by simpa [isC] using hcx
     have HIR:Hid _:=hir
     obtain⟨T,hT⟩:∃ T,txt (Lib.encodeRune cv)=T:=⟨_,rfl⟩
     rw [hT] at hEx
     have hTl:T.toList=Lib.encodeRune cv:=by rw [<- hT,Lib.toList_data];rfl
     have hsl:=lL s p 2
     by_cases heq:Lib.encodeRune cv=sl s p 2
     ·have hcmp:(T.toList==(s.extract p (p+2)).toList)=true:=by rw [hTl,hsl,heq];simp
      have E:Hid (ch s p=cv/\wd s p=2):=by
       show ch s p=cv/\wd s p=2
       have hl:(Lib.encodeRune cv).length=2:=by rw [heq];unfold sl;rw [aAG,aAR,eT];omega
       have d:=lN HIR.out (by rw [hl];exact heq.symm)
       exact⟨by rw [oX d.2.2,d.1],by rw [d.2.1,hl]⟩
      clear hT hTl hsl heq hir
      go_wp2_with (go_at_call 76;(with_reducible refine(his _).mono ?_);rintro e w5 ⟨rfl,h5⟩;subst w5)
      refine wx9 ?_
      repeat (go_big_quiet_step (first | exact rfl |(go_at_call 77;exact dJ (hEx.out _))))
      refine wpQuiet_nil ?_
      intro w5 hw5
      have B5:Hid (Below wr.heap.size wr w5):=aM hw5
      clear hw5
      go_wp2
      go_ret2
      rw [E.out.1,E.out.2]
      exact⟨rfl,B5.out⟩
     ·have hcmp:(T.toList==(s.extract p (p+2)).toList)=false:=by rw [hTl,hsl];simpa using heq
      have E:Hid (ch s p=-1/\wd s p=1):=by
       refine bS ?_
       rcases hb:bad s p with _ | _
       ·exfalso
        have gv:=iC LD.out C.out hb
        have es:=yI s p hp hb
        rw [gv.2,gv.1,HCV.out] at es
        exact heq es
       ·rfl
      clear hT hTl hsl heq hir
      go_wp2_with (go_at_call 76;(with_reducible refine(his _).mono ?_);rintro e w5 ⟨rfl,h5⟩;subst w5)
      refine wx9 ?_
      repeat (go_big_quiet_step (first | exact rfl |(go_at_call 77;exact dJ (hEx.out _))))
      refine wpQuiet_nil ?_
      intro w5 hw5
      have B5:Hid (Below wr.heap.size wr w5):=aM hw5
      clear hw5
      go_wp2
      go_ret2
      rw [E.out.1,E.out.2]
      exact⟨rfl,B5.out⟩
 ·have j1:(224:Int)<=(b0:Int):=by omega
  have j4:(b0:Int)<240:=by omega
  have j6:(192:Int)<=(b0:Int):=by omega
  have j7:¬ (b0:Int)<224:=by omega
  have v1:IntKind.wrap .i64 ((b0:Int)-224)=c0:=by rw [wrap_small _ (by omega) (by omega)];omega
  clear k2 l1 l2 l3
  go_upto_region 16 with fail
  by_cases hsh:s.size-p<3
  ·have E:Hid (ch s p=-1/\wd s p=1):=bS (nY LD.out hsh)
   have q1:(s.size:Int)-(p:Int)<3:=by omega
   go_wp2
   go_ret2
   rw [E.out.1,E.out.2]
   exact⟨rfl,Below.refl _ _⟩
  have q1:¬ (s.size:Int)-(p:Int)<3:=by omega
  have hpn:p+3<=s.size:=by omega
  clear hsh
  go_wp2
  go_loopw [7,8] (fun t i wr=>∃ k:Nat,1<=k/\k<=3/\i=.int .i64 (k:Int)/\t=.int .i64 (cvF s p c0 (k-1))/\oH s p k/\wr=w) (fun _ i _=>3-(intOf i).toNat)
  case atStart=>exact⟨1,by omega,by omega,rfl,rfl,fun j h1 h2=>by omega,rfl⟩
  case round=>
   obtain⟨k,hk1,hk,rfl,rfl,hct,hw⟩:=hrel
   subst hw
   obtain⟨j,rfl⟩:∃ j,k=j+1:=⟨k-1,by omega⟩
   rw [aBR]
   have C:Hid (oH s p (j+1)):=hct
   have hcr:=nV (s:=s) (p:=p) hc0.1 hc0.2 j (by omega) hct
   obtain⟨cv,hcv⟩:∃ cv,cvF s p c0 j=cv:=⟨_,rfl⟩
   have HCV:Hid (cvF s p c0 j=cv):=hcv
   rw [hcv] at hcr ⊢
   clear hcv hct
   by_cases hlt:j+1<3
   ·have gk:=lS s (p+(j+1)) (by omega)
    obtain⟨bk,hbk⟩:∃ b,bt s (p+(j+1))=b:=⟨_,rfl⟩
    have hbkl:=mZ s (p+(j+1))
    rw [hbk] at gk hbkl
    have HBK:Hid (bt s (p+(j+1))=bk):=hbk
    clear hbk
    have i1:((j+1:Nat):Int)<3:=by omega
    have wbk:IntKind.wrap .i64 (bk:Int)=(bk:Int):=wrap_small _ (by omega) (by omega)
    have wix:IntKind.wrap .i64 ((p:Int)+((j+1:Nat):Int))=((p+(j+1):Nat):Int):=by rw [wrap_small _ (by omega) (by omega)];omega
    have x0:(0:Int)<=((p+(j+1):Nat):Int):=by omega
    have x1:((p+(j+1):Nat):Int)<(s.size:Int):=by omega
    have x2:((p+(j+1):Nat):Int).toNat=p+(j+1):=by omega
    obtain⟨ix,hix⟩:∃ ix,p+(j+1)=ix:=⟨_,rfl⟩
    obtain⟨jj,hjj⟩:∃ jj,j+1=jj:=⟨_,rfl⟩
    have ixl:ix<s.size:=by omega
    have gx:(s[ix]'ixl).toNat=bk:=by subst hix;exact gk
    clear gk
    rw [hix] at wix x0 x1 x2
    rw [hjj] at wix i1 ⊢
    have HJ:Hid (j+1=jj):=hjj
    have HIX:Hid (p+(j+1)=ix):=hix
    clear hjj hix
    by_cases b1:(bk:Int)<128
    ·have E:Hid (ch s p=-1/\wd s p=1):=bS (iH LD.out (j:=j+1) (by omega) hlt (.inl (by rw [HBK.out];omega)))
     go_wp2
     go_ret2
     rw [E.out.1,E.out.2]
     exact⟨rfl,Below.refl _ _⟩
    by_cases b2:(191:Int)<(bk:Int)
    ·have E:Hid (ch s p=-1/\wd s p=1):=bS (iH LD.out (j:=j+1) (by omega) hlt (.inr (by rw [HBK.out];omega)))
     go_wp2
     go_ret2
     rw [E.out.1,E.out.2]
     exact⟨rfl,Below.refl _ _⟩
    have y1:IntKind.wrap .i64 (64*cv)=64*cv:=wrap_small _ (by omega) (by omega)
    have y2:IntKind.wrap .i64 (64*cv+(bk:Int))=64*cv+(bk:Int):=wrap_small _ (by omega) (by omega)
    have y3:IntKind.wrap .i64 (64*cv+(bk:Int)-128)=64*cv+(bk:Int)-128:=wrap_small _ (by omega) (by omega)
    have y4:IntKind.wrap .i64 ((jj:Int)+1)=(jj:Int)+1:=wrap_small _ (by omega) (by omega)
    go_wp2
    go_roundw
    case rel=>
     refine⟨jj+1,by omega,by have:=HJ.out;omega,by go_num,?_,fun i q1 q2=>?_,by first | rfl | trivial⟩
     ·rw [aBR,<- HJ.out,cvF,HCV.out,HBK.out]
     ·by_cases e:i<j+1
      ·exact C.out i q1 e
      ·obtain rfl:i=j+1:=by have:=HJ.out;omega
       rw [HBK.out];omega
    case measure=>simp only [intOf];have:=HJ.out;omega
   ·obtain rfl:j=3-1:=by omega
    have i1:¬ (((3:Nat)-1+1:Nat):Int)<3:=by omega
    have his:=aM5 cv
    have wpn:IntKind.wrap .i64 ((p:Int)+3)=(p:Int)+3:=wrap_small _ (by omega) (by omega)
    have z1:(p:Int)<=(p:Int)+3:=by omega
    have z2:(p:Int)+3<=(s.size:Int):=by omega
    have z3:((p:Int)+3).toNat=p+3:=by omega
    rcases hcx:isC cv with _ | _
    ·rw [hcx] at his
     have E:Hid (ch s p=-1/\wd s p=1):=by
      refine bS ?_
      rcases hb:bad s p with _ | _
      ·exfalso
       have gv:=iC LD.out C.out hb
       have hv:=nU s p
       rw [gv.1,HCV.out] at hv
       simp [isC] at hcx
       simp [Lib.validRune] at hv
       omega
      ·rfl
     go_wp2_with (go_at_call 76;(with_reducible refine(his _).mono ?_);rintro e w5 ⟨rfl,h5⟩;subst w5)
     refine wx9 ?_
     repeat (go_big_quiet_step (first | exact rfl))
     refine wpQuiet_nil ?_
     intro w5 hw5
     have B5:Hid (Below wr.heap.size wr w5):=aM hw5
     clear hw5
     go_wp2
     go_ret2
     rw [E.out.1,E.out.2]
     exact⟨rfl,B5.out⟩
    ·rw [hcx] at his
     have hEx:Hid (∀ W,Calls Tryz.prog 77 #[.int .i64 cv] W fun e w'=>e=.returned (.string (txt (Lib.encodeRune cv)))/\Below W.heap.size W w'):=fun W=>sI cv W hcx
     have hir:0<=cv/\cv<=1114111/\(cv<55296\/57343<cv):=by simpa [isC] using hcx
     have HIR:Hid _:=hir
     obtain⟨T,hT⟩:∃ T,txt (Lib.encodeRune cv)=T:=⟨_,rfl⟩
     rw [hT] at hEx
     have hTl:T.toList=Lib.encodeRune cv:=by rw [<- hT,Lib.toList_data];rfl
     have hsl:=lL s p 3
     by_cases heq:Lib.encodeRune cv=sl s p 3
     ·have hcmp:(T.toList==(s.extract p (p+3)).toList)=true:=by rw [hTl,hsl,heq];simp
      have E:Hid (ch s p=cv/\wd s p=3):=by
       show ch s p=cv/\wd s p=3
       have hl:(Lib.encodeRune cv).length=3:=by rw [heq];unfold sl;rw [aAG,aAR,eT];omega
       have d:=lN HIR.out (by rw [hl];exact heq.symm)
       exact⟨by rw [oX d.2.2,d.1],by rw [d.2.1,hl]⟩
      clear hT hTl hsl heq hir
      go_wp2_with (go_at_call 76;(with_reducible refine(his _).mono ?_);rintro e w5 ⟨rfl,h5⟩;subst w5)
      refine wx9 ?_
      repeat (go_big_quiet_step (first | exact rfl |(go_at_call 77;exact dJ (hEx.out _))))
      refine wpQuiet_nil ?_
      intro w5 hw5
      have B5:Hid (Below wr.heap.size wr w5):=aM hw5
      clear hw5
      go_wp2
      go_ret2
      rw [E.out.1,E.out.2]
      exact⟨rfl,B5.out⟩
     ·have hcmp:(T.toList==(s.extract p (p+3)).toList)=false:=by rw [hTl,hsl];simpa using heq
      have E:Hid (ch s p=-1/\wd s p=1):=by
       refine bS ?_
       rcases hb:bad s p with _ | _
       ·exfalso
        have gv:=iC LD.out C.out hb
        have es:=yI s p hp hb
        rw [gv.2,gv.1,HCV.out] at es
        exact heq es
       ·rfl
      clear hT hTl hsl heq hir
      go_wp2_with (go_at_call 76;(with_reducible refine(his _).mono ?_);rintro e w5 ⟨rfl,h5⟩;subst w5)
      refine wx9 ?_
      repeat (go_big_quiet_step (first | exact rfl |(go_at_call 77;exact dJ (hEx.out _))))
      refine wpQuiet_nil ?_
      intro w5 hw5
      have B5:Hid (Below wr.heap.size wr w5):=aM hw5
      clear hw5
      go_wp2
      go_ret2
      rw [E.out.1,E.out.2]
      exact⟨rfl,B5.out⟩
 ·have j1:(240:Int)<=(b0:Int):=by omega
  have j4:(b0:Int)<248:=by omega
  have j6:(192:Int)<=(b0:Int):=by omega
  have j7:¬ (b0:Int)<224:=by omega
  have j8:(224:Int)<=(b0:Int):=by omega
  have j9:¬ (b0:Int)<240:=by omega
  have v1:IntKind.wrap .i64 ((b0:Int)-240)=c0:=by rw [wrap_small _ (by omega) (by omega)];omega
  clear k2 l1 l2 l3
  go_upto_region 16 with fail
  by_cases hsh:s.size-p<4
  ·have E:Hid (ch s p=-1/\wd s p=1):=bS (nY LD.out hsh)
   have q1:(s.size:Int)-(p:Int)<4:=by omega
   go_wp2
   go_ret2
   rw [E.out.1,E.out.2]
   exact⟨rfl,Below.refl _ _⟩
  have q1:¬ (s.size:Int)-(p:Int)<4:=by omega
  have hpn:p+4<=s.size:=by omega
  clear hsh
  go_wp2
  go_loopw [7,8] (fun t i wr=>∃ k:Nat,1<=k/\k<=4/\i=.int .i64 (k:Int)/\t=.int .i64 (cvF s p c0 (k-1))/\oH s p k/\wr=w) (fun _ i _=>4-(intOf i).toNat)
  case atStart=>exact⟨1,by omega,by omega,rfl,rfl,fun j h1 h2=>by omega,rfl⟩
  case round=>
   obtain⟨k,hk1,hk,rfl,rfl,hct,hw⟩:=hrel
   subst hw
   obtain⟨j,rfl⟩:∃ j,k=j+1:=⟨k-1,by omega⟩
   rw [aBR]
   have C:Hid (oH s p (j+1)):=hct
   have hcr:=nV (s:=s) (p:=p) hc0.1 hc0.2 j (by omega) hct
   obtain⟨cv,hcv⟩:∃ cv,cvF s p c0 j=cv:=⟨_,rfl⟩
   have HCV:Hid (cvF s p c0 j=cv):=hcv
   rw [hcv] at hcr ⊢
   clear hcv hct
   by_cases hlt:j+1<4
   ·have gk:=lS s (p+(j+1)) (by omega)
    obtain⟨bk,hbk⟩:∃ b,bt s (p+(j+1))=b:=⟨_,rfl⟩
    have hbkl:=mZ s (p+(j+1))
    rw [hbk] at gk hbkl
    have HBK:Hid (bt s (p+(j+1))=bk):=hbk
    clear hbk
    have i1:((j+1:Nat):Int)<4:=by omega
    have wbk:IntKind.wrap .i64 (bk:Int)=(bk:Int):=wrap_small _ (by omega) (by omega)
    have wix:IntKind.wrap .i64 ((p:Int)+((j+1:Nat):Int))=((p+(j+1):Nat):Int):=by rw [wrap_small _ (by omega) (by omega)];omega
    have x0:(0:Int)<=((p+(j+1):Nat):Int):=by omega
    have x1:((p+(j+1):Nat):Int)<(s.size:Int):=by omega
    have x2:((p+(j+1):Nat):Int).toNat=p+(j+1):=by omega
    obtain⟨ix,hix⟩:∃ ix,p+(j+1)=ix:=⟨_,rfl⟩
    obtain⟨jj,hjj⟩:∃ jj,j+1=jj:=⟨_,rfl⟩
    have ixl:ix<s.size:=by omega
    have gx:(s[ix]'ixl).toNat=bk:=by subst hix;exact gk
    clear gk
    rw [hix] at wix x0 x1 x2
    rw [hjj] at wix i1 ⊢
    have HJ:Hid (j+1=jj):=hjj
    have HIX:Hid (p+(j+1)=ix):=hix
    clear hjj hix
    by_cases b1:(bk:Int)<128
    ·have E:Hid (ch s p=-1/\wd s p=1):=bS (iH LD.out (j:=j+1) (by omega) hlt (.inl (by rw [HBK.out];omega)))
     go_wp2
     go_ret2
     rw [E.out.1,E.out.2]
     exact⟨rfl,Below.refl _ _⟩
    by_cases b2:(191:Int)<(bk:Int)
    ·have E:Hid (ch s p=-1/\wd s p=1):=bS (iH LD.out (j:=j+1) (by omega) hlt (.inr (by rw [HBK.out];omega)))
     go_wp2
     go_ret2
     rw [E.out.1,E.out.2]
     exact⟨rfl,Below.refl _ _⟩
    have y1:IntKind.wrap .i64 (64*cv)=64*cv:=wrap_small _ (by omega) (by omega)
    have y2:IntKind.wrap .i64 (64*cv+(bk:Int))=64*cv+(bk:Int):=wrap_small _ (by omega) (by omega)
    have y3:IntKind.wrap .i64 (64*cv+(bk:Int)-128)=64*cv+(bk:Int)-128:=wrap_small _ (by omega) (by omega)
    have y4:IntKind.wrap .i64 ((jj:Int)+1)=(jj:Int)+1:=wrap_small _ (by omega) (by omega)
    go_wp2
    go_roundw
    case rel=>
     refine⟨jj+1,by omega,by have:=HJ.out;omega,by go_num,?_,fun i q1 q2=>?_,by first | rfl | trivial⟩
     ·rw [aBR,<- HJ.out,cvF,HCV.out,HBK.out]
     ·by_cases e:i<j+1
      ·exact C.out i q1 e
      ·obtain rfl:i=j+1:=by have:=HJ.out;omega
       rw [HBK.out];omega
    case measure=>simp only [intOf];have:=HJ.out;omega
   ·obtain rfl:j=4-1:=by omega
    have i1:¬ (((4:Nat)-1+1:Nat):Int)<4:=by omega
    have his:=aM5 cv
    have wpn:IntKind.wrap .i64 ((p:Int)+4)=(p:Int)+4:=wrap_small _ (by omega) (by omega)
    have z1:(p:Int)<=(p:Int)+4:=by omega
    have z2:(p:Int)+4<=(s.size:Int):=by omega
    have z3:((p:Int)+4).toNat=p+4:=by omega
    rcases hcx:isC cv with _ | _
    ·rw [hcx] at his
     have E:Hid (ch s p=-1/\wd s p=1):=by
      refine bS ?_
      rcases hb:bad s p with _ | _
      ·exfalso
       have gv:=iC LD.out C.out hb
       have hv:=nU s p
       rw [gv.1,HCV.out] at hv
       simp [isC] at hcx
       simp [Lib.validRune] at hv
       omega
      ·rfl
     go_wp2_with (go_at_call 76;(with_reducible refine(his _).mono ?_);rintro e w5 ⟨rfl,h5⟩;subst w5)
     refine wx9 ?_
     repeat (go_big_quiet_step (first | exact rfl))
     refine wpQuiet_nil ?_
     intro w5 hw5
     have B5:Hid (Below wr.heap.size wr w5):=aM hw5
     clear hw5
     go_wp2
     go_ret2
     rw [E.out.1,E.out.2]
     exact⟨rfl,B5.out⟩
    ·rw [hcx] at his
     have hEx:Hid (∀ W,Calls Tryz.prog 77 #[.int .i64 cv] W fun e w'=>e=.returned (.string (txt (Lib.encodeRune cv)))/\Below W.heap.size W w'):=fun W=>sI cv W hcx
     have hir:0<=cv/\cv<=1114111/\(cv<55296\/57343<cv):=by simpa [isC] using hcx
     have HIR:Hid _:=hir
     obtain⟨T,hT⟩:∃ T,txt (Lib.encodeRune cv)=T:=⟨_,rfl⟩
     rw [hT] at hEx
     have hTl:T.toList=Lib.encodeRune cv:=by rw [<- hT,Lib.toList_data];rfl
     have hsl:=lL s p 4
     by_cases heq:Lib.encodeRune cv=sl s p 4
     ·have hcmp:(T.toList==(s.extract p (p+4)).toList)=true:=by rw [hTl,hsl,heq];simp
      have E:Hid (ch s p=cv/\wd s p=4):=by
       show ch s p=cv/\wd s p=4
       have hl:(Lib.encodeRune cv).length=4:=by rw [heq];unfold sl;rw [aAG,aAR,eT];omega
       have d:=lN HIR.out (by rw [hl];exact heq.symm)
       exact⟨by rw [oX d.2.2,d.1],by rw [d.2.1,hl]⟩
      clear hT hTl hsl heq hir
      go_wp2_with (go_at_call 76;(with_reducible refine(his _).mono ?_);rintro e w5 ⟨rfl,h5⟩;subst w5)
      refine wx9 ?_
      repeat (go_big_quiet_step (first | exact rfl |(go_at_call 77;exact dJ (hEx.out _))))
      refine wpQuiet_nil ?_
      intro w5 hw5
      have B5:Hid (Below wr.heap.size wr w5):=aM hw5
      clear hw5
      go_wp2
      go_ret2
      rw [E.out.1,E.out.2]
      exact⟨rfl,B5.out⟩
     ·have hcmp:(T.toList==(s.extract p (p+4)).toList)=false:=by rw [hTl,hsl];simpa using heq
      have E:Hid (ch s p=-1/\wd s p=1):=by
       refine bS ?_
       rcases hb:bad s p with _ | _
       ·exfalso
        have gv:=iC LD.out C.out hb
        have es:=yI s p hp hb
        rw [gv.2,gv.1,HCV.out] at es
        exact heq es
       ·rfl
      clear hT hTl hsl heq hir
      go_wp2_with (go_at_call 76;(with_reducible refine(his _).mono ?_);rintro e w5 ⟨rfl,h5⟩;subst w5)
      refine wx9 ?_
      repeat (go_big_quiet_step (first | exact rfl |(go_at_call 77;exact dJ (hEx.out _))))
      refine wpQuiet_nil ?_
      intro w5 hw5
      have B5:Hid (Below wr.heap.size wr w5):=aM hw5
      clear hw5
      go_wp2
      go_ret2
      rw [E.out.1,E.out.2]
      exact⟨rfl,B5.out⟩
end
section
attribute [local go_sem] Oper.semAt_some aU
theorem bI9{w:World}{v:Value}{L:List (Int×Int)}{c:Int}(h:ArgR w v L) :
  Calls Tryz.prog 106 #[v,.int .i64 c] w fun e w'=>e=.returned (.bool (lK L c))/\Below w.heap.size w w':=by
 obtain⟨q,cap,rfl,hlen,-,hcells⟩:=h.slice
 have HC:Hid (∀ (i:Nat) (r:Int×Int),L[i]?=some r->∃ g off,q=some ⟨g,off,none⟩/\g<w.heap.size/\w.cell? ⟨g,off+2*i,none⟩=some (.int .i64 r.1)/\w.cell? ⟨g,off+2*i+1,none⟩=some (.int .i64 r.2)):=hcells
 clear hcells h
 unfold maxLen at hlen
 go_enter Tryz.func106,Tryz.ntmps106
 go_wp2
 go_loopw [5] (fun i wr=>∃ k:Nat,k<=L.length/\i=.int .i64 k/\lK (L.take k) c=false/\Below w.heap.size w wr) (fun i _=>L.length-(intOf i).toNat)
 case atStart=>exact⟨0,o9 _,rfl,rfl,Below.refl _ _⟩
 case round=>
  obtain⟨k,hk,rfl,hno,hbl⟩:=hrel
  have HB:Hid (Below w.heap.size w wr):=hbl
  have HN:Hid (lK (L.take k) c=false):=hno
  clear hbl hno
  by_cases hlt:k<L.length
  ·obtain⟨r,hr⟩:∃ r,L[k]?=some r:=⟨_,g9 hlt⟩
   obtain⟨g,off,rfl,hg,x1,x2⟩:=HC.out k r hr
   have d1:=(HB.out.cell (p:=⟨g,off+2*k,none⟩) hg).trans x1
   have d2:=(HB.out.cell (p:=⟨g,off+2*k+1,none⟩) hg).trans x2
   rw [aBB] at d1 d2
   have HR:Hid (L[k]?=some r):=hr
   have i0:(0:Int)<=(k:Int):=by omega
   have i1:(k:Int)<(L.length:Int):=by omega
   clear x1 x2 hr
   obtain⟨lo,hi⟩:=r
   dsimp only at d1 d2
   by_cases h1:lo<=c
   ·by_cases h2:c<=hi
    ·have F:Hid (lK L c=true):=yB HR.out h1 h2
     have e1:decide (lo<=c)=true:=aAM h1
     have e2:decide (c<=hi)=true:=aAM h2
     go_wp2
     go_ret
     exact⟨by rw [F.out];rfl,HB.out⟩
    ·have E:Hid ((decide (lo<=c)&&decide (c<=hi))=false):=aA (by simp [h2])
     have e1:decide (lo<=c)=true:=aAM h1
     have e2:decide (c<=hi)=false:=r9 h2
     go_wp2
     go_roundw
     case rel=>exact⟨k+1,by omega,by go_num,by rw [rH HR.out,HN.out];exact E.out,HB.out⟩
     case measure=>simp [intOf];omega
   ·have E:Hid ((decide (lo<=c)&&decide (c<=hi))=false):=aA (by simp [h1])
    have e1:decide (lo<=c)=false:=r9 h1
    go_wp2
    go_roundw
    case rel=>exact⟨k+1,by omega,by go_num,by rw [rH HR.out,HN.out];exact E.out,HB.out⟩
    case measure=>simp [intOf];omega
  ·have i1:¬ (k:Int)<(L.length:Int):=by omega
   have E:Hid (lK L c=false):=aA (by have:=HN.out;rwa [o4 (by omega)] at this)
   go_wp2
   go_ret
   exact⟨by rw [E.out];rfl,HB.out⟩
theorem aA7(s:ByteArray)(k:Nat)(c:Bool)(w:World)(hk:k<s.size)(hs:s.size<=1000000) :
  Calls Tryz.prog 105 #[.string s,.int .i64 (k:Int),.bool c] w fun e w'=>e=.returned (.tuple #[.int .i64 (uni c s k).1,.int .i64 ((uni c s k).2:Int)])/\Below w.heap.size w w':=by
 cases c with
 | true=>
  have e:uni true s k=(ch s k,wd s k):=rfl
  rw [e]
  clear e
  have hc:=aA (fun W=>zA s k W hk (by omega))
  dsimp only
  generalize ch s k=x at hc
  generalize wd s k=y at hc
  go_enter Tryz.func105,Tryz.ntmps105
  go_wp2_with (go_at_call 49;(with_reducible refine(hc.out _).mono ?_);rintro e w5 ⟨rfl,h5⟩;have B5:=aA h5;clear h5)
  go_ret2
  exact⟨rfl,B5.out⟩
 | false=>
  have e:uni false s k=((bt s k:Int),1):=rfl
  rw [e]
  clear e
  have i0:¬ (k:Int)<0:=by omega
  have i1:¬ (s.size:Int)<=(k:Int):=by omega
  have i2:(0:Int)<=(k:Int):=by omega
  have i3:(k:Int)<(s.size:Int):=by omega
  have g0:=lS s k hk
  have hb:=mZ s k
  obtain⟨b0,hb0⟩:∃ b,bt s k=b:=⟨_,rfl⟩
  rw [hb0] at g0 hb
  have HB:=aA hb0
  have wb:IntKind.wrap .i64 (b0:Int)=(b0:Int):=wrap_small _ (by omega) (by omega)
  clear hb0
  go_enter Tryz.func105,Tryz.ntmps105
  go_wp2
  go_ret2
  exact⟨by rw [HB.out];rfl,Below.refl _ _⟩
theorem wH(s:ByteArray)(c:Bool)(w:World):Calls Tryz.prog 105 #[.string s,.int .i64 (s.size:Int),.bool c] w fun e w'=>e=.returned (.tuple #[.int .i64 0,.int .i64 0])/\Below w.heap.size w w':=by
 obtain⟨k,hk⟩:∃ k,s.size=k:=⟨_,rfl⟩
 have i0:¬ (k:Int)<0:=by omega
 have i1:(s.size:Int)<=(k:Int):=by omega
 rw [hk]
 cases c with
 | true=>
  have hc:Hid (∀ W,Calls Tryz.prog 49 #[.string s,.int .i64 (k:Int)] W fun e w'=>e=.returned (.tuple #[.int .i64 0,.int .i64 0])/\Below W.heap.size W w'):=fun W=>by
   clear hk
   go_enter Tryz.func49,Tryz.ntmps49
   go_wp2
   go_ret2
   exact⟨rfl,Below.refl _ _⟩
  clear hk
  go_enter Tryz.func105,Tryz.ntmps105
  go_wp2_with (go_at_call 49;(with_reducible refine(hc.out _).mono ?_);rintro e w5 ⟨rfl,h5⟩;have B5:=aA h5;clear h5)
  go_ret2
  exact⟨rfl,B5.out⟩
 | false=>
  clear hk
  go_enter Tryz.func105,Tryz.ntmps105
  go_wp2
  go_ret2
  exact⟨rfl,Below.refl _ _⟩
def unE(L:Ln)(i:Nat):Int×Nat:=if i<L.s.size then uni L.c L.s i else (0,0)
theorem aV2(L:Ln)(k:Nat)(w:World)(hk:k<=L.s.size)(hs:L.s.size<=1000000) :
  Calls Tryz.prog 105 #[.string L.s,.int .i64 (k:Int),.bool L.c] w fun e w'=>e=.returned (.tuple #[.int .i64 (unE L k).1,.int .i64 ((unE L k).2:Int)])/\Below w.heap.size w w':=by
 unfold unE
 split
 ·exact aA7 L.s k L.c w (by assumption) hs
 ·have:k=L.s.size:=by omega
  subst this
  exact wH L.s L.c w
def lfV(o:Option Nat):Int:=match o with | none=>-1 | some j=>(j:Int)
theorem aP6(L:Ln)(f:Fl)(i:Nat)(hk:f.k=2):cW L f i=if (unE L i).2=0\/(unE L i).1<0\/lK f.rs (unE L i).1=false then none else some (i+(unE L i).2):=by
 unfold cW unE
 rw [if_pos hk]
 by_cases h:i<L.s.size
 ·rw [if_pos h]
  have:=aV3 L.c L.s i
  by_cases h2:0<=(uni L.c L.s i).1/\kR f.rs (uni L.c L.s i).1=true
  ·rw [if_pos ⟨h,h2⟩,if_neg]
   have e:lK f.rs (uni L.c L.s i).1=true:=h2.2
   rintro (q | q | q)
   ·omega
   ·omega
   ·rw [e] at q;cases q
  ·rw [if_neg (fun q=>h2 q.2),if_pos]
   by_cases h3:(uni L.c L.s i).1<0
   ·exact .inr (.inl h3)
   ·refine .inr (.inr ?_)
    cases hh:lK f.rs (uni L.c L.s i).1 with
    | false=>rfl
    | true=>exact absurd ⟨by omega,hh⟩ h2
 ·rw [if_neg (fun q=>h q.1),if_neg h,if_pos (.inl rfl)]
end
section
attribute [local go_sem] Oper.semAt_some aU
variable {H:Gh} {rs:List (Option Nat)} {wk:Int} {mu:Bool}
theorem aP7{w:World}(hw:WM H w rs wk mu)(f:Fl)(a:Nat)(ha:a<=H.L.s.size)(hn:H.L.s.size<=1000000)(hr:ArgR w (.slice f.rq f.rs.length f.rc) f.rs) :
  Calls Tryz.prog 93 #[.pointer (some ⟨H.b,0,none⟩),.agg #[.int .i64 f.k,.int .i64 f.n,.int .i64 f.mn,.int .i64 f.mx,.slice f.rq f.rs.length f.rc,.slice f.kq f.kl f.kc],.int .i64 (a:Int)] w fun e w'=>e=.returned (.int .i64 (lfV (cW H.L f a)))/\Below w.heap.size w w':=by
 have B0:Hid (Below w.heap.size w (w.alloc (.cells #[.int .i64 f.k,.int .i64 f.n,.int .i64 f.mn,.int .i64 f.mx,.slice f.rq f.rs.length f.rc,.slice f.kq f.kl f.kc] 25))):=bz9
 have N0:Hid (BoxN (w.alloc (.cells #[.int .i64 f.k,.int .i64 f.n,.int .i64 f.mn,.int .i64 f.mx,.slice f.rq f.rs.length f.rc,.slice f.kq f.kl f.kc] 25)) w.heap.size f):=aD w _
 have W0:=aA (hw.below B0.out)
 have R0:=aA (hr.kept B0.out)
 clear hr
 go_enter Tryz.func93,Tryz.ntmps93
 go_upto_region 1 with fail
 generalize (w.alloc (.cells #[.int .i64 f.k,.int .i64 f.n,.int .i64 f.mn,.int .i64 f.mx,.slice f.rq f.rs.length f.rc,.slice f.kq f.kl f.kc] 25))=w1 at B0 N0 W0 R0 ⊢
 obtain⟨n0,n1,n2,n3,n4,n5⟩:=N0.out.six
 simp only [m7] at n1 n2 n3 n4 n5
 have c1:=W0.out.cell (i:=1) rfl
 have c2:=W0.out.cell (i:=2) rfl
 by_cases k2:f.k=2
 ·have HV:=aA (aP6 H.L f a k2)
  have UC:=aA (fun W=>aV2 H.L a W ha hn)
  have e2:(f.k==2)=true:=by rw [k2];rfl
  obtain⟨⟨x,y⟩,hxy⟩:∃ q,unE H.L a=q:=⟨_,rfl⟩
  have hy:y<=4:=by
   have:y=(unE H.L a).2:=by rw [hxy]
   rw [this]
   unfold unE
   split
   ·exact(aI3 (by assumption)).2
   ·simp
  rw [hxy] at HV UC
  clear hxy k2
  dsimp only at HV UC
  go_upto_region 3 with fail
  refine wx9 ?_
  have lb:=W0.out.b_lt
  repeat (go_big_quiet_step (first | exact rfl |(go_at_call 105;exact dJ (UC.out _))))
  refine wpQuiet_nil ?_
  intro w5 hw5
  have B5:=aA (aM hw5)
  clear hw5
  have HB5:=aA (aG B0.out B5.out lz9)
  have m4:w5.cell? ⟨w.heap.size,4,none⟩=some (.slice f.rq f.rs.length f.rc):=(B5.out.cell (p:=⟨w.heap.size,4,none⟩) (aC N0.out)).trans n4
  have HC:=aA (bI9 (c:=x) (R0.out.kept B5.out))
  obtain⟨hb,hhb⟩:∃ q,lK f.rs x=q:=⟨_,rfl⟩
  rw [hhb] at HV HC
  clear hhb n0 n1 n2 n3 n4 n5 c1 c2
  go_upto_region 5 with (go_at_call 106;(with_reducible refine(HC.out).mono ?_);rintro e w6 ⟨rfl,h6⟩;have B6:=aA (aG HB5.out h6 lz9);clear h6)
  by_cases y0:y=0
  ·subst y0
   go_wp2
   go_ret
   exact⟨by rw [HV.out];rfl,B6.out⟩
  ·have q0:((y:Int)==0)=false:=by simp;omega
   have HY:=aA y0
   clear y0
   by_cases x0:x<0
   ·have HV2:Hid (cW H.L f a=none):=aA (by rw [HV.out,if_pos (.inr (.inl x0))])
    clear HV
    go_wp2
    go_ret
    exact⟨by rw [HV2.out];rfl,B6.out⟩
   ·cases hb with
    | false=>
     have HV2:Hid (cW H.L f a=none):=aA (by rw [HV.out,if_pos (.inr (.inr rfl))])
     clear HV
     go_wp2
     go_ret
     exact⟨by rw [HV2.out];rfl,B6.out⟩
    | true=>
     have hwr:IntKind.wrap .i64 ((a:Int)+(y:Int))=(a:Int)+(y:Int):=wrap_small _ (by omega) (by omega)
     have HV2:Hid (cW H.L f a=some (a+y)):=aA (by
      rw [HV.out,if_neg]
      rintro (q | q | q)
      ·exact HY.out q
      ·exact x0 q
      ·cases q)
     clear HV
     go_wp2
     go_ret
     refine⟨?_,B6.out⟩
     rw [HV2.out]
     show _=Ending.returned (.int .i64 ((a+y:Nat):Int))
     rw [Int.natCast_add]
     rfl
 ·have e2:(f.k==2)=false:=by simpa using k2
  by_cases k3:f.k=3
  ·have e3:(f.k==3)=true:=by rw [k3];rfl
   have HV:Hid (cW H.L f a=if a=0 then some a else none):=aA (by unfold cW;rw [if_neg k2,if_pos k3])
   clear k2 k3
   by_cases a0:a=0
   ·subst a0
    go_wp2
    go_ret
    exact⟨by rw [HV.out];rfl,B0.out⟩
   ·have q0:((a:Int)==0)=false:=by simp;omega
    have q1:((a:Int) != 0)=true:=by simp;omega
    have HA:=aA a0
    clear a0
    go_wp2
    go_ret
    exact⟨by rw [HV.out,if_neg HA.out];rfl,B0.out⟩
  ·have e3:(f.k==3)=false:=by simpa using k3
   by_cases k4:f.k=4
   ·have e4:(f.k==4)=true:=by rw [k4];rfl
    have HV:Hid (cW H.L f a=if a=H.L.s.size then some a else none):=aA (by unfold cW;rw [if_neg k2,if_neg k3,if_pos k4])
    clear k2 k3 k4
    by_cases a0:a=H.L.s.size
    ·have q0:((a:Int)==(H.L.s.size:Int))=true:=by rw [a0];simp
     have q1:((a:Int) != (H.L.s.size:Int))=false:=by rw [a0];simp
     have HA:=aA a0
     clear a0
     go_wp2
     go_ret
     exact⟨by rw [HV.out,if_pos HA.out];rfl,B0.out⟩
    ·have q0:((a:Int)==(H.L.s.size:Int))=false:=by simp;omega
     have q1:((a:Int) != (H.L.s.size:Int))=true:=by simp;omega
     have HA:=aA a0
     clear a0
     go_wp2
     go_ret
     exact⟨by rw [HV.out,if_neg HA.out];rfl,B0.out⟩
   ·have e4:(f.k==4)=false:=by simpa using k4
    have HV:Hid (cW H.L f a=some a):=aA (by unfold cW;rw [if_neg k2,if_neg k3,if_neg k4])
    clear k2 k3 k4
    go_wp2
    go_ret
    exact⟨by rw [HV.out];rfl,B0.out⟩
theorem aU2{w:World}(hw:WM H w rs wk mu)(q:Int×Int)(a:Nat)(ha:a<=H.L.s.size)(hn:H.L.s.size<=1000000)(hq:q=(-1,-1)\/(0<=q.1/\q.1<=q.2/\q.2<=(H.L.s.size:Int))) :
  Calls Tryz.prog 54 #[.pointer (some ⟨H.b,0,none⟩),.agg #[.int .i64 q.1,.int .i64 q.2],.int .i64 (a:Int)] w fun e w'=>e=.returned (.int .i64 (lfV (fE H.L q a)))/\Below w.heap.size w w':=by
 obtain⟨A,B⟩:=q
 dsimp only at hq ⊢
 have B0:Hid (Below w.heap.size w (w.alloc (.cells #[.int .i64 A,.int .i64 B] 66))):=bz9
 have N0:Hid ((w.alloc (.cells #[.int .i64 A,.int .i64 B] 66)).heap[w.heap.size]?=some (.cells #[.int .i64 A,.int .i64 B] 66 (0,0))):=aD w _
 have W0:=aA (hw.below B0.out)
 by_cases hA:A<0
 ·have HV:Hid (fE H.L (A,B) a=none):=aA (by unfold fE;rw [if_pos (.inl hA)])
  go_enter Tryz.func54,Tryz.ntmps54
  go_upto_region 1 with fail
  generalize (w.alloc (.cells #[.int .i64 A,.int .i64 B] 66))=w1 at B0 N0 W0 ⊢
  have n0:=aB N0.out (i:=0) rfl
  go_wp2
  go_ret
  exact⟨by rw [HV.out];rfl,B0.out⟩
 ·have hq:=hq.resolve_left (fun e=>by injection e with e1;omega)
  obtain⟨n,hnn⟩:∃ n:Nat,B-A=(n:Int):=⟨(B-A).toNat,by omega⟩
  obtain⟨p,hp⟩:∃ p:Nat,A=(p:Int):=⟨A.toNat,by omega⟩
  have hsub:IntKind.wrap .i64 (B-A)=(n:Int):=by rw [hnn];exact wrap_small _ (by omega) (by omega)
  have hs2:IntKind.wrap .i64 ((H.L.s.size:Int)-(a:Int))=(H.L.s.size:Int)-(a:Int):=by rw [IntKind.wrap_i64];omega
  have HB:Hid (fE H.L (A,B) a=if H.L.s.size<a+n then none else if ∀ k,k<n->alk H.L.o (bt H.L.s (p+k)) (bt H.L.s (a+k))=true then some (a+n) else none):=aA (by
   unfold fE
   simp only
   rw [show (B-A).toNat=n by omega,show A.toNat=p by omega]
   by_cases h1:H.L.s.size<a+n
   ·rw [if_pos (.inr h1),if_pos h1]
   ·rw [if_neg (by omega),if_neg h1])
  have hpn:p+n<=H.L.s.size:=by omega
  clear hnn hq
  subst hp
  go_enter Tryz.func54,Tryz.ntmps54
  go_upto_region 1 with fail
  generalize (w.alloc (.cells #[.int .i64 (p:Int),.int .i64 B] 66))=w1 at B0 N0 W0 ⊢
  have n0:=aB N0.out (i:=0) rfl
  have n1:=aB N0.out (i:=1) rfl
  have c1:=W0.out.cell (i:=1) rfl
  have c3:=W0.out.cell (i:=3) rfl
  by_cases hlong:H.L.s.size<a+n
  ·have q1:(H.L.s.size:Int)-(a:Int)<(n:Int):=by omega
   have HV:Hid (fE H.L ((p:Int),B) a=none):=aA (by rw [HB.out,if_pos hlong])
   clear HB
   go_wp2
   go_ret
   exact⟨by rw [HV.out];rfl,B0.out⟩
  ·have q1:¬ (H.L.s.size:Int)-(a:Int)<(n:Int):=by omega
   rw [if_neg hlong] at HB
   have AL:=aA (fun (x y:Nat) (hx:x<256) (hy:y<256) W=>aH3 x y H.L.o W hx hy)
   have lb:=W0.out.b_lt
   have lw:=aC N0.out
   clear hlong
   go_upto_region 7 with fail
   go_loopw [8] (fun i wr=>∃ k:Nat,k<=n/\i=.int .i64 (k:Int)/\(∀ j,j<k->alk H.L.o (bt H.L.s (p+j)) (bt H.L.s (a+j))=true)/\Below w1.heap.size w1 wr) (fun i _=>n-(intOf i).toNat)
   case atStart=>exact⟨0,o9 _,rfl,fun j h=>by omega,Below.refl _ _⟩
   case round=>
    obtain⟨k,hk,rfl,hall,hbl⟩:=hrel
    have HL:=aA hall
    have BL:=aA hbl
    clear hall hbl
    by_cases hkn:k<n
    ·have i0:(k:Int)<(n:Int):=by omega
     have d0:wr.cell? ⟨w.heap.size,0,none⟩=some (.int .i64 (p:Int)):=(BL.out.cell (p:=⟨w.heap.size,0,none⟩) lw).trans n0
     have d1:wr.cell? ⟨H.b,1,none⟩=some (.string H.L.s):=(BL.out.cell (p:=⟨H.b,1,none⟩) lb).trans c1
     have d3:wr.cell? ⟨H.b,3,none⟩=some (.bool H.L.o):=(BL.out.cell (p:=⟨H.b,3,none⟩) lb).trans c3
     have lb2:H.b<wr.heap.size:=o8 lb BL.out.size
     have lw2:w.heap.size<wr.heap.size:=o8 lw BL.out.size
     have g1:=lS H.L.s (p+k) (by omega)
     have g2:=lS H.L.s (a+k) (by omega)
     have l1:=mZ H.L.s (p+k)
     have l2:=mZ H.L.s (a+k)
     have x1:IntKind.wrap .i64 ((p:Int)+(k:Int))=((p+k:Nat):Int):=by rw [wrap_small _ (by omega) (by omega)];omega
     have x2:IntKind.wrap .i64 ((a:Int)+(k:Int))=((a+k:Nat):Int):=by rw [wrap_small _ (by omega) (by omega)];omega
     have x3:IntKind.wrap .i64 ((k:Int)+1)=(k:Int)+1:=wrap_small _ (by omega) (by omega)
     have AC:=aA (AL.out _ _ l1 l2)
     obtain⟨r,hr⟩:∃ r,alk H.L.o (bt H.L.s (p+k)) (bt H.L.s (a+k))=r:=⟨_,rfl⟩
     have HR:=aA hr
     rw [hr] at AC
     clear hr
     obtain⟨u1,hu1⟩:∃ u,bt H.L.s (p+k)=u:=⟨_,rfl⟩
     obtain⟨u2,hu2⟩:∃ u,bt H.L.s (a+k)=u:=⟨_,rfl⟩
     rw [hu1] at g1 l1 AC
     rw [hu2] at g2 l2 AC
     clear hu1 hu2
     obtain⟨i1,hi1⟩:∃ i,p+k=i:=⟨_,rfl⟩
     obtain⟨i2,hi2⟩:∃ i,a+k=i:=⟨_,rfl⟩
     have z1:i1<H.L.s.size:=by omega
     have z2:i2<H.L.s.size:=by omega
     have gx1:(H.L.s[i1]'z1).toNat=u1:=by subst hi1;exact g1
     have gx2:(H.L.s[i2]'z2).toNat=u2:=by subst hi2;exact g2
     rw [hi1] at x1
     rw [hi2] at x2
     have HI1:=aA hi1
     have HI2:=aA hi2
     clear g1 g2 hi1 hi2
     have y1:(0:Int)<=(i1:Int):=by omega
     have y2:(i1:Int)<(H.L.s.size:Int):=by omega
     have y3:(0:Int)<=(i2:Int):=by omega
     have y4:(i2:Int)<(H.L.s.size:Int):=by omega
     go_upto_region 9 with fail
     refine wx9 ?_
     repeat (go_big_quiet_step (first | exact rfl |(go_at_call 79;exact dJ ((AC.out _).mono (by rintro e w5 ⟨rfl,rfl⟩;exact⟨rfl,Below.refl _ _⟩)))))
     refine wpQuiet_nil ?_
     intro w5 hw5
     have B5:=aA (aG BL.out (aM hw5) lz9)
     clear hw5
     cases r with
     | true=>
      go_wp2
      go_roundw
      case rel=>exact⟨k+1,by omega,by go_num,fun j hj=>by
       by_cases e:j=k
       ·subst e;exact HR.out
       ·exact HL.out j (by omega),B5.out⟩
      case measure=>simp only [intOf];omega
     | false=>
      have HV:Hid (fE H.L ((p:Int),B) a=none):=aA (by
       rw [HB.out,if_neg (fun q=>by have:=q k hkn;rw [HR.out] at this;cases this)])
      go_wp2
      go_ret
      exact⟨by rw [HV.out];rfl,aG B0.out B5.out lz9⟩
    ·have hkk:k=n:=by omega
     subst hkk
     have i0:¬ (k:Int)<(k:Int):=by omega
     have x3:IntKind.wrap .i64 ((a:Int)+(k:Int))=((a+k:Nat):Int):=by rw [wrap_small _ (by omega) (by omega)];omega
     have HV:Hid (fE H.L ((p:Int),B) a=some (a+k)):=aA (by rw [HB.out,if_pos HL.out])
     go_wp2
     go_ret
     exact⟨by rw [HV.out];rfl,aG B0.out BL.out lz9⟩
end
section
attribute [local go_sem] Oper.semAt_some aU
structure Gk(H:Gh):Prop where
 mp:H.Z.map (·.1)=pp [] H.t
 te:∀ (i:Nat) (z:Zl),H.Z[i]?=some z->z.2=i+z.1.2.sz
 len:H.Z.length<=2000
 sm:H.L.s.size<=1000
 np:bF (NP H.L.c H.L.o) H.t
variable {H:Gh} {rs:List (Option Nat)} {wk:Int} {mu:Bool}
theorem Gk.at(hk:Gk H){i:Nat}{z:Zl}(h:H.Z[i]?=some z):(pp [] H.t)[i]?=some z.1:=by rw [<- hk.mp,aAO,h];rfl
theorem Gk.get(hk:Gk H){i:Nat}{x:El}(h:(pp [] H.t)[i]?=some x):∃ z,H.Z[i]?=some z/\z.1=x:=by
 rw [<- hk.mp,aAO] at h
 cases hz:H.Z[i]? with
 | none=>rw [hz] at h;cases h
 | some z=>rw [hz] at h;exact⟨z,rfl,aAE h⟩
theorem Gk.npz(hk:Gk H){i:Nat}{z:Zl}(h:H.Z[i]?=some z):bF (NP H.L.c H.L.o) z.1.2:=fD H.t [] hk.np z.1 (n8 (hk.at h))
theorem Gk.kid(hk:Gk H){i:Nat}{z:Zl}(h:H.Z[i]?=some z){j:Nat}{u:Tr}(hu:z.1.2.ks[j]?=some u):∃ y,H.Z[i+1+szs (z.1.2.ks.take j)]?=some y/\y.1.2=u/\y.2=i+1+szs (z.1.2.ks.take (j+1)):=by
 obtain⟨h1,-⟩:=bL6 (hk.at h) hu
 obtain⟨y,hy,e⟩:=hk.get h1
 refine⟨y,hy,by rw [e],?_⟩
 rw [hk.te _ _ hy,e,lU hu]
 simp only
 omega
def fM(i:Nat)(ks:List Tr):List Nat:=(List.range ks.length).map fun j=>i+1+szs (ks.take j)
theorem dI(i:Nat)(ks:List Tr):(fM i ks).length=ks.length:=by simp [fM]
theorem iA{i j:Nat}{ks:List Tr}(h:j<ks.length):(fM i ks)[j]?=some (i+1+szs (ks.take j)):=by simp [fM,h]
theorem aE9{i j:Nat}{ks:List Tr}(h:j<ks.length):(fM i ks).take (j+1)=(fM i ks).take j++[i+1+szs (ks.take j)]:=by
 rw [s7,iA h];rfl
theorem bG8{ks:List Tr}{j:Nat}(hj:j<ks.length):szs (ks.take j)<szs ks:=by
 have h:=lU (g9 hj)
 have:=dO ks[j]
 have:=wO ks (j+1)
 omega
theorem jP{w:World}(hk:Gk H)(hw:WM H w rs wk mu){i:Nat}{z:Zl}(hz:H.Z[i]?=some z) :
  Calls Tryz.prog 52 #[.pointer (some ⟨H.b,0,none⟩),.int .i64 (i:Int)] w (bP9 w (fM i z.1.2.ks)):=by
 have W0:=aA hw
 have lb:=hw.b_lt
 have c0:=hw.cell (i:=0) rfl
 have hil:=(m8.1 hz).1
 have hlen:=hk.len
 have hto:=hk.te i z hz
 have hsz:=dA z.1.2
 have y11:=hw.z.cells hz (j:=11) (v:=.int .i64 (z.2:Int)) rfl
 have hzb:=(aF hw.z rfl).2.1
 have HK:=aA hk
 have HZ:=aA hz
 have hsl:i+1+szs z.1.2.ks<=2000:=by
  have:=hk.mp
  obtain⟨r,hr⟩:=seg H.t [] i z.1 (hk.at hz)
  have h3:=congrArg List.length hr
  rw [o5,bL,aAR] at h3
  have h4:=congrArg List.length this
  rw [aAC] at h4
  omega
 have hto2:z.2=i+1+szs z.1.2.ks:=by omega
 rw [hto2] at y11
 have hwr:IntKind.wrap .i64 ((i:Int)+1)=((i+1+szs (z.1.2.ks.take 0):Nat):Int):=by rw [wrap_small _ (by omega) (by omega),aAL,cM];omega
 have U5:Hid (RsI w none 0 [] w):=⟨aAY _ _ _ _,Below.refl _ _⟩
 have iil:(i:Int)<(H.Z.length:Int):=by omega
 clear hw hk hz hto hsz hto2
 go_enter Tryz.func52,Tryz.ntmps52
 go_upto_region 3 with fail
 go_loopw [5,6] (fun l k wr=>∃ (j:Nat) (q:Option Addr) (cc:Nat),j<=z.1.2.ks.length/\k=.int .i64 ((i+1+szs (z.1.2.ks.take j):Nat):Int)/\l=.slice q ((fM i z.1.2.ks).take j).length cc/\RsI w q cc ((fM i z.1.2.ks).take j) wr) (fun _ k _=>2001-(intOf k).toNat)
 case atStart=>exact⟨0,none,0,by omega,rfl,rfl,U5.out⟩
 case round=>
  obtain⟨j,q,cc,hj,rfl,rfl,hu⟩:=hrel
  rename World=>wr
  have HU:=aA hu
  have d0:wr.cell? ⟨H.b,0,none⟩=some (.slice (some ⟨H.zb,0,none⟩) H.Z.length H.zc):=(hu.bel.cell (p:=⟨H.b,0,none⟩) lb).trans c0
  have d11:wr.cell? ⟨H.zb,i*12+11,none⟩=some (.int .i64 ((i+1+szs z.1.2.ks:Nat):Int)):=(hu.bel.cell (p:=⟨H.zb,i*12+11,none⟩) hzb).trans y11
  have hll:((fM i z.1.2.ks).take j).length<=2000:=by
   have:=eY z.1.2.ks
   rw [aAG,dI]
   omega
  clear hu
  by_cases hjl:j<z.1.2.ks.length
  ·have hlt:=bG8 hjl
   obtain⟨y,y1,y2,y3⟩:=HK.out.kid HZ.out (g9 hjl)
   have hkl:=(m8.1 y1).1
   have e11:wr.cell? ⟨H.zb,(i+1+szs (z.1.2.ks.take j))*12+11,none⟩=some (.int .i64 ((i+1+szs (z.1.2.ks.take (j+1)):Nat):Int)):=by
    rw [<- y3]
    exact(HU.out.bel.cell (p:=⟨H.zb,_,none⟩) hzb).trans (W0.out.z.cells y1 (j:=11) rfl)
   have HT:=aA (aE9 (i:=i) hjl)
   have hnx:=wO z.1.2.ks (j+1)
   have hgt:szs (z.1.2.ks.take j)<szs (z.1.2.ks.take (j+1)):=by
    rw [lU (g9 hjl)]
    have:=dO z.1.2.ks[j]
    omega
   clear y1 y2 y3
   obtain⟨l,hl⟩:∃ l,(fM i z.1.2.ks).take j=l:=⟨_,rfl⟩
   rw [hl] at HU HT hll ⊢
   clear hl
   obtain⟨k,hkk⟩:∃ k,i+1+szs (z.1.2.ks.take j)=k:=⟨_,rfl⟩
   obtain⟨k',hkk'⟩:∃ k,i+1+szs (z.1.2.ks.take (j+1))=k:=⟨_,rfl⟩
   obtain⟨m,hm⟩:∃ k,i+1+szs z.1.2.ks=k:=⟨_,rfl⟩
   have b0:(k:Int)<(m:Int):=by omega
   have b1:k<k':=by omega
   have b2:k'<=2000:=by omega
   rw [hkk] at HT e11 hkl ⊢
   rw [hkk'] at e11
   rw [hm] at d11
   have HK':=aA hkk'
   have kkl:(k:Int)<(H.Z.length:Int):=by omega
   clear hkk hkk' hm hlt hgt hnx
   obtain⟨t0,hi,hz0,hz1,hz2⟩:=aR gU
   have Y7:Hid ((wr.alloc (.cells #[.int .i64 (k:Int)] 3)).ownsRow w.heap.size 3 1 (.slice q l.length cc) l.length (l.map fun j:Nat=>.int .i64 (j:Int))):=aAB HU.out.l _
   have HNEW:Hid (∀ j u,([.int .i64 (k:Int)]:List Value)[j]?=some u->(wr.alloc (.cells #[.int .i64 (k:Int)] 3)).cell? ((⟨wr.heap.size,0,none⟩:Addr).add j)=some u):=fU wr [.int .i64 (k:Int)] _
   have HB8:Hid (w.heap.size<=(wr.alloc (.cells #[.int .i64 (k:Int)] 3)).heap.size):=o0 HU.out.bel.size (by simp)
   go_upto_region 5 with fail
   go_upto_region 4 with (at_builtin;refine wpList_append_own_at _ rfl _ _ 35 rfl w.heap.size 3 t0 (.int .i64 0) 1 8 gP hi hz0 hz1 hz2 rfl (by decide) (.slice q l.length cc) l.length (l.map fun j:Nat=>.int .i64 (j:Int)) rfl Y7.out ⟨wr.heap.size,0,none⟩ 1 1 [.int .i64 (k:Int)] rfl rfl HNEW.out (by simp [Value.oneCell']) (by unfold maxLen;omega) (by omega) HB8.out ?_;intro v' w6 hown' hgrow _ _;obtain⟨q6,c6,rfl⟩:=aQ hown';have U6:=aA (HU.out.snoc hown' hgrow);clear hown' hgrow)
   have f0:w6.cell? ⟨H.b,0,none⟩=some (.slice (some ⟨H.zb,0,none⟩) H.Z.length H.zc):=(U6.out.bel.cell (p:=⟨H.b,0,none⟩) lb).trans c0
   have f11:w6.cell? ⟨H.zb,k*12+11,none⟩=some (.int .i64 (k':Int)):=by
    have h1:=HU.out.bel.cell (p:=⟨H.zb,k*12+11,none⟩) hzb
    have h2:=U6.out.bel.cell (p:=⟨H.zb,k*12+11,none⟩) hzb
    rw [h2,<- h1]
    exact e11
   clear d0 d11 e11
   go_wp2
   go_roundw
   case rel=>exact⟨j+1,q6,c6,by omega,by rw [HK'.out],by rw [HT.out];simp,by rw [HT.out];exact U6.out⟩
   case measure=>simp only [intOf];omega
  ·have hjj:j=z.1.2.ks.length:=by omega
   have e1:(fM i z.1.2.ks).take j=fM i z.1.2.ks:=o4 (by rw [dI];omega)
   have e2:z.1.2.ks.take j=z.1.2.ks:=o4 (by omega)
   rw [e1] at HU hll ⊢
   rw [e2]
   clear e1 e2 hjj
   obtain⟨l,hl⟩:∃ l,fM i z.1.2.ks=l:=⟨_,rfl⟩
   have HQ:=aA hl
   rw [hl] at HU hll ⊢
   clear hl
   obtain⟨m,hm⟩:∃ k,i+1+szs z.1.2.ks=k:=⟨_,rfl⟩
   rw [hm] at d11 ⊢
   have b0:¬ (m:Int)<(m:Int):=by omega
   clear hm
   go_wp2
   go_ret
   rw [HQ.out]
   exact⟨q,cc,rfl,HU.out.l,HU.out.bel⟩
end
section
attribute [local go_sem] Oper.semAt_some aU
variable {H:Gh} {rs:List (Option Nat)} {wk:Int} {mu:Bool}
def iZ(H:Gh)(W:World)(rs:List (Option Nat))(wk:Int)(mu:Bool)(t:Tr)(a:Nat)(e:Ending)(W':World):Prop:=∃ (q:Option Addr) (c:Nat) (l:List Nat) (rs':List (Option Nat)),
 e=.returned (.slice q l.length c)/\Ls12 H.base W' q c l/\fK H.L t a l/\WM H W' rs' wk mu/\Grw W.heap.size rs rs'/\Fr (fun k=>wmf H rs k\/False) W W'
def PlC(H:Gh)(n:Nat):Prop:=∀ (i a:Nat) (z:Zl) (W:World) (rs:List (Option Nat)) (wk:Int) (mu:Bool),H.Z[i]?=some z->z.1.2.sz<=n->PlT H.L z.1.2->a<=H.L.s.size->WM H W rs wk mu ->
 Calls Tryz.prog 50 #[.pointer (some ⟨H.b,0,none⟩),.int .i64 (i:Int),.int .i64 (a:Int)] W (iZ H W rs wk mu z.1.2 a)
def BR(base:Nat)(V:World)(g c:Nat)(is:List Bool):Prop:=V.ownsRow base 4 1 (.slice (some ⟨g,0,none⟩) is.length c) is.length (is.map Value.bool)
theorem sU(is:List Bool)(j:Nat)(b:Bool):(is.map Value.bool).set j (.bool b)=(is.set j b).map Value.bool:=by rw [List.map_set]
theorem BR.put{base g c:Nat}{V:World}{is:List Bool}(h:BR base V g c is)(j:Nat)(b:Bool):BR base (V.setCell ⟨g,j,none⟩ (.bool b)) g c (is.set j b):=by
 have:=(World.ownsRow.stored h j (.bool b)).1
 unfold BR
 rw [aAQ,<- sU]
 exact this
theorem BR.cell{base g c:Nat}{V:World}{is:List Bool}(h:BR base V g c is){j:Nat}{b:Bool}(hj:is[j]?=some b):V.cell? ⟨g,j,none⟩=some (.bool b):=aP h (by simp [hj])
theorem BR.frz{base g c:Nat}{V:World}{is:List Bool}(h:BR base V g c is)(j:Nat):V.frozen? ⟨g,j,none⟩=false:=World.ownsRow.frozenAt h j
theorem BR.lt{base g c:Nat}{V:World}{is:List Bool}(h:BR base V g c is):g<V.heap.size:=(aF h rfl).2.1
theorem BR.lo{base g c:Nat}{V:World}{is:List Bool}(h:BR base V g c is):base<=g:=(aF h rfl).1
theorem BR.ty{base g c:Nat}{V:World}{is:List Bool}(h:BR base V g c is):∃ cs,V.heap[g]?=some (.cells cs 4 (0,0)):=(aF h rfl).2.2
theorem BR.kept{base g c:Nat}{V V':World}{is:List Bool}(h:BR base V g c is)(hb:Below V.heap.size V V'):BR base V' g c is:=aH (S:=fun _=>False) h (Fr.of_below hb) (fun _ _ q=>q)
theorem BR.wmf{base g c:Nat}{V V':World}{is:List Bool}{S:Nat->Prop}(h:BR base V g c is)(hw:WM H V rs wk mu)(hf:Fr (fun k=>wmf H rs k\/S k) V V')(hS:¬ S g):BR base V' g c is:=
 cT h hw hf (fun k hk=>by cases hk;exact hS) ⟨by decide,by decide,by decide⟩
theorem qV:¬ sT 4:=by unfold sT;decide
theorem WM.mark{base g c:Nat}{V V':World}{is:List Bool}(hw:WM H V rs wk mu)(h:BR base V g c is)(hf:Fr (fun k=>k=g) V V')(hb:H.base<=g)(hp:g≠H.pb):WM H V' rs wk mu:=
 hw.fr hf fun k _ e=>by
  subst e
  obtain⟨cs,hc⟩:=h.ty
  exact⟨hb,hp,cs,_,hc,qV⟩
theorem nA{is:List Bool}{j k:Nat}(hk:k<is.length):((is.set k true)[j]?=some true↔is[j]?=some true\/j=k):=by
 rw [aAZ]
 by_cases e:k=j
 ·subst e
  rw [if_pos rfl,if_pos hk]
  simp
 ·rw [if_neg e]
  constructor
  ·exact .inl
  ·rintro (q | q)
   ·exact q
   ·exact absurd q.symm e
def MkP(H:Gh)(W:World)(rs:List (Option Nat))(wk:Int)(mu:Bool)(base g c:Nat)(is:List Bool)(P:Nat->Prop)(e:Ending)(W':World):Prop:=e=.returned (.tuple #[])/\∃ (rs':List (Option Nat)) (is':List Bool),
 WM H W' rs' wk mu/\Grw W.heap.size rs rs'/\Fr (fun k=>wmf H rs k\/k=g) W W'/\BR base W' g c is'/\is'.length=is.length/\∀ j,is'[j]?=some true↔is[j]?=some true\/P j
structure MkI(base g c:Nat)(W1:World)(is:List Bool)(P:Nat->Prop)(l:List Nat)(is':List Bool)(V:World):Prop where
 r:BR base V g c is'
 n:is'.length=is.length
 m:∀ j,is'[j]?=some true↔is[j]?=some true\/(j∈l/\P j)
 f:Fr (fun k=>k=g) W1 V
theorem MkI.snoc{base g c:Nat}{W1 V:World}{is is':List Bool}{P:Nat->Prop}{l:List Nat}{x:Nat}(h:MkI base g c W1 is P l is' V)(hx:x<is.length)(hP:P x):MkI base g c W1 is P (l++[x]) (is'.set x true) (V.setCell ⟨g,x,none⟩ (.bool true)):=by
 refine⟨h.r.put x true,by rw [aAQ];exact h.n,fun j=>?_,h.f.setCell (p:=⟨g,x,none⟩) rfl _⟩
 rw [nA (by rw [h.n];exact hx),h.m,o3,s9]
 constructor
 ·rintro ((q | ⟨q,r⟩) | rfl)
  ·exact .inl q
  ·exact .inr ⟨.inl q,r⟩
  ·exact .inr ⟨.inr rfl,hP⟩
 ·rintro (q | ⟨q | q,r⟩)
  ·exact .inl (.inl q)
  ·exact .inl (.inr ⟨q,r⟩)
  ·exact .inr q
theorem MkI.skip{base g c:Nat}{W1 V:World}{is is':List Bool}{P:Nat->Prop}{l:List Nat}{x:Nat}(h:MkI base g c W1 is P l is' V)(hP:¬ P x):MkI base g c W1 is P (l++[x]) is' V:=by
 refine⟨h.r,h.n,fun j=>?_,h.f⟩
 rw [h.m,o3,s9]
 constructor
 ·rintro (q | ⟨q,r⟩)
  ·exact .inl q
  ·exact .inr ⟨.inl q,r⟩
 ·rintro (q | ⟨q | rfl,r⟩)
  ·exact .inl q
  ·exact .inr ⟨q,r⟩
  ·exact absurd r hP
theorem Ls12.cell{base:Nat}{V:World}{g c:Nat}{l:List Nat}(h:Ls12 base V (some ⟨g,0,none⟩) c l){j x:Nat}(hj:l[j]?=some x):V.cell? ⟨g,j,none⟩=some (.int .i64 (x:Int)):=aP h (by simp [hj])
theorem Ls12.at{base:Nat}{V:World}{q:Option Addr}{c:Nat}{l:List Nat}(h:Ls12 base V q c l)(hl:0<l.length):∃ g,q=some ⟨g,0,none⟩/\g<V.heap.size/\base<=g/\∃ cs,V.heap[g]?=some (.cells cs 3 (0,0)):=by
 obtain⟨g,c',e⟩:=aO h hl
 injection e with e1 _ _
 subst e1
 obtain⟨a,b,d⟩:=aF h rfl
 exact⟨g,rfl,b,a,d⟩
def fuP(fu:Bool)(a j:Nat):Prop:=fu=true->a<j
theorem jL{n:Nat}(hp:PlC H n)(hk:Gk H){w:World}(hw:WM H w rs wk mu){i a:Nat}{z:Zl}(hz:H.Z[i]?=some z)(hn:z.1.2.sz<=n)(hpl:PlT H.L z.1.2)(ha:a<=H.L.s.size)
  {base g c:Nat} {is:List Bool} (hb:BR base w g c is) (hl:is.length=H.L.s.size+1) (hg:H.base<=g) (hgp:g≠H.pb) (fu:Bool) :
  Calls Tryz.prog 92 #[.pointer (some ⟨H.b,0,none⟩),.slice (some ⟨g,0,none⟩) is.length c,.int .i64 (i:Int),.int .i64 (a:Int),.bool fu] w
   (MkP H w rs wk mu base g c is (fun j=>Pz H.L z.1.2 a j/\fuP fu a j)):=by
 have HP:=aA (hp i a z w rs wk mu hz hn hpl ha hw)
 have HW:=aA hw
 have HB:=aA hb
 have hsm:=hk.sm
 have HPS:Hid (∀ j,Pz H.L z.1.2 a j->j<=H.L.s.size):=fun j h=>(bE3 hpl ha h).2
 have HLN:=aA hl
 have hlm:is.length<=1001:=by omega
 clear hp hw hz hn hb hk hl
 go_enter Tryz.func92,Tryz.ntmps92
 go_upto_region 2 with (go_at_call 50;(with_reducible refine(HP.out).mono ?_);rintro e w1 ⟨q,cl,l,rs1,rfl,h1,h2,h3,h4,h5⟩;have L1:=aA h1;have E1:=aA h2;have W1:=aA h3;have G1:=aA h4;have F1:=aA h5;clear h1 h2 h3 h4 h5)
 have B1:=aA (HB.out.wmf HW.out F1.out (fun h=>h))
 have hll:l.length<=1000+1:=by
  have h1:=E1.out.2
  have h2:∀ j∈l,j<=H.L.s.size:=fun j hj=>HPS.out j ((E1.out.1 j).1 hj)
  have key:∀ (l:List Nat) (m b:Nat),l.Pairwise (· < ·)->(∀ j∈l,b<=j/\j<b+m)->l.length<=m:=by
   intro l
   induction l with
   | nil=>intro m b _ _;simp
   | cons x l ih=>
    intro m b hpw hm
    obtain⟨m',rfl⟩:∃ m',m=m'+1:=⟨m-1,by have:=hm x (by simp);omega⟩
    have:=ih m' (b+1) (aAT.1 hpw).2 (fun j hj=>by
     have h3:=(aAT.1 hpw).1 j hj
     have h4:=hm x (by simp)
     have h5:=hm j (by simp [hj])
     omega)
    simp
    omega
  have:=key l (H.L.s.size+1) 0 h1 (fun j hj=>by have:=h2 j hj;omega)
  omega
 have M1:Hid (MkI base g c w1 is (fuP fu a) (l.take 0) is w1):=⟨B1.out,rfl,fun j=>by simp,Fr.refl _ _⟩
 go_loopw [11] (fun i wr=>∃ (k:Nat) (is':List Bool),k<=l.length/\i=.int .i64 (k:Int)/\MkI base g c w1 is (fuP fu a) (l.take k) is' wr) (fun i _=>l.length-(intOf i).toNat)
 case atStart=>exact⟨0,is,o9 _,rfl,M1.out⟩
 case round=>
  obtain⟨k,is',hkl,rfl,hm⟩:=hrel
  have HM:=aA hm
  clear hm
  by_cases hlt:k<l.length
  ·have i0:(k:Int)<(l.length:Int):=by omega
   have hw2:IntKind.wrap .i64 ((k:Int)+1)=(k:Int)+1:=wrap_small _ (by omega) (by omega)
   obtain⟨x,hx⟩:∃ x,l[k]?=some x:=⟨_,g9 hlt⟩
   have hxs:x<=H.L.s.size:=HPS.out x ((E1.out.1 x).1 (n8 hx))
   obtain⟨gl,rfl,gl1,gl2,gl3,gl4⟩:=L1.out.at (by omega)
   have hne:gl≠g:=by
    obtain⟨cs,hc⟩:=B1.out.ty
    exact bD gl4 hc (by decide)
   have y0:wr.cell? ⟨gl,k,none⟩=some (.int .i64 (x:Int)):=by
    have e:=HM.out.f.block gl gl1 hne
    have h1:=L1.out.cell hx
    unfold World.cell? at h1 ⊢
    rw [e]
    exact h1
   have HT:Hid (l.take (k+1)=l.take k++[x]):=aA (by rw [s7,hx];rfl)
   have hxl:(x:Int)<(is.length:Int):=by have:=HLN.out;omega
   have hfz:=HM.out.r.frz x
   have hc:∃ b,wr.cell? ⟨g,x,none⟩=some (.bool b):=⟨_,HM.out.r.cell (g9 (by rw [HM.out.n];have:=HLN.out;omega))⟩
   obtain⟨b0,hb0⟩:=hc
   clear hx
   cases fu with
   | false=>
    have HN:=aA (HM.out.snoc (x:=x) (by have:=HLN.out;omega) (fun h=>by cases h))
    go_wp2
    go_roundw
    case rel=>exact⟨k+1,_,by omega,by go_num,by rw [HT.out];exact HN.out⟩
    case measure=>simp only [intOf];omega
   | true=>
    by_cases hax:a<x
    ·have q0:(a:Int)<(x:Int):=by omega
     have HN:=aA (HM.out.snoc (x:=x) (by have:=HLN.out;omega) (fun _=>hax))
     clear hax
     go_wp2
     go_roundw
     case rel=>exact⟨k+1,_,by omega,by go_num,by rw [HT.out];exact HN.out⟩
     case measure=>simp only [intOf];omega
    ·have q0:¬ (a:Int)<(x:Int):=by omega
     have HN:=aA (HM.out.skip (x:=x) (fun h=>hax (h rfl)))
     clear hax
     go_wp2
     go_roundw
     case rel=>exact⟨k+1,_,by omega,by go_num,by rw [HT.out];exact HN.out⟩
     case measure=>simp only [intOf];omega
  ·have i0:¬ (k:Int)<(l.length:Int):=by omega
   have HT:Hid (l.take k=l):=aA (o4 (by omega))
   go_wp2
   go_end0
   refine⟨rfl,rs1,is',W1.out.mark B1.out HM.out.f hg hgp,G1.out,?_,HM.out.r,HM.out.n,fun j=>?_⟩
   ·refine⟨HM.out.f.os.trans F1.out.os,HM.out.f.tape.trans F1.out.tape,HM.out.f.output.trans F1.out.output,o0 F1.out.size HM.out.f.size,fun i hi hs=>(HM.out.f.block i (o8 hi F1.out.size) (fun e=>hs (.inr e))).trans (F1.out.block i hi (fun q=>hs (.inl (q.resolve_right fun f=>f))))⟩
   ·have:=HM.out.m j
    rw [HT.out] at this
    rw [this,E1.out.1]
end
section
variable {H:Gh} {rs rs' rs'':List (Option Nat)} {wk:Int} {mu:Bool} {L:Ln}
theorem aO9:∀ (ks:List Tr),(∀ u∈ks,PlT L u)->Pn (fun x y=>MtC L ks x y)
 | [],_,x,y,h=>by
  have h:y=x:=(cE x y).1 h
  subst h
  exact⟨rfl,fun g=>(cE _ _).2 rfl⟩
 | u :: us,hu,x,y,h=>by
  obtain⟨z,h1,h2⟩:=(bO _ _ _ _).1 h
  obtain⟨a,b⟩:=zJ u (hu u (n9 ..)) x z h1
  obtain⟨c,d⟩:=aO9 us (fun v hv=>hu v (m9 _ hv)) z y h2
  exact⟨c.trans a,fun g=>(bO _ _ _ _).2 ⟨⟨z.p,g⟩,b g,d g⟩⟩
theorem aM9{ks:List Tr}{j:Nat}{u:Tr}(hpl:∀ v∈ks,PlT L v)(hu:ks[j]?=some u)(a x:Nat):MtC L (ks.take (j+1)) ⟨a,[]⟩ ⟨x,[]⟩ ↔ ∃ y,MtC L (ks.take j) ⟨a,[]⟩ ⟨y,[]⟩/\Pz L u y x:=by
 rw [s7,hu,aBH,uP]
 constructor
 ·rintro ⟨z,h1,h2⟩
  have:=(aO9 (ks.take j) (fun v hv=>hpl v (aAS hv)) _ _ h1).1
  obtain⟨zp,zg⟩:=z
  simp only at this
  subst this
  exact⟨zp,h1,h2⟩
 ·rintro ⟨y,h1,h2⟩
  exact⟨⟨y,[]⟩,h1,h2⟩
theorem uG{ks:List Tr}{j:Nat}{u:Tr}(hu:ks[j]?=some u)(a x:Nat):MtA L (ks.take (j+1)) ⟨a,[]⟩ ⟨x,[]⟩↔MtA L (ks.take j) ⟨a,[]⟩ ⟨x,[]⟩\/Pz L u a x:=by
 rw [s7,hu,aBH,uQ]
 rfl
theorem bJ7{t:Tr}(hk:t.f.k=5)(a x:Nat):Pz L t a x↔MtC L t.ks ⟨a,[]⟩ ⟨x,[]⟩:=by unfold Pz;rw [cH,if_pos hk]
theorem bJ8{t:Tr}(hk:t.f.k=6)(a x:Nat):Pz L t a x↔MtA L t.ks ⟨a,[]⟩ ⟨x,[]⟩:=by unfold Pz;rw [cH,if_neg (by omega),if_pos hk]
theorem bJ6{t:Tr}(hp:PlT L t)(hk:t.f.k=7)(a x:Nat):Pz L t a x↔MtA L t.ks ⟨a,[]⟩ ⟨x,[]⟩:=by
 have hn:=((aI t).1 hp).1.2 hk
 have e:∀ x z,eI L t.f.n x z=z:=fun x z=>by unfold eI;rw [hn];rfl
 unfold Pz
 rw [cH,if_neg (by omega),if_neg (by omega),if_pos hk]
 constructor
 ·rintro ⟨z,h1,h2⟩
  rw [e] at h2
  rw [h2]
  exact h1
 ·intro h
  exact⟨_,h,(e _ _).symm⟩
theorem aY9{t:Tr}(hk:t.f.k=1\/t.f.k=2\/t.f.k=3\/t.f.k=4)(a x:Nat):Pz L t a x↔cW L t.f a=some x:=by
 unfold Pz
 rw [cH,if_neg (by omega),if_neg (by omega),if_neg (by omega),if_neg (by omega),if_neg (by omega)]
 simp
theorem bJ5{t v:Tr}(hk:t.f.k=9)(hv:t.ks=[v])(a x:Nat):Pz L t a x↔Rp (fun x y=>Mt L v x y) t.f.mn t.f.mx ⟨a,[]⟩ ⟨x,[]⟩:=by
 have e:(fun x y=>MtA L t.ks x y)=fun x y=>Mt L v x y:=by
  funext x y
  rw [hv]
  refine propext ((cF _ _ _).trans ?_)
  simp
 unfold Pz
 rw [cH,if_neg (by omega),if_neg (by omega),if_neg (by omega),if_neg (by omega),if_pos hk,e]
structure PS(H:Gh)(w:World)(rs:List (Option Nat))(wk:Int)(mu:Bool)(V:World)(rs':List (Option Nat)):Prop where
 wm:WM H V rs' wk mu
 g:Grw w.heap.size rs rs'
 f:Fr (fun k=>wmf H rs k\/False) w V
theorem PS.refl{w:World}(h:WM H w rs wk mu):PS H w rs wk mu w rs:=⟨h,Grw.refl _ _,Fr.refl _ _⟩
theorem PS.below{w V V':World}(h:PS H w rs wk mu V rs')(hb:Below V.heap.size V V'):PS H w rs wk mu V' rs':=⟨h.wm.below hb,h.g,h.f.then hb⟩
theorem PS.mark{w V V':World}{base g c:Nat}{is:List Bool}{P:Nat->Prop}{e:Ending}(h:PS H w rs wk mu V rs')(hm:MkP H V rs' wk mu base g c is P e V')(hg:w.heap.size<=g):e=.returned (.tuple #[])/\∃ rs'' is',PS H w rs wk mu V' rs''/\Fr (fun k=>wmf H rs' k\/k=g) V V'/\BR base V' g c is'/\is'.length=is.length/\∀ j,is'[j]?=some true↔is[j]?=some true\/P j:=by
 obtain⟨h1,rs'',is',h2,h3,h4,h5,h6,h7⟩:=hm
 exact⟨h1,rs'',is',⟨h2,h.g.trans h3 h.f.size,mS h.f h.g h4 fun i e=>by subst e;exact .inr hg⟩,h4,h5,h6,h7⟩
theorem PS.put{w V V':World}{base g c:Nat}{is:List Bool}(h:PS H w rs wk mu V rs')(hb:BR base V g c is)(hf:Fr (fun k=>k=g) V V')(hg:w.heap.size<=g)(hbs:H.base<=w.heap.size)(hp:H.pb<w.heap.size):PS H w rs wk mu V' rs':=
 ⟨h.wm.mark hb hf (by omega) (by omega),h.g,⟨hf.os.trans h.f.os,hf.tape.trans h.f.tape,hf.output.trans h.f.output,o0 h.f.size hf.size,fun i hi hs=>(hf.block i (o8 hi h.f.size) (by omega)).trans (h.f.block i hi hs)⟩⟩
theorem fR{V V':World}{S:Nat->Prop}(hw:WM H V rs wk mu)(hf:Fr (fun k=>wmf H rs k\/S k) V V'){k:Nat}{cs:Array Value}{ty:TypeId}(hk:V.heap[k]?=some (.cells cs ty (0,0)))(he:ty≠43/\ty≠110/\ty≠112)(hS:¬ S k):V'.heap[k]?=some (.cells cs ty (0,0)):=
 (hf.block k (aC hk) (fun q=>by
  rcases q with q | q
  ·obtain⟨-,cs',ty',h1,h2⟩:=hw.wf_ty q
   rw [hk] at h1
   injection h1 with h1
   injection h1 with _ h1 _
   subst h1
   rcases h2 with r | r | r
   ·exact he.1 r
   ·exact he.2.1 r
   ·exact he.2.2 r
  ·exact hS q)).trans hk
theorem Ls12.wmf{base:Nat}{V V':World}{q:Option Addr}{c:Nat}{l:List Nat}{S:Nat->Prop}(h:Ls12 base V q c l)(hw:WM H V rs wk mu)(hf:Fr (fun k=>wmf H rs k\/S k) V V')(hS:∀ k,S k->∃ cs ty,V.heap[k]?=some (.cells cs ty (0,0))/\ty≠3):Ls12 base V' q c l:=
 cT h hw hf (fun k hk hs=>by
  obtain⟨-,-,cur,h3⟩:=aF h hk
  obtain⟨cs,ty,h4,h5⟩:=hS k hs
  rw [h3] at h4
  injection h4 with h4
  injection h4 with _ h4 _
  exact h5 h4.symm) ⟨by decide,by decide,by decide⟩
theorem Ls12.kept{base:Nat}{V V':World}{q:Option Addr}{c:Nat}{l:List Nat}(h:Ls12 base V q c l)(hb:Below V.heap.size V V'):Ls12 base V' q c l:=aH (S:=fun _=>False) h (Fr.of_below hb) (fun _ _ q=>q)
theorem Ls12.mono{base base':Nat}{V:World}{q:Option Addr}{c:Nat}{l:List Nat}(h:Ls12 base V q c l)(hb:base'<=base):Ls12 base' V q c l:=bI h hb
theorem aB5:(Tryz.prog.info? 4).map (fun i=>(i.zero,i.size,i.bytes))=some (some (.bool false),1,1):=by kernel_rfl
theorem aA8:Tryz.prog.underlying 40=some (.slice 4):=by kernel_rfl
def cJ(n:Nat):List Bool:=List.replicate n false
def noC(n:Nat):Array Value:=((cJ n).map Value.bool).toArray
theorem cZ(n:Nat):(cJ n).length=n:=by simp [cJ]
theorem eA(n:Nat)(h:n<=1000000)(w:World) :
  (Instr.makeSlice 40 (.int .i64 (n:Int)) (.int .i64 (n:Int))).run Tryz.prog w=.ok (.slice (some ⟨w.heap.size,0,none⟩) n n) (w.alloc (.cells (noC n) 4)):=by
 obtain⟨i0,hi,hz0,hz1,hz2⟩:=aR aB5
 have:=run_make (P:=Tryz.prog) w 40 4 i0 (.bool false) aA8 hi hz0 .i64 .i64 (n:Int) (n:Int) (by omega) (by omega) (by rw [hz2];omega) (by omega)
 rw [hz1] at this
 have e:madeCells #[.bool false] n=noC n:=by
  unfold noC cJ
  apply Array.ext
  ·simp [madeCells]
  intro i h1 h2
  simp [madeCells,Nat.mod_one]
 rw [<- e]
 simpa [Value.cells] using this
theorem iW{base n:Nat}{V:World}(hb:base<=V.heap.size)(hn:n<=1000000):BR base (V.alloc (.cells (noC n) 4)) V.heap.size n (cJ n):=by
 unfold BR noC cJ
 refine⟨by simp,.inr ⟨V.heap.size,n,_,by simp,hb,aD V _,by simp,by unfold maxLen;omega,by simp,by simp⟩⟩
theorem dW{n j:Nat}:(cJ n)[j]?≠some true:=fun h=>by
 have:=n8 h
 simp [cJ] at this
theorem lJ{is:List Bool}{j:Nat}(h:is[j]?=some true):j<is.length:=(m8.1 h).1
theorem kK{t:Tr}{a:Nat}{is:List Bool}(h:∀ j,is[j]?=some true↔Pz L t a j):fK L t a (eG is is.length):=⟨fun j=>hQ.trans (h j),zF _ _⟩
theorem nP{w V V':World}{t:Tr}{a:Nat}{q:Option Addr}{c:Nat}{l:List Nat}(h:PS H w rs wk mu V rs')(hl:Ls12 V.heap.size V' q c l)(hb:Below V.heap.size V V')(hE:fK H.L t a l)(hbs:H.base<=w.heap.size):iZ H w rs wk mu t a (.returned (.slice q l.length c)) V':=
 ⟨q,c,l,rs',rfl,hl.mono (o0 hbs h.f.size),hE,(h.below hb).wm,h.g,(h.below hb).f⟩
end
end Go.Proofs.YtlamifbjklpdbaaGreat
