/-
  Parts of the proof.
-/
import Derived.Test.YtlamifbjklpdbaaGreatLessProofA0
import Derived.Test.YtlamifbjklpdbaaGreatLessProofB6
import Derived.Test.YtlamifbjklpdbaaGreatLessProofB7
set_option linter.unusedSimpArgs false
set_option maxRecDepth 100000
set_option maxHeartbeats 8000000
namespace Go.Proofs.YtlamifbjklpdbaaGreat
open Go Go.RowKit
section
open Go Go.RowKit Go.Shelf
theorem wX(n:Nat)(h:n<=8796093022208)(w:World) :
  (Instr.makeSlice 35 (.int .i64 (n:Int)) (.int .i64 (n:Int))).run Tryz.prog w=.ok (.slice (some ⟨w.heap.size,0,none⟩) n n) (w.alloc (.cells (fB (List.replicate n 0)).toArray 3)):=by
 obtain⟨i0,hi,hz0,hz1,hz2⟩:=aW qP
 have:=run_make (P:=Tryz.prog) w 35 3 i0 (.int .i64 0) qM hi hz0 .i64 .i64 (n:Int) (n:Int) (by omega) (by omega) (by rw [hz2];omega) (by omega)
 rw [hz1] at this
 have e:madeCells #[.int .i64 0] n=(fB (List.replicate n 0)).toArray:=by
  apply Array.ext
  ·simp [madeCells,fB]
  intro i h1 h2
  simp [madeCells,fB,Nat.mod_one]
 rw [<- e]
 simpa [Value.cells] using this
def mM(n k:Nat):List Int:=(List.range n).map fun i=>if i<k then (i:Int) else 0
theorem vR(n:Nat):mM n 0=List.replicate n 0:=by
 unfold mM
 apply List.ext_getElem
 ·simp
 ·intro i h1 h2
  simp
theorem yB(n k:Nat):(mM n k).set k (k:Int)=mM n (k+1):=by
 unfold mM
 apply List.ext_getElem
 ·simp
 ·intro i h1 h2
  rw [List.getElem_set]
  simp only [List.getElem_map,List.getElem_range]
  by_cases h:k=i
  ·subst h;simp
  ·rw [if_neg h]
   by_cases q:i<k
   ·rw [if_pos q,if_pos (by omega)]
   ·rw [if_neg q,if_neg (by omega)]
theorem aB3(l:List Int)(i:Nat)(x:Int):(fB l).set i (.int .i64 x)=fB (l.set i x):=by simp [fB]
theorem aI2{w:World}{v:Value}{L:List (Int×Int)}(h:ArgR w v L)(hl:L.length<=8796093022208) :
  Calls Tryz.prog 100 #[v] w fun e w'=>∃ g,e=.returned (.slice (some ⟨g,0,none⟩) L.length L.length)/\∃ I:List Nat,nT w' g I/\I.Perm (List.range L.length)/\(I.map (kU L)).Pairwise (·<=·)/\w.heap.size<=g/\Below w.heap.size w w':=by
 obtain⟨q,cap,rfl,-,-,hcells⟩:=h.slice
 have HC:Hid (∀ (i:Nat) (r:Int×Int),L[i]?=some r->∃ g off,q=some ⟨g,off,none⟩/\g<w.heap.size/\w.cell? ⟨g,off+2*i,none⟩=some (.int .i64 r.1)/\w.cell? ⟨g,off+2*i+1,none⟩=some (.int .i64 r.2)):=hcells
 clear hcells h
 have m0:=wX L.length hl
 have hnew:∀ W:World,(W.alloc (.cells (fB (List.replicate L.length 0)).toArray 3)).heap[W.heap.size]?=some (.cells (fB (mM L.length 0)).toArray 3 (0,0)):=fun W=>by rw [vR];exact aD W _
 have HNEW:Hid _:=hnew
 clear hnew
 generalize (fB (List.replicate L.length 0)).toArray=Z at m0 HNEW
 go_enter Tryz.func100,Tryz.ntmps100
 go_wp2
 have N1:Hid (((w.alloc (.cells #[.slice q L.length cap] 22)).alloc (.cells Z 3)).heap[w.heap.size+1]?=some (.cells (fB (mM L.length 0)).toArray 3 (0,0))):=aB (by have:=HNEW.out (w.alloc (.cells #[.slice q L.length cap] 22));simpa using this)
 have C1:Hid (((w.alloc (.cells #[.slice q L.length cap] 22)).alloc (.cells Z 3)).heap[w.heap.size]?=some (.cells #[.slice q L.length cap] 22 (0,0))):=aB (by rw [Below.heap_alloc _ _ _ (by simp)];exact aD w _)
 have B1:Hid (Below w.heap.size w ((w.alloc (.cells #[.slice q L.length cap] 22)).alloc (.cells Z 3))):=(bz9).alloc (by simp) _
 go_loopw [10] (fun i wr=>∃ k:Nat,k<=L.length/\i=.int .i64 k/\wr.heap[w.heap.size+1]?=some (.cells (fB (mM L.length k)).toArray 3 (0,0))/\wr.heap[w.heap.size]?=some (.cells #[.slice q L.length cap] 22 (0,0))/\Below w.heap.size w wr) (fun i _=>L.length-(intOf i).toNat)
 case atStart=>exact⟨0,m7 _,rfl,N1.out,C1.out,B1.out⟩
 case round=>
  obtain⟨k,hk,rfl,hrow,hbox,hb⟩:=hrel
  have ROW:Hid (wr.heap[w.heap.size+1]?=some (.cells (fB (mM L.length k)).toArray 3 (0,0))):=hrow
  have BOX:Hid (wr.heap[w.heap.size]?=some (.cells #[.slice q L.length cap] 22 (0,0))):=hbox
  have B:Hid (Below w.heap.size w wr):=hb
  by_cases hlt:k<L.length
  ·have hf:=aJ hrow k
   have hcur:wr.cell? ⟨w.heap.size+1,k,none⟩=some (.int .i64 0):=aA hrow (by simp [fB,mM,hlt])
   have i0:(0:Int)<=(k:Int):=by omega
   have i1:(k:Int)<(L.length:Int):=by omega
   clear hrow hbox hb
   go_wp2
   go_roundw
   case rel=>
    refine⟨k+1,by omega,by go_num,?_,?_,?_⟩
    ·rw [aM ROW.out k,f8,aB3,yB]
    ·rw [Below.heap_setCell _ _ _ _ (by simp)];exact BOX.out
    ·exact B.out.setCell (by simp) _
   case measure=>simp [intOf];omega
  ·obtain rfl:k=L.length:=by omega
   have i1:¬ (L.length:Int)<(L.length:Int):=by omega
   have IX:Hid (nT wr (w.heap.size+1) (List.range L.length)):=⟨_,ROW.out,fun i x hx=>by
    obtain⟨h1,h2⟩:=i7.1 hx
    simp at h1 h2
    subst h2
    simp [fB,mM,h1]⟩
   have cb:Hid (wr.cell? ⟨w.heap.size,0,none⟩=some (.slice q L.length cap)):=aA BOX.out (i:=0) rfl
   have lb:Hid (w.heap.size<wr.heap.size):=aC BOX.out
   clear hrow hbox hb
   by_cases hne:L.length=0
   ·rw [hne]
    have S0:=fun p cap fv W=>AnyF.slices_SortFunc_none (P:=Tryz.prog) (ρ:=Tryz.sortPl_ren) { Tryz.sortPl with } p cap fv W
    have HS:Hid (∀ p cap fv W,Calls Tryz.prog 109 #[.slice p 0 cap,fv] W fun e w'=>e=.returned (.tuple #[])/\w'=W):=S0
    clear S0
    go_wp2_with (go_at_call 109;refine(HS.out _ _ _ _).mono ?_;rintro e w5 ⟨rfl,h5⟩;subst w5)
    go_ret
    exact⟨_,by rw [hne];rfl,List.range L.length,IX.out,List.Perm.refl _,by rw [hne];simp,by omega,B.out⟩
   ·obtain⟨g,off,rfl,hg,-⟩:=HC.out 0 _ (b7 (by omega))
    have HL:Hid (∀ (i:Nat) (r:Int×Int),L[i]?=some r->wr.cell? ⟨g,off+i*2,none⟩=some (.int .i64 r.1)):=fun i r hr=>by
     obtain⟨g',off',e,hg',x1,_⟩:=HC.out i r hr
     cases e
     rw [u0]
     exact(B.out.cell (p:=⟨g,off+2*i,none⟩) hg').trans x1
    have hgw:g<wr.heap.size:=by have:=B.out.size;omega
    go_wp2_with (go_at_call 109;refine(yT (by omega) hl cb.out HL.out (by omega) (by omega) lb.out hgw IX.out).mono ?_;rintro e w5 ⟨rfl,I,h1,h2,h3,h4⟩;have J:Hid (nT w5 (w.heap.size+1) I/\I.Perm (List.range L.length)/\(I.map (kU L)).Pairwise (·<=·)):=⟨h1,h2,h3⟩;have B5:Hid (Below w.heap.size w w5):=aX B.out h4 lz9 (fun k hk=>by omega);clear h1 h2 h3 h4)
    go_ret
    exact⟨_,rfl,I,J.out.1,J.out.2.1,J.out.2.2,by omega,B5.out⟩
theorem jG{S:List (Int×Int)}(hs:S.Pairwise (fun a b=>a.1<=b.1))(hF:Fit S):∀ k,k<=S.length ->
  Cls ((S.take k).foldl bC [])/\Fit ((S.take k).foldl bC [])/\((S.take k).foldl bC []).length<=k/\(∀ c,In ((S.take k).foldl bC []) c↔In (S.take k) c)/\∀ m,(∀ r∈S.take k,r.1<=m)->∀ x∈(S.take k).foldl bC [],x.1<=m
 | 0,_=>by simp [mJ,eE]
 | k+1,h=>by
  obtain⟨h1,h2,h3,h4,h5⟩:=jG hs hF k (by omega)
  have hk:k<S.length:=by omega
  rw [dI S k hk,List.foldl_append,List.foldl_cons,List.foldl_nil]
  have hle:∀ r∈S.take k,r.1<=(S[k]).1:=fun r hr=>by
   obtain⟨j,hj,rfl⟩:=List.mem_take_iff_getElem.1 hr
   exact List.pairwise_iff_getElem.1 hs j k (by omega) hk (by omega)
  obtain⟨a1,a2,a3⟩:=lV (r:=S[k]) h1 (fun _=>h5 _ hle)
  refine⟨a1,nM h2 (dE hF fun y hy=>by simp at hy;subst hy;simp),j4 (iU _ _) (by omega),fun c=>?_,fun m hm=>?_⟩
  ·rw [a2,h4,bZ,dN]
  ·exact a3 m (fun _=>hm _ (j6.2 (.inr (s9.2 rfl)))) (h5 m fun r hr=>hm r (j6.2 (.inl hr)))
def cY(L:List (Int×Int))(I:List Nat):List (Int×Int):=I.map fun i=>(L[i]?).getD (0,0)
theorem qY(L:List (Int×Int)):cY L (List.range L.length)=L:=by
 unfold cY
 apply List.ext_getElem
 ·simp
 ·intro i h1 h2
  simp [h2]
theorem nF{L:List (Int×Int)}{I:List Nat}(h:I.Perm (List.range L.length)):(cY L I).Perm L:=by
 have:=h.map fun i=>(L[i]?).getD (0,0)
 rwa [show (List.range L.length).map (fun i=>(L[i]?).getD (0,0))=L from qY L] at this
theorem kP{L:List (Int×Int)}{I:List Nat}(h:(I.map (kU L)).Pairwise (·<=·)):(cY L I).Pairwise (fun a b=>a.1<=b.1):=by
 unfold cY
 rw [List.pairwise_map] at h ⊢
 exact h
theorem fA(L:List (Int×Int))(I:List Nat):(cY L I).length=I.length:=by simp [cY]
theorem aJ8{L:List (Int×Int)}{I:List Nat}(hp:I.Perm (List.range L.length))(hs:(I.map (kU L)).Pairwise (·<=·))(hF:Fit L):IsC ((cY L I).foldl bC []) (In L)/\((cY L I).foldl bC []).length<=L.length:=by
 have hperm:=nF hp
 have hF':Fit (cY L I):=dE hF fun x hx=>hperm.mem_iff.1 hx
 obtain⟨h1,h2,h3,h4,-⟩:=jG (kP hs) hF' (cY L I).length lz9
 rw [aAB] at h1 h2 h3 h4
 exact⟨⟨h1,h2,fun c=>(h4 c).trans (vA hperm c)⟩,by rw [hperm.length_eq] at h3;exact h3⟩
theorem aS1{L:List (Int×Int)}{I:List Nat}(hp:I.Perm (List.range L.length)){k i:Nat}(h:I[k]?=some i):i<L.length:=List.mem_range.1 (hp.mem_iff.1 (i5 h))
theorem eQ{w:World}{v:Value}{L:List (Int×Int)}(h:ArgR w v L)(hF:Fit L)(hl:L.length<=8796093022208) :
  Calls Tryz.prog 89 #[v] w (oD w (In L) L.length):=by
 obtain⟨q,cap,rfl,-,-,hcells⟩:=h.slice
 have HC:Hid (∀ (i:Nat) (r:Int×Int),L[i]?=some r->∃ g off,q=some ⟨g,off,none⟩/\g<w.heap.size/\w.cell? ⟨g,off+2*i,none⟩=some (.int .i64 r.1)/\w.cell? ⟨g,off+2*i+1,none⟩=some (.int .i64 r.2)):=hcells
 have H:Hid (ArgR w (.slice q L.length cap) L):=h
 have HF:Hid (Fit L):=hF
 clear hcells h hF
 go_enter Tryz.func89,Tryz.ntmps89
 go_wp2_with (go_at_call 100;refine(aI2 H.out hl).mono ?_;rintro e w5 ⟨g5,rfl,I,h1,h2,h3,h4,h5⟩;have J:Hid (nT w5 g5 I/\I.Perm (List.range L.length)/\(I.map (kU L)).Pairwise (·<=·)/\w.heap.size<=g5):=⟨h1,h2,h3,h4⟩;have B5:Hid (Below w.heap.size w w5):=h5;clear h1 h2 h3 h4 h5)
 have HIL:Hid (I.length=L.length):=aB (by have:=J.out.2.1.length_eq;simpa using this)
 have SP:Hid (∀ k,k<=L.length->Fit (((cY L I).take k).foldl bC [])/\(((cY L I).take k).foldl bC []).length<=k):=fun k hk=>by
  have hperm:=nF J.out.2.1
  have:=jG (kP J.out.2.2.1) (dE HF.out fun x hx=>hperm.mem_iff.1 hx) k (by rw [fA,HIL.out];exact hk)
  exact⟨this.2.1,this.2.2.1⟩
 go_loopw [3,9] (fun cv i wr=>∃ k:Nat,k<=L.length/\i=.int .i64 k/\RR w.heap.size wr cv (((cY L I).take k).foldl bC [])/\nT wr g5 I/\Below w.heap.size w wr) (fun _ i _=>L.length-(intOf i).toNat)
 case atStart=>exact⟨0,m7 _,rfl,RR.nil _ _,J.out.1,B5.out⟩
 case round=>
  obtain⟨k,hk,rfl,hrr,hidx,hb⟩:=hrel
  obtain⟨cur,hcur,hcv⟩:=hidx
  have RC:Hid (RR w.heap.size wr u3 (((cY L I).take k).foldl bC [])):=hrr
  have B:Hid (Below w.heap.size w wr):=hb
  have hbs:w.heap.size<=wr.heap.size:=hb.size
  clear hb hrr
  by_cases hlt:k<L.length
  ·obtain⟨x,hx⟩:∃ x,I[k]?=some x:=⟨_,b7 (by have:=HIL.out;omega)⟩
   have hxl:=aS1 J.out.2.1 hx
   obtain⟨r,hr⟩:∃ r,L[x]?=some r:=⟨_,b7 hxl⟩
   obtain⟨g,off,rfl,hg,x1,x2⟩:=HC.out x r hr
   have d1:=(B.out.cell (p:=⟨g,off+2*x,none⟩) hg).trans x1
   have d2:=(B.out.cell (p:=⟨g,off+2*x+1,none⟩) hg).trans x2
   rw [u0] at d1 d2
   have di:wr.cell? ⟨g5,k,none⟩=some (.int .i64 (x:Int)):=aA hcur (hcv k x hx)
   have CUR:Hid (wr.heap[g5]?=some (.cells cur 3 (0,0))/\∀ (i x:Nat),I[i]?=some x->cur[i]?=some (.int .i64 (x:Int))):=⟨hcur,hcv⟩
   have NX:Hid (((cY L I).take (k+1)).foldl bC []=bC (((cY L I).take k).foldl bC []) r):=aB (by
    have hpl:k<(cY L I).length:=by rw [fA];have:=HIL.out;omega
    have e:(cY L I)[k]=r:=by
     have h1:I[k]'(by rw [fA] at hpl;exact hpl)=x:=(i7.1 hx).2
     simp [cY,h1,hr]
    rw [dI _ _ hpl,List.foldl_append,e];rfl)
   have FR:Hid (Fit [r]):=dE HF.out fun y hy=>by simp at hy;subst hy;exact i5 hr
   have i0:(0:Int)<=(k:Int):=by omega
   have i1:(k:Int)<(L.length:Int):=by omega
   have j0:(0:Int)<=(x:Int):=by omega
   have j1:(x:Int)<(L.length:Int):=by omega
   have SPk:=SP.out k hk
   have S1:Hid (Fit (((cY L I).take k).foldl bC [])):=SPk.1
   have S2:Hid ((((cY L I).take k).foldl bC []).length+1<=8796093022208):=aB (by omega)
   clear x1 x2 hx hr hcur hcv SPk
   generalize ((cY L I).take k).foldl bC []=C at RC NX S1 S2
   go_wp2_with (go_at_call 101;refine(aN1 RC.out S1.out FR.out hbs S2.out).mono ?_;rintro e w6 ⟨v6,rfl,h1,h2,h3⟩;have R6:Hid (RR w.heap.size w6 v6 (bC C r)):=h1;have F6:Hid (Fr (blk u3) wr w6):=h3;clear h1 h2 h3)
   go_roundw
   case rel=>
    refine⟨k+1,by omega,by go_num,by rw [NX.out];exact R6.out,⟨cur,?_,CUR.out.2⟩,?_⟩
    ·exact(F6.out.block g5 (aC CUR.out.1) (dF RC.out CUR.out.1 (by decide))).trans CUR.out.1
    ·exact aX B.out F6.out lz9 (fun k hk=>(aG RC.out hk).1)
   case measure=>simp [intOf];omega
  ·obtain rfl:k=L.length:=by omega
   have i1:¬ (L.length:Int)<(L.length:Int):=by omega
   have E:Hid ((cY L I).take L.length=cY L I):=aB (j5 (by rw [fA,HIL.out];exact o5 _))
   rw [E.out] at RC
   clear hcur hcv
   go_wp2
   go_ret
   obtain⟨f1,f2⟩:=aJ8 J.out.2.1 J.out.2.2.1 HF.out
   exact⟨_,_,rfl,RC.out,f1,f2,B.out⟩
end
def lP:Value->Nat
 | .slice _ n _=>n
 | _=>0
end Go.Proofs.YtlamifbjklpdbaaGreat
