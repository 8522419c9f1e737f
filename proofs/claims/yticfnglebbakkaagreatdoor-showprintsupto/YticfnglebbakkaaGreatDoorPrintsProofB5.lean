/-
  Parts of the proof.
-/
import Derived.Test.YticfnglebbakkaaGreatDoorPrintsProofB3
import Derived.Test.YticfnglebbakkaaGreatDoorPrintsProofB4
set_option maxRecDepth 100000
set_option maxHeartbeats 8000000
namespace Go.Proofs.YticfnglebbakkaaGreatDoor
open Go Go.RowKit
section
open Go Go.RowKit Go.Shelf
theorem vW(n:Nat)(h:n<=8796093022208)(w:World) :
  (Instr.makeSlice 158 (.int .i64 (n:Int)) (.int .i64 (n:Int))).run Tryz.prog w=.ok (.slice (some ⟨w.heap.size,0,none⟩) n n) (w.alloc (.cells (eC (List.replicate n 0)).toArray 3)):=by
 obtain⟨i0,hi,hz0,hz1,hz2⟩:=aQ qF
 have:=run_make (P:=Tryz.prog) w 158 3 i0 (.int .i64 0) qA hi hz0 .i64 .i64 (n:Int) (n:Int) (by omega) (by omega) (by rw [hz2];omega) (by omega)
 rw [hz1] at this
 have e:madeCells #[.int .i64 0] n=(eC (List.replicate n 0)).toArray:=by
  apply Array.ext
  ·simp [madeCells,eC]
  intro i h1 h2
  simp [madeCells,eC,Nat.mod_one]
 rw [<- e]
 simpa [Value.cells] using this
def lS(n k:Nat):List Int:=(List.range n).map fun i=>if i < k then (i:Int) else 0
theorem uW(n:Nat):lS n 0=List.replicate n 0:=by
 unfold lS
 apply List.ext_getElem
 ·simp
 ·intro i h1 h2
  simp
theorem wO(n k:Nat):(lS n k).set k (k:Int)=lS n (k+1):=by
 unfold lS
 apply List.ext_getElem
 ·simp
 ·intro i h1 h2
  rw [List.getElem_set]
  simp only [List.getElem_map,List.getElem_range]
  by_cases h:k=i
  ·subst h;simp
  ·rw [if_neg h]
   by_cases q:i < k
   ·rw [if_pos q,if_pos (by omega)]
   ·rw [if_neg q,if_neg (by omega)]
theorem yO(l:List Int)(i:Nat)(x:Int):(eC l).set i (.int .i64 x)=eC (l.set i x):=by simp [eC]
theorem aC4{w:World}{v:Value}{L:List (Int × Int)}(h:ArgR w v L)(hl:L.length<=8796093022208) :
  Calls Tryz.prog 155 #[v] w fun e w'=>∃ g,e=.returned (.slice (some ⟨g,0,none⟩) L.length L.length)/\∃ I:List Nat,nG w' g I/\I.Perm (List.range L.length)/\(I.map (jO L)).Pairwise (·<=·)/\w.heap.size<=g/\Below w.heap.size w w':=by
 obtain⟨q,cap,rfl,-,-,hcells⟩:=h.slice
 have HC:Hid (∀ (i:Nat) (r:Int × Int),L[i]?=some r->∃ g off,q=some ⟨g,off,none⟩/\g < w.heap.size/\w.cell? ⟨g,off+2 * i,none⟩=some (.int .i64 r.1)/\w.cell? ⟨g,off+2 * i+1,none⟩=some (.int .i64 r.2)):=hcells
 clear hcells h
 have m0:=vW L.length hl
 have hnew:∀ W:World,(W.alloc (.cells (eC (List.replicate L.length 0)).toArray 3)).heap[W.heap.size]?=some (.cells (eC (lS L.length 0)).toArray 3 (0,0)):=fun W=>by rw [uW];exact aF W _
 have HNEW:Hid _:=hnew
 clear hnew
 generalize (eC (List.replicate L.length 0)).toArray=Z at m0 HNEW
 go_enter Tryz.func155,Tryz.ntmps155
 go_wp2
 have N1:Hid (((w.alloc (.cells #[.slice q L.length cap] 22)).alloc (.cells Z 3)).heap[w.heap.size+1]?=some (.cells (eC (lS L.length 0)).toArray 3 (0,0))):=aB (by have:=HNEW.out (w.alloc (.cells #[.slice q L.length cap] 22));simpa using this)
 have C1:Hid (((w.alloc (.cells #[.slice q L.length cap] 22)).alloc (.cells Z 3)).heap[w.heap.size]?=some (.cells #[.slice q L.length cap] 22 (0,0))):=aB (by rw [Below.heap_alloc _ _ _ (by simp)];exact aF w _)
 have B1:Hid (Below w.heap.size w ((w.alloc (.cells #[.slice q L.length cap] 22)).alloc (.cells Z 3))):=(bz9).alloc (by simp) _
 go_loopw [10] (fun i wr=>∃ k:Nat,k<=L.length/\i=.int .i64 k/\wr.heap[w.heap.size+1]?=some (.cells (eC (lS L.length k)).toArray 3 (0,0))/\wr.heap[w.heap.size]?=some (.cells #[.slice q L.length cap] 22 (0,0))/\Below w.heap.size w wr) (fun i _=>L.length - (intOf i).toNat)
 case atStart=>exact⟨0,Nat.zero_le _,rfl,N1.out,C1.out,B1.out⟩
 case round=>
  obtain⟨k,hk,rfl,hrow,hbox,hb⟩:=hrel
  have ROW:Hid (wr.heap[w.heap.size+1]?=some (.cells (eC (lS L.length k)).toArray 3 (0,0))):=hrow
  have BOX:Hid (wr.heap[w.heap.size]?=some (.cells #[.slice q L.length cap] 22 (0,0))):=hbox
  have B:Hid (Below w.heap.size w wr):=hb
  by_cases hlt:k < L.length
  ·have hf:=bE hrow k
   have hcur:wr.cell? ⟨w.heap.size+1,k,none⟩=some (.int .i64 0):=aA hrow (by simp [eC,lS,hlt])
   have i0:(0:Int)<=(k:Int):=by omega
   have i1:(k:Int) < (L.length:Int):=by omega
   clear hrow hbox hb
   go_wp2
   go_roundw
   case rel=>
    refine⟨k+1,by omega,by go_num,?_,?_,?_⟩
    ·rw [aU ROW.out k,List.setIfInBounds_toArray,yO,wO]
    ·rw [Below.heap_setCell _ _ _ _ (by simp)];exact BOX.out
    ·exact B.out.setCell (by simp) _
   case measure=>simp [intOf];omega
  ·obtain rfl:k=L.length:=by omega
   have i1:¬ (L.length:Int) < (L.length:Int):=by omega
   have IX:Hid (nG wr (w.heap.size+1) (List.range L.length)):=⟨_,ROW.out,fun i x hx=>by
    obtain⟨h1,h2⟩:=List.getElem?_eq_some_iff.1 hx
    simp at h1 h2
    subst h2
    simp [eC,lS,h1]⟩
   have cb:Hid (wr.cell? ⟨w.heap.size,0,none⟩=some (.slice q L.length cap)):=aA BOX.out (i:=0) rfl
   have lb:Hid (w.heap.size < wr.heap.size):=aC BOX.out
   clear hrow hbox hb
   by_cases hne:L.length=0
   ·rw [hne]
    have S0:=fun p cap fv W=>AnyF.slices_SortFunc_none (P:=Tryz.prog) (ρ:=Tryz.sortPl_ren) { Tryz.sortPl with } p cap fv W
    have HS:Hid (∀ p cap fv W,Calls Tryz.prog 172 #[.slice p 0 cap,fv] W fun e w'=>e=.returned (.tuple #[])/\w'=W):=S0
    clear S0
    go_wp2_with (go_at_call 172;refine(HS.out _ _ _ _).mono ?_;rintro e w5 ⟨rfl,h5⟩;subst w5)
    go_ret
    exact⟨_,by rw [hne];rfl,List.range L.length,IX.out,List.Perm.refl _,by rw [hne];simp,by omega,B.out⟩
   ·obtain⟨g,off,rfl,hg,-⟩:=HC.out 0 _ (List.getElem?_eq_getElem (by omega))
    have HL:Hid (∀ (i:Nat) (r:Int × Int),L[i]?=some r->wr.cell? ⟨g,off+i * 2,none⟩=some (.int .i64 r.1)):=fun i r hr=>by
     obtain⟨g',off',e,hg',x1,_⟩:=HC.out i r hr
     cases e
     rw [Nat.mul_comm]
     exact(B.out.cell (p:=⟨g,off+2 * i,none⟩) hg').trans x1
    have hgw:g < wr.heap.size:=by have:=B.out.size;omega
    go_wp2_with (go_at_call 172;refine(wY (by omega) hl cb.out HL.out (by omega) (by omega) lb.out hgw IX.out).mono ?_;rintro e w5 ⟨rfl,I,h1,h2,h3,h4⟩;have J:Hid (nG w5 (w.heap.size+1) I/\I.Perm (List.range L.length)/\(I.map (jO L)).Pairwise (·<=·)):=⟨h1,h2,h3⟩;have B5:Hid (Below w.heap.size w w5):=cL B.out h4 lz9 (fun k hk=>by omega);clear h1 h2 h3 h4)
    go_ret
    exact⟨_,rfl,I,J.out.1,J.out.2.1,J.out.2.2,by omega,B5.out⟩
theorem gY{S:List (Int × Int)}(hs:S.Pairwise (fun a b=>a.1<=b.1))(hF:Fit S):∀ k,k<=S.length ->
  Cls ((S.take k).foldl bN [])/\Fit ((S.take k).foldl bN [])/\((S.take k).foldl bN []).length<=k/\(∀ c,In ((S.take k).foldl bN []) c ↔ In (S.take k) c)/\∀ m,(∀ r∈S.take k,r.1<=m)->∀ x∈(S.take k).foldl bN [],x.1<=m
 | 0,_=>by simp [pQ,eR]
 | k+1,h=>by
  obtain⟨h1,h2,h3,h4,h5⟩:=gY hs hF k (by omega)
  have hk:k < S.length:=by omega
  rw [bL S k hk,List.foldl_append,List.foldl_cons,List.foldl_nil]
  have hle:∀ r∈S.take k,r.1<=(S[k]).1:=fun r hr=>by
   obtain⟨j,hj,rfl⟩:=List.mem_take_iff_getElem.1 hr
   exact List.pairwise_iff_getElem.1 hs j k (by omega) hk (by omega)
  obtain⟨a1,a2,a3⟩:=oQ (r:=S[k]) h1 (fun _=>h5 _ hle)
  refine⟨a1,rD h2 (dH hF fun y hy=>by simp at hy;subst hy;simp),Nat.le_trans (gO _ _) (by omega),fun c=>?_,fun m hm=>?_⟩
  ·rw [a2,h4,bO,cP]
  ·exact a3 m (fun _=>hm _ (List.mem_append.2 (.inr (List.mem_singleton.2 rfl)))) (h5 m fun r hr=>hm r (List.mem_append.2 (.inl hr)))
def cI(L:List (Int × Int))(I:List Nat):List (Int × Int):=I.map fun i=>(L[i]?).getD (0,0)
theorem qO(L:List (Int × Int)):cI L (List.range L.length)=L:=by
 unfold cI
 apply List.ext_getElem
 ·simp
 ·intro i h1 h2
  simp [h2]
theorem mG{L:List (Int × Int)}{I:List Nat}(h:I.Perm (List.range L.length)):(cI L I).Perm L:=by
 have:=h.map fun i=>(L[i]?).getD (0,0)
 rwa [show (List.range L.length).map (fun i=>(L[i]?).getD (0,0))=L from qO L] at this
theorem jK{L:List (Int × Int)}{I:List Nat}(h:(I.map (jO L)).Pairwise (·<=·)):(cI L I).Pairwise (fun a b=>a.1<=b.1):=by
 unfold cI
 rw [List.pairwise_map] at h ⊢
 exact h
theorem eB(L:List (Int × Int))(I:List Nat):(cI L I).length=I.length:=by simp [cI]
theorem aD8{L:List (Int × Int)}{I:List Nat}(hp:I.Perm (List.range L.length))(hs:(I.map (jO L)).Pairwise (·<=·))(hF:Fit L):IsC ((cI L I).foldl bN []) (In L)/\((cI L I).foldl bN []).length<=L.length:=by
 have hperm:=mG hp
 have hF':Fit (cI L I):=dH hF fun x hx=>hperm.mem_iff.1 hx
 obtain⟨h1,h2,h3,h4,-⟩:=gY (jK hs) hF' (cI L I).length lz9
 rw [List.take_length] at h1 h2 h3 h4
 exact⟨⟨h1,h2,fun c=>(h4 c).trans (aD4 hperm c)⟩,by rw [hperm.length_eq] at h3;exact h3⟩
theorem aJ6{L:List (Int × Int)}{I:List Nat}(hp:I.Perm (List.range L.length)){k i:Nat}(h:I[k]?=some i):i < L.length:=List.mem_range.1 (hp.mem_iff.1 (List.mem_of_getElem? h))
theorem dR{w:World}{v:Value}{L:List (Int × Int)}(h:ArgR w v L)(hF:Fit L)(hl:L.length<=8796093022208) :
  Calls Tryz.prog 129 #[v] w (nH w (In L) L.length):=by
 obtain⟨q,cap,rfl,-,-,hcells⟩:=h.slice
 have HC:Hid (∀ (i:Nat) (r:Int × Int),L[i]?=some r->∃ g off,q=some ⟨g,off,none⟩/\g < w.heap.size/\w.cell? ⟨g,off+2 * i,none⟩=some (.int .i64 r.1)/\w.cell? ⟨g,off+2 * i+1,none⟩=some (.int .i64 r.2)):=hcells
 have H:Hid (ArgR w (.slice q L.length cap) L):=h
 have HF:Hid (Fit L):=hF
 clear hcells h hF
 go_enter Tryz.func129,Tryz.ntmps129
 go_wp2_with (go_at_call 155;refine(aC4 H.out hl).mono ?_;rintro e w5 ⟨g5,rfl,I,h1,h2,h3,h4,h5⟩;have J:Hid (nG w5 g5 I/\I.Perm (List.range L.length)/\(I.map (jO L)).Pairwise (·<=·)/\w.heap.size<=g5):=⟨h1,h2,h3,h4⟩;have B5:Hid (Below w.heap.size w w5):=h5;clear h1 h2 h3 h4 h5)
 have HIL:Hid (I.length=L.length):=aB (by have:=J.out.2.1.length_eq;simpa using this)
 have SP:Hid (∀ k,k<=L.length->Fit (((cI L I).take k).foldl bN [])/\(((cI L I).take k).foldl bN []).length<=k):=fun k hk=>by
  have hperm:=mG J.out.2.1
  have:=gY (jK J.out.2.2.1) (dH HF.out fun x hx=>hperm.mem_iff.1 hx) k (by rw [eB,HIL.out];exact hk)
  exact⟨this.2.1,this.2.2.1⟩
 go_loopw [3,9] (fun cv i wr=>∃ k:Nat,k<=L.length/\i=.int .i64 k/\RR w.heap.size wr cv (((cI L I).take k).foldl bN [])/\nG wr g5 I/\Below w.heap.size w wr) (fun _ i _=>L.length - (intOf i).toNat)
 case atStart=>exact⟨0,Nat.zero_le _,rfl,RR.nil _ _,J.out.1,B5.out⟩
 case round=>
  obtain⟨k,hk,rfl,hrr,hidx,hb⟩:=hrel
  obtain⟨cur,hcur,hcv⟩:=hidx
  have RC:Hid (RR w.heap.size wr u3 (((cI L I).take k).foldl bN [])):=hrr
  have B:Hid (Below w.heap.size w wr):=hb
  have hbs:w.heap.size<=wr.heap.size:=hb.size
  clear hb hrr
  by_cases hlt:k < L.length
  ·obtain⟨x,hx⟩:∃ x,I[k]?=some x:=⟨_,List.getElem?_eq_getElem (by have:=HIL.out;omega)⟩
   have hxl:=aJ6 J.out.2.1 hx
   obtain⟨r,hr⟩:∃ r,L[x]?=some r:=⟨_,List.getElem?_eq_getElem hxl⟩
   obtain⟨g,off,rfl,hg,x1,x2⟩:=HC.out x r hr
   have d1:=(B.out.cell (p:=⟨g,off+2 * x,none⟩) hg).trans x1
   have d2:=(B.out.cell (p:=⟨g,off+2 * x+1,none⟩) hg).trans x2
   rw [Nat.mul_comm] at d1 d2
   have di:wr.cell? ⟨g5,k,none⟩=some (.int .i64 (x:Int)):=aA hcur (hcv k x hx)
   have CUR:Hid (wr.heap[g5]?=some (.cells cur 3 (0,0))/\∀ (i x:Nat),I[i]?=some x->cur[i]?=some (.int .i64 (x:Int))):=⟨hcur,hcv⟩
   have NX:Hid (((cI L I).take (k+1)).foldl bN []=bN (((cI L I).take k).foldl bN []) r):=aB (by
    have hpl:k < (cI L I).length:=by rw [eB];have:=HIL.out;omega
    have e:(cI L I)[k]=r:=by
     have h1:I[k]'(by rw [eB] at hpl;exact hpl)=x:=(List.getElem?_eq_some_iff.1 hx).2
     simp [cI,h1,hr]
    rw [bL _ _ hpl,List.foldl_append,e];rfl)
   have FR:Hid (Fit [r]):=dH HF.out fun y hy=>by simp at hy;subst hy;exact List.mem_of_getElem? hr
   have i0:(0:Int)<=(k:Int):=by omega
   have i1:(k:Int) < (L.length:Int):=by omega
   have j0:(0:Int)<=(x:Int):=by omega
   have j1:(x:Int) < (L.length:Int):=by omega
   have SPk:=SP.out k hk
   have S1:Hid (Fit (((cI L I).take k).foldl bN [])):=SPk.1
   have S2:Hid ((((cI L I).take k).foldl bN []).length+1<=8796093022208):=aB (by omega)
   clear x1 x2 hx hr hcur hcv SPk
   generalize ((cI L I).take k).foldl bN []=C at RC NX S1 S2
   go_wp2_with (go_at_call 154;refine(aH1 RC.out S1.out FR.out hbs S2.out).mono ?_;rintro e w6 ⟨v6,rfl,h1,h2,h3⟩;have R6:Hid (RR w.heap.size w6 v6 (bN C r)):=h1;have F6:Hid (Fr (blk u3) wr w6):=h3;clear h1 h2 h3)
   go_roundw
   case rel=>
    refine⟨k+1,by omega,by go_num,by rw [NX.out];exact R6.out,⟨cur,?_,CUR.out.2⟩,?_⟩
    ·exact(F6.out.block g5 (aC CUR.out.1) (bX RC.out CUR.out.1 (by decide))).trans CUR.out.1
    ·exact cL B.out F6.out lz9 (fun k hk=>(aH RC.out hk).1)
   case measure=>simp [intOf];omega
  ·obtain rfl:k=L.length:=by omega
   have i1:¬ (L.length:Int) < (L.length:Int):=by omega
   have E:Hid ((cI L I).take L.length=cI L I):=aB (List.take_of_length_le (by rw [eB,HIL.out];exact Nat.le_refl _))
   rw [E.out] at RC
   clear hcur hcv
   go_wp2
   go_ret
   obtain⟨f1,f2⟩:=aD8 J.out.2.1 J.out.2.2.1 HF.out
   exact⟨_,_,rfl,RC.out,f1,f2,B.out⟩
end
def kQ:Value->Nat
 | .slice _ n _=>n
 | _=>0
structure RestI(C:List (Int × Int))(k:Nat)(f:Int)(G:List (Int × Int)):Prop where
 cls:Cls G
 fit:Fit G
 len:G.length<=k
 mem:∀ c,In G c ↔ -9223372036854775808<=c/\c < f/\¬ In (C.take k) c
 apart:∀ x∈G,x.2+1 < f
 lo:-9223372036854775808<=f
 hi:f<=9223372036854775807
 below:∀ x∈C.take k,x.2 < f
 next:∀ r,C[k]?=some r->f<=r.1
theorem RestI.start{C:List (Int × Int)}(hF:Fit C):RestI C 0 (-9223372036854775808) []:=
 ⟨pQ,eR,Nat.le_refl _,fun c=>⟨fun q=>absurd q (dN c),fun q=>by omega⟩,fun _ h=>(by cases h),by omega,by omega,fun _ h=>(by simp at h),fun r hr=>(hF r (List.mem_of_getElem? hr)).1.1⟩
def iV(f lo:Int)(G:List (Int × Int)):List (Int × Int):=if f < lo then G ++ [(f,lo - 1)] else G
theorem jT{C:List (Int × Int)}{k:Nat}{r:Int × Int}(hr:C[k]?=some r)(c:Int):In (C.take (k+1)) c ↔ In (C.take k) c\/(r.1<=c/\c<=r.2):=by
 obtain⟨hk,rfl⟩:=List.getElem?_eq_some_iff.1 hr
 rw [bL C k hk,bO,cP]
theorem RestI.gap{C:List (Int × Int)}{k:Nat}{f:Int}{G:List (Int × Int)}{r:Int × Int}(I:RestI C k f G)(hr:C[k]?=some r)(hC:Cls C)(hF:Fit C) :
  Cls (iV f r.1 G)/\Fit (iV f r.1 G)/\(iV f r.1 G).length<=k+1/\(∀ c,In (iV f r.1 G) c ↔ -9223372036854775808<=c/\c<=r.2/\¬ In (C.take (k+1)) c)/\∀ x∈iV f r.1 G,x.2+1 < r.2+1:=by
 have hrm:=List.mem_of_getElem? hr
 have h1:=hC.some r hrm
 have h2:=hF r hrm
 have h3:=I.next r hr
 have l1:=I.lo
 have hnot:∀ c,f<=c->¬ In (C.take k) c:=fun c hc ⟨x,hx,_,q⟩=>by have:=I.below x hx;omega
 unfold iV
 by_cases hf:f < r.1
 ·rw [if_pos hf]
  refine⟨fM I.cls (by simp only;omega) I.apart,bZ I.fit (fJ (by omega)),by have:=I.len;simp;omega,fun c=>?_,fun x hx=>?_⟩
  ·rw [bO,cP,I.mem,jT hr]
   simp only
   constructor
   ·rintro (⟨a,b,d⟩ | ⟨a,b⟩)
    ·exact⟨a,by omega,fun q=>q.elim d fun q=>by omega⟩
    ·exact⟨by omega,by omega,fun q=>q.elim (hnot c a) fun q=>by omega⟩
   ·rintro ⟨a,b,d⟩
    by_cases hc:c < f
    ·exact .inl ⟨a,hc,fun q=>d (.inl q)⟩
    ·refine .inr ⟨by omega,?_⟩
     have:¬ r.1<=c:=fun q=>d (.inr ⟨q,b⟩)
     omega
  ·rcases List.mem_append.1 hx with q | q
   ·have:=I.apart x q;omega
   ·simp at q;subst q;simp only;omega
 ·rw [if_neg hf]
  refine⟨I.cls,I.fit,by have:=I.len;omega,fun c=>?_,fun x hx=>by have:=I.apart x hx;omega⟩
  rw [I.mem,jT hr]
  constructor
  ·rintro ⟨a,b,d⟩
   exact⟨a,by omega,fun q=>q.elim d fun q=>by omega⟩
  ·rintro ⟨a,b,d⟩
   refine⟨a,?_,fun q=>d (.inl q)⟩
   have:¬ r.1<=c:=fun q=>d (.inr ⟨q,b⟩)
   omega
theorem RestI.go{C:List (Int × Int)}{k:Nat}{f:Int}{G:List (Int × Int)}{r:Int × Int}(I:RestI C k f G)(hr:C[k]?=some r)(hC:Cls C)(hF:Fit C)(h:r.2≠9223372036854775807):RestI C (k+1) (r.2+1) (iV f r.1 G):=by
 obtain⟨g1,g2,g3,g4,g5⟩:=I.gap hr hC hF
 have hrm:=List.mem_of_getElem? hr
 have h1:=hC.some r hrm
 have h2:=hF r hrm
 refine⟨g1,g2,g3,fun c=>(g4 c).trans ⟨fun⟨a,b,d⟩=>⟨a,by omega,d⟩,fun⟨a,b,d⟩=>⟨a,by omega,d⟩⟩,g5,by omega,by omega,fun x hx=>?_,fun s hs=>?_⟩
 ·obtain⟨hk,rfl⟩:=List.getElem?_eq_some_iff.1 hr
  rw [bL C k hk] at hx
  rcases List.mem_append.1 hx with q | q
  ·have q1:=I.below x q
   have q2:=I.next _ hr
   omega
  ·simp at q;subst q;omega
 ·obtain⟨hk,rfl⟩:=List.getElem?_eq_some_iff.1 hr
  obtain⟨hk',rfl⟩:=List.getElem?_eq_some_iff.1 hs
  have:=List.pairwise_iff_getElem.1 hC.apart k (k+1) hk hk' (by omega)
  omega
theorem RestI.full{C:List (Int × Int)}{k:Nat}{f:Int}{G:List (Int × Int)}{r:Int × Int}(I:RestI C k f G)(hr:C[k]?=some r)(hC:Cls C)(hF:Fit C)(h:r.2=9223372036854775807):IsC (iV f r.1 G) (fun c=>(-9223372036854775808<=c/\c<=9223372036854775807)/\¬ In C c):=by
 obtain⟨g1,g2,g3,g4,g5⟩:=I.gap hr hC hF
 refine⟨g1,g2,fun c=>(g4 c).trans ⟨fun⟨a,b,d⟩=>⟨⟨a,by omega⟩,fun⟨x,hx,p1,p2⟩=>?_⟩,fun⟨⟨a,b⟩,d⟩=>⟨a,by omega,fun⟨x,hx,q⟩=>d ⟨x,List.mem_of_mem_take hx,q⟩⟩⟩⟩
 obtain⟨j,hj⟩:=List.getElem?_of_mem hx
 by_cases hjk:j < k+1
 ·exact d ⟨x,List.mem_of_getElem? (by rw [List.getElem?_take_of_lt hjk];exact hj),p1,p2⟩
 ·obtain⟨hk,rfl⟩:=List.getElem?_eq_some_iff.1 hr
  obtain⟨hk',rfl⟩:=List.getElem?_eq_some_iff.1 hj
  have:=List.pairwise_iff_getElem.1 hC.apart k j hk hk' (by omega)
  omega
theorem RestI.all{C:List (Int × Int)}{f:Int}{G:List (Int × Int)}(I:RestI C C.length f G):IsC (G ++ [(f,9223372036854775807)]) (fun c=>(-9223372036854775808<=c/\c<=9223372036854775807)/\¬ In C c):=by
 have hlo:=I.lo
 have hhi:=I.hi
 have hnot:∀ c,f<=c->¬ In C c:=fun c hc ⟨x,hx,_,q⟩=>by have:=I.below x (by rw [List.take_length];exact hx);omega
 refine⟨fM I.cls (by simp only;omega) I.apart,bZ I.fit (fJ (by omega)),fun c=>?_⟩
 rw [bO,cP,I.mem,List.take_length]
 simp only
 constructor
 ·rintro (⟨a,b,d⟩ | ⟨a,b⟩)
  ·exact⟨⟨a,by omega⟩,d⟩
  ·exact⟨⟨by omega,b⟩,hnot c a⟩
 ·rintro ⟨⟨a,b⟩,d⟩
  by_cases hc:c < f
  ·exact .inl ⟨a,hc,d⟩
  ·exact .inr ⟨by omega,b⟩
theorem yS{f lo:Int}{G:List (Int × Int)}(h:f < lo):iV f lo G=G ++ [(f,lo - 1)]:=if_pos h
theorem yT{f lo:Int}{G:List (Int × Int)}(h:¬ f < lo):iV f lo G=G:=if_neg h
end Go.Proofs.YticfnglebbakkaaGreatDoor
