/-
  Parts of the proof.
-/
import Derived.Test.YtlaimbkenbijeaaGreatDoorTextsProofA0
import Derived.Test.YtlaimbkenbijeaaGreatDoorTextsProofB10
import Derived.Test.YtlaimbkenbijeaaGreatDoorTextsProofB11
set_option maxRecDepth 100000
set_option maxHeartbeats 8000000
namespace Go.Proofs.YtlaimbkenbijeaaGreatDoor
open Go Go.RowKit
section
open Go Go.RowKit Go.Shelf
theorem aO4(n:Nat)(h:n<=8796093022208)(w:World) :
  (Instr.makeSlice 44 (.int .i64 (n:Int)) (.int .i64 (n:Int))).run Tryz.prog w=.ok (.slice (some ⟨w.heap.size,0,none⟩) n n) (w.alloc (.cells (iH (List.replicate n 0)).toArray 3)):=by
 obtain⟨i0,hi,hz0,hz1,hz2⟩:=bH yI
 have:=run_make (P:=Tryz.prog) w 44 3 i0 (.int .i64 0) yD hi hz0 .i64 .i64 (n:Int) (n:Int) (by omega) (by omega) (by rw [hz2];omega) (by omega)
 rw [hz1] at this
 have e:madeCells #[.int .i64 0] n=(iH (List.replicate n 0)).toArray:=by
  apply Array.ext
  ·simp [madeCells,iH]
  intro i h1 h2
  simp [madeCells,iH,Nat.mod_one]
 rw [<- e]
 simpa [Value.cells] using this
def rT(n k:Nat):List Int:=(List.range n).map fun i=>if i < k then (i:Int) else 0
theorem aM5(n:Nat):rT n 0=List.replicate n 0:=by
 unfold rT
 apply List.ext_getElem
 ·simp
 ·intro i h1 h2
  simp
theorem aS1(n k:Nat):(rT n k).set k (k:Int)=rT n (k+1):=by
 unfold rT
 apply List.ext_getElem
 ·simp
 ·intro i h1 h2
  rw [List.getElem_set]
  simp only [List.getElem_map,List.getElem_range]
  by_cases h:k=i
  ·subst h;simp
  ·rw [if_neg h]
   by_cases q:i < k
   ·rw [if_pos q,if_pos (by omega)]
   ·rw [if_neg q,if_neg (by omega)]
theorem aW5(l:List Int)(i:Nat)(x:Int):(iH l).set i (.int .i64 x)=iH (l.set i x):=by simp [iH]
theorem bD6{w:World}{v:Value}{L:List (Int × Int)}(h:ArgR w v L)(hl:L.length<=8796093022208) :
  Calls Tryz.prog 213 #[v] w fun e w'=>∃ g,e=.returned (.slice (some ⟨g,0,none⟩) L.length L.length)/\∃ I:List Nat,tJ w' g I/\I.Perm (List.range L.length)/\(I.map (oL L)).Pairwise (·<=·)/\w.heap.size<=g/\Below w.heap.size w w':=by
 obtain⟨q,cap,rfl,-,-,hcells⟩:=h.slice
 have HC:Hid (∀ (i:Nat) (r:Int × Int),L[i]?=some r->∃ g off,q=some ⟨g,off,none⟩/\g < w.heap.size/\w.cell? ⟨g,off+2 * i,none⟩=some (.int .i64 r.1)/\w.cell? ⟨g,off+2 * i+1,none⟩=some (.int .i64 r.2)):=hcells
 clear hcells h
 have m0:=aO4 L.length hl
 have hnew:∀ W:World,(W.alloc (.cells (iH (List.replicate L.length 0)).toArray 3)).heap[W.heap.size]?=some (.cells (iH (rT L.length 0)).toArray 3 (0,0)):=fun W=>by rw [aM5];exact aE W _
 have HNEW:Hid _:=hnew
 clear hnew
 generalize (iH (List.replicate L.length 0)).toArray=Z at m0 HNEW
 go_enter Tryz.func213,Tryz.ntmps213
 go_wp2
 have N1:Hid (((w.alloc (.cells #[.slice q L.length cap] 22)).alloc (.cells Z 3)).heap[w.heap.size+1]?=some (.cells (iH (rT L.length 0)).toArray 3 (0,0))):=aD (by have:=HNEW.out (w.alloc (.cells #[.slice q L.length cap] 22));simpa using this)
 have C1:Hid (((w.alloc (.cells #[.slice q L.length cap] 22)).alloc (.cells Z 3)).heap[w.heap.size]?=some (.cells #[.slice q L.length cap] 22 (0,0))):=aD (by rw [Below.heap_alloc _ _ _ (by simp)];exact aE w _)
 have B1:Hid (Below w.heap.size w ((w.alloc (.cells #[.slice q L.length cap] 22)).alloc (.cells Z 3))):=(bz9).alloc (by simp) _
 go_loopw [10] (fun i wr=>∃ k:Nat,k<=L.length/\i=.int .i64 k/\wr.heap[w.heap.size+1]?=some (.cells (iH (rT L.length k)).toArray 3 (0,0))/\wr.heap[w.heap.size]?=some (.cells #[.slice q L.length cap] 22 (0,0))/\Below w.heap.size w wr) (fun i _=>L.length - (intOf i).toNat)
 case atStart=>exact⟨0,m9 _,rfl,N1.out,C1.out,B1.out⟩
 case round=>
  obtain⟨k,hk,rfl,hrow,hbox,hb⟩:=hrel
  have ROW:Hid (wr.heap[w.heap.size+1]?=some (.cells (iH (rT L.length k)).toArray 3 (0,0))):=hrow
  have BOX:Hid (wr.heap[w.heap.size]?=some (.cells #[.slice q L.length cap] 22 (0,0))):=hbox
  have B:Hid (Below w.heap.size w wr):=hb
  by_cases hlt:k < L.length
  ·have hf:=aG hrow k
   have hcur:wr.cell? ⟨w.heap.size+1,k,none⟩=some (.int .i64 0):=aA hrow (by simp [iH,rT,hlt])
   have i0:(0:Int)<=(k:Int):=by omega
   have i1:(k:Int) < (L.length:Int):=by omega
   clear hrow hbox hb
   go_wp2
   go_roundw
   case rel=>
    refine⟨k+1,by omega,by go_num,?_,?_,?_⟩
    ·rw [aO ROW.out k,a8,aW5,aS1]
    ·rw [Below.heap_setCell _ _ _ _ (by simp)];exact BOX.out
    ·exact B.out.setCell (by simp) _
   case measure=>simp [intOf];omega
  ·obtain rfl:k=L.length:=by omega
   have i1:¬ (L.length:Int) < (L.length:Int):=by omega
   have IX:Hid (tJ wr (w.heap.size+1) (List.range L.length)):=⟨_,ROW.out,fun i x hx=>by
    obtain⟨h1,h2⟩:=i5.1 hx
    simp at h1 h2
    subst h2
    simp [iH,rT,h1]⟩
   have cb:Hid (wr.cell? ⟨w.heap.size,0,none⟩=some (.slice q L.length cap)):=aA BOX.out (i:=0) rfl
   have lb:Hid (w.heap.size < wr.heap.size):=aB BOX.out
   clear hrow hbox hb
   by_cases hne:L.length=0
   ·rw [hne]
    have S0:=fun p cap fv W=>AnyF.slices_SortFunc_none (P:=Tryz.prog) (ρ:=Tryz.sortPl_ren) { Tryz.sortPl with } p cap fv W
    have HS:Hid (∀ p cap fv W,Calls Tryz.prog 218 #[.slice p 0 cap,fv] W fun e w'=>e=.returned (.tuple #[])/\w'=W):=S0
    clear S0
    go_wp2_with (go_at_call 218;refine(HS.out _ _ _ _).mono ?_;rintro e w5 ⟨rfl,h5⟩;subst w5)
    go_ret
    exact⟨_,by rw [hne];rfl,List.range L.length,IX.out,List.Perm.refl _,by rw [hne];simp,by omega,B.out⟩
   ·obtain⟨g,off,rfl,hg,-⟩:=HC.out 0 _ (g9 (by omega))
    have HL:Hid (∀ (i:Nat) (r:Int × Int),L[i]?=some r->wr.cell? ⟨g,off+i * 2,none⟩=some (.int .i64 r.1)):=fun i r hr=>by
     obtain⟨g',off',e,hg',x1,_⟩:=HC.out i r hr
     cases e
     rw [aAJ]
     exact(B.out.cell (p:=⟨g,off+2 * i,none⟩) hg').trans x1
    have hgw:g < wr.heap.size:=by have:=B.out.size;omega
    go_wp2_with (go_at_call 218;refine(aT3 (by omega) hl cb.out HL.out (by omega) (by omega) lb.out hgw IX.out).mono ?_;rintro e w5 ⟨rfl,I,h1,h2,h3,h4⟩;have J:Hid (tJ w5 (w.heap.size+1) I/\I.Perm (List.range L.length)/\(I.map (oL L)).Pairwise (·<=·)):=⟨h1,h2,h3⟩;have B5:Hid (Below w.heap.size w w5):=bC B.out h4 lz9 (fun k hk=>by omega);clear h1 h2 h3 h4)
    go_ret
    exact⟨_,rfl,I,J.out.1,J.out.2.1,J.out.2.2,by omega,B5.out⟩
theorem mY{S:List (Int × Int)}(hs:S.Pairwise (fun a b=>a.1<=b.1))(hF:Fit S):∀ k,k<=S.length ->
  Cls ((S.take k).foldl cP [])/\Fit ((S.take k).foldl cP [])/\((S.take k).foldl cP []).length<=k/\(∀ c,In ((S.take k).foldl cP []) c ↔ In (S.take k) c)/\∀ m,(∀ r∈S.take k,r.1<=m)->∀ x∈(S.take k).foldl cP [],x.1<=m
 | 0,_=>by simp [aK5,kX]
 | k+1,h=>by
  obtain⟨h1,h2,h3,h4,h5⟩:=mY hs hF k (by omega)
  have hk:k < S.length:=by omega
  rw [eH S k hk,aBJ,List.foldl_cons,List.foldl_nil]
  have hle:∀ r∈S.take k,r.1<=(S[k]).1:=fun r hr=>by
   obtain⟨j,hj,rfl⟩:=List.mem_take_iff_getElem.1 hr
   exact List.pairwise_iff_getElem.1 hs j k (by omega) hk (by omega)
  obtain⟨a1,a2,a3⟩:=vG (r:=S[k]) h1 (fun _=>h5 _ hle)
  refine⟨a1,zL h2 (gI hF fun y hy=>by simp at hy;subst hy;simp),i8 (mG _ _) (by omega),fun c=>?_,fun m hm=>?_⟩
  ·rw [a2,h4,cH,eK]
  ·exact a3 m (fun _=>hm _ (n9.2 (.inr (aBN.2 rfl)))) (h5 m fun r hr=>hm r (n9.2 (.inl hr)))
def eF(L:List (Int × Int))(I:List Nat):List (Int × Int):=I.map fun i=>(L[i]?).getD (0,0)
theorem yS(L:List (Int × Int)):eF L (List.range L.length)=L:=by
 unfold eF
 apply List.ext_getElem
 ·simp
 ·intro i h1 h2
  simp [h2]
theorem sN{L:List (Int × Int)}{I:List Nat}(h:I.Perm (List.range L.length)):(eF L I).Perm L:=by
 have:=h.map fun i=>(L[i]?).getD (0,0)
 rwa [show (List.range L.length).map (fun i=>(L[i]?).getD (0,0))=L from yS L] at this
theorem oH{L:List (Int × Int)}{I:List Nat}(h:(I.map (oL L)).Pairwise (·<=·)):(eF L I).Pairwise (fun a b=>a.1<=b.1):=by
 unfold eF
 rw [List.pairwise_map] at h ⊢
 exact h
theorem iG(L:List (Int × Int))(I:List Nat):(eF L I).length=I.length:=by simp [eF]
theorem bE9{L:List (Int × Int)}{I:List Nat}(hp:I.Perm (List.range L.length))(hs:(I.map (oL L)).Pairwise (·<=·))(hF:Fit L):IsC ((eF L I).foldl cP []) (In L)/\((eF L I).foldl cP []).length<=L.length:=by
 have hperm:=sN hp
 have hF':Fit (eF L I):=gI hF fun x hx=>hperm.mem_iff.1 hx
 obtain⟨h1,h2,h3,h4,-⟩:=mY (oH hs) hF' (eF L I).length lz9
 rw [aAQ] at h1 h2 h3 h4
 exact⟨⟨h1,h2,fun c=>(h4 c).trans (bE4 hperm c)⟩,by rw [hperm.length_eq] at h3;exact h3⟩
theorem bM2{L:List (Int × Int)}{I:List Nat}(hp:I.Perm (List.range L.length)){k i:Nat}(h:I[k]?=some i):i < L.length:=List.mem_range.1 (hp.mem_iff.1 (i9 h))
theorem iM{w:World}{v:Value}{L:List (Int × Int)}(h:ArgR w v L)(hF:Fit L)(hl:L.length<=8796093022208) :
  Calls Tryz.prog 206 #[v] w (xG w (In L) L.length):=by
 obtain⟨q,cap,rfl,-,-,hcells⟩:=h.slice
 have HC:Hid (∀ (i:Nat) (r:Int × Int),L[i]?=some r->∃ g off,q=some ⟨g,off,none⟩/\g < w.heap.size/\w.cell? ⟨g,off+2 * i,none⟩=some (.int .i64 r.1)/\w.cell? ⟨g,off+2 * i+1,none⟩=some (.int .i64 r.2)):=hcells
 have H:Hid (ArgR w (.slice q L.length cap) L):=h
 have HF:Hid (Fit L):=hF
 clear hcells h hF
 go_enter Tryz.func206,Tryz.ntmps206
 go_wp2_with (go_at_call 213;refine(bD6 H.out hl).mono ?_;rintro e w5 ⟨g5,rfl,I,h1,h2,h3,h4,h5⟩;have J:Hid (tJ w5 g5 I/\I.Perm (List.range L.length)/\(I.map (oL L)).Pairwise (·<=·)/\w.heap.size<=g5):=⟨h1,h2,h3,h4⟩;have B5:Hid (Below w.heap.size w w5):=h5;clear h1 h2 h3 h4 h5)
 have HIL:Hid (I.length=L.length):=aD (by have:=J.out.2.1.length_eq;simpa using this)
 have SP:Hid (∀ k,k<=L.length->Fit (((eF L I).take k).foldl cP [])/\(((eF L I).take k).foldl cP []).length<=k):=fun k hk=>by
  have hperm:=sN J.out.2.1
  have:=mY (oH J.out.2.2.1) (gI HF.out fun x hx=>hperm.mem_iff.1 hx) k (by rw [iG,HIL.out];exact hk)
  exact⟨this.2.1,this.2.2.1⟩
 go_loopw [3,9] (fun cv i wr=>∃ k:Nat,k<=L.length/\i=.int .i64 k/\RR w.heap.size wr cv (((eF L I).take k).foldl cP [])/\tJ wr g5 I/\Below w.heap.size w wr) (fun _ i _=>L.length - (intOf i).toNat)
 case atStart=>exact⟨0,m9 _,rfl,RR.nil _ _,J.out.1,B5.out⟩
 case round=>
  obtain⟨k,hk,rfl,hrr,hidx,hb⟩:=hrel
  obtain⟨cur,hcur,hcv⟩:=hidx
  have RC:Hid (RR w.heap.size wr u3 (((eF L I).take k).foldl cP [])):=hrr
  have B:Hid (Below w.heap.size w wr):=hb
  have hbs:w.heap.size<=wr.heap.size:=hb.size
  clear hb hrr
  by_cases hlt:k < L.length
  ·obtain⟨x,hx⟩:∃ x,I[k]?=some x:=⟨_,g9 (by have:=HIL.out;omega)⟩
   have hxl:=bM2 J.out.2.1 hx
   obtain⟨r,hr⟩:∃ r,L[x]?=some r:=⟨_,g9 hxl⟩
   obtain⟨g,off,rfl,hg,x1,x2⟩:=HC.out x r hr
   have d1:=(B.out.cell (p:=⟨g,off+2 * x,none⟩) hg).trans x1
   have d2:=(B.out.cell (p:=⟨g,off+2 * x+1,none⟩) hg).trans x2
   rw [aAJ] at d1 d2
   have di:wr.cell? ⟨g5,k,none⟩=some (.int .i64 (x:Int)):=aA hcur (hcv k x hx)
   have CUR:Hid (wr.heap[g5]?=some (.cells cur 3 (0,0))/\∀ (i x:Nat),I[i]?=some x->cur[i]?=some (.int .i64 (x:Int))):=⟨hcur,hcv⟩
   have NX:Hid (((eF L I).take (k+1)).foldl cP []=cP (((eF L I).take k).foldl cP []) r):=aD (by
    have hpl:k < (eF L I).length:=by rw [iG];have:=HIL.out;omega
    have e:(eF L I)[k]=r:=by
     have h1:I[k]'(by rw [iG] at hpl;exact hpl)=x:=(i5.1 hx).2
     simp [eF,h1,hr]
    rw [eH _ _ hpl,aBJ,e];rfl)
   have FR:Hid (Fit [r]):=gI HF.out fun y hy=>by simp at hy;subst hy;exact i9 hr
   have i0:(0:Int)<=(k:Int):=by omega
   have i1:(k:Int) < (L.length:Int):=by omega
   have j0:(0:Int)<=(x:Int):=by omega
   have j1:(x:Int) < (L.length:Int):=by omega
   have SPk:=SP.out k hk
   have S1:Hid (Fit (((eF L I).take k).foldl cP [])):=SPk.1
   have S2:Hid ((((eF L I).take k).foldl cP []).length+1<=8796093022208):=aD (by omega)
   clear x1 x2 hx hr hcur hcv SPk
   generalize ((eF L I).take k).foldl cP []=C at RC NX S1 S2
   go_wp2_with (go_at_call 214;refine(bI2 RC.out S1.out FR.out hbs S2.out).mono ?_;rintro e w6 ⟨v6,rfl,h1,h2,h3⟩;have R6:Hid (RR w.heap.size w6 v6 (cP C r)):=h1;have F6:Hid (Fr (blk u3) wr w6):=h3;clear h1 h2 h3)
   go_roundw
   case rel=>
    refine⟨k+1,by omega,by go_num,by rw [NX.out];exact R6.out,⟨cur,?_,CUR.out.2⟩,?_⟩
    ·exact(F6.out.block g5 (aB CUR.out.1) (aP RC.out CUR.out.1 (by decide))).trans CUR.out.1
    ·exact bC B.out F6.out lz9 (fun k hk=>(aH RC.out hk).1)
   case measure=>simp [intOf];omega
  ·obtain rfl:k=L.length:=by omega
   have i1:¬ (L.length:Int) < (L.length:Int):=by omega
   have E:Hid ((eF L I).take L.length=eF L I):=aD (j9 (by rw [iG,HIL.out];exact n8 _))
   rw [E.out] at RC
   clear hcur hcv
   go_wp2
   go_ret
   obtain⟨f1,f2⟩:=bE9 J.out.2.1 J.out.2.2.1 HF.out
   exact⟨_,_,rfl,RC.out,f1,f2,B.out⟩
end
def pU:Value->Nat
 | .slice _ n _=>n
 | _=>0
end Go.Proofs.YtlaimbkenbijeaaGreatDoor
