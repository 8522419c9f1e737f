/-
  Parts of the proof.
-/
import Derived.Test.YtdgfpiekjigfnaaGreatDoorHoldsProofA0
import Derived.Test.YtdgfpiekjigfnaaGreatDoorHoldsProofB9
import Derived.Test.YtdgfpiekjigfnaaGreatDoorHoldsProofB10
set_option maxRecDepth 100000
set_option maxHeartbeats 8000000
namespace Go.Proofs.YtdgfpiekjigfnaaGreatDoor
open Go Go.RowKit
section
open Go Go.RowKit Go.Shelf
theorem aR3(n:Nat)(h:n<=8796093022208)(w:World) :
  (Instr.makeSlice 44 (.I (n:Int)) (.I (n:Int))).run Tryz.prog w=.ok (.slice (some (aDr w.heap.size 0)) n n) (w.alloc (.cells (hU (List.replicate n 0)).toArray 3)):=by
 obtain⟨i0,hi,hz0,hz1,hz2⟩:=aV jL;have:=run_make (P:=Tryz.prog) w 44 3 i0 (.I 0) jH hi hz0 .i64 .i64 (n:Int) (n:Int) (by omega) (by omega) (by rw [hz2];omega) (by omega);rw [hz1] at this;have e:madeCells #[.I 0] n=(hU (List.replicate n 0)).toArray:=by
  apply Array.ext
  ·simp [madeCells,hU]
  intro i h1 h2;simp [madeCells,hU,Nat.mod_one]
 rw [<- e];simpa [Value.cells] using this
def rX(n k:Nat):List Int:=(List.range n).map fun i=>if i<k then (i:Int) else 0
theorem aO4(n:Nat):rX n 0=List.replicate n 0:=by
 unfold rX;apply aCK
 ·simp
 ·intro i h1 h2;simp
theorem aV4(n k:Nat):(rX n k).set k (k:Int)=rX n (k+1):=by
 unfold rX;apply aCK
 ·simp
 ·intro i h1 h2;rw [List.getElem_set];simp only [List.getElem_map,List.getElem_range];by_cases h:k=i
  ·subst h;simp
  ·rw [if_neg h];by_cases q:i<k
   ·rw [if_pos q,if_pos (by omega)]
   ·rw [if_neg q,if_neg (by omega)]
theorem bB2(l:List Int)(i:Nat)(x:Int):(hU l).set i (.I x)=hU (l.set i x):=by simp [hU]
theorem bL0{w:World}{v:Value}{L:lIi}(h:ArgR w v L)(hl:L.length<=8796093022208) :
  Calls Tryz.prog 177 #[v] w fun e w'=>∃ g,e=.returned (.slice (some (aDr g 0)) L.length L.length)/\∃ I:List Nat,tV w' g I/\I.Perm (List.range L.length)/\(I.map (oP L)).Pairwise (·<=·)/\w.heap.size<=g/\wBl w w':=by
 obtain⟨q,cap,rfl,-,-,hcells⟩:=h.slice;have HC:Hid (∀ (i:Nat) (r:Int×Int),L[i]?=some r->∃ g off,q=some (aDr g off)/\g<w.heap.size/\w.cell? ⟨g,off+2*i,none⟩=some (.I r.1)/\w.cell? ⟨g,off+2*i+1,none⟩=some (.I r.2)):=hcells;clear hcells h;have m0:=aR3 L.length hl;have hnew:∀ W:World,(W.alloc (.cells (hU (List.replicate L.length 0)).toArray 3)).heap[W.heap.size]?=some (.cells (hU (rX L.length 0)).toArray 3 (0,0)):=fun W=>by rw [aO4];exact aE W _
 have HNEW:Hid _:=hnew;clear hnew;generalize (hU (List.replicate L.length 0)).toArray=Z at m0 HNEW;go_enter Tryz.func177,Tryz.ntmps177;go_wp2;have N1:Hid (((w.alloc (.cells #[.slice q L.length cap] 22)).alloc (.cells Z 3)).heap[w.heap.size+1]?=some (.cells (hU (rX L.length 0)).toArray 3 (0,0))):=aC (by have:=HNEW.o (w.alloc (.cells #[.slice q L.length cap] 22));simpa using this);have C1:Hid (((w.alloc (.cells #[.slice q L.length cap] 22)).alloc (.cells Z 3)).heap[w.heap.size]?=some (.cells #[.slice q L.length cap] 22 (0,0))):=aC (by rw [Below.heap_alloc _ _ _ (by simp)];exact aE w _);have B1:Hid (wBl w ((w.alloc (.cells #[.slice q L.length cap] 22)).alloc (.cells Z 3))):=(bz9).alloc (by simp) _;go_loopw [10] (fun i wr=>∃ k:Nat,k<=L.length/\i=.I k/\wr.heap[w.heap.size+1]?=some (.cells (hU (rX L.length k)).toArray 3 (0,0))/\wr.heap[w.heap.size]?=some (.cells #[.slice q L.length cap] 22 (0,0))/\wBl w wr) (fun i _=>L.length-(intOf i).toNat)
 case atStart=>exact⟨0,o9 _,rfl,N1.o,C1.o,B1.o⟩
 case round=>
  obtain⟨k,hk,rfl,hrow,hbox,hb⟩:=hrel;have ROW:Hid (wr.heap[w.heap.size+1]?=some (.cells (hU (rX L.length k)).toArray 3 (0,0))):=hrow;have BOX:Hid (wr.heap[w.heap.size]?=some (.cells #[.slice q L.length cap] 22 (0,0))):=hbox;have B:Hid (wBl w wr):=hb;by_cases hlt:k<L.length
  ·have hf:=aG hrow k;have hcur:wr.cell? ⟨w.heap.size+1,k,none⟩=some (.I 0):=aA hrow (by simp [hU,rX,hlt]);have i0:(0:Int)<=(k:Int):=(by omega);have i1:(k:Int)<(L.length:Int):=(by omega);clear hrow hbox hb;go_wp2;go_roundw
   case rel=>
    refine⟨k+1,by omega,by go_num,?_,?_,?_⟩
    ·rw [aN ROW.o k,f8,bB2,aV4]
    ·rw [Below.heap_setCell _ _ _ _ (by simp)];exact BOX.o
    ·exact B.o.setCell (by simp) _
   case measure=>simp [intOf];omega
  ·obtain rfl:k=L.length:=by omega
   have i1:¬ (L.length:Int)<(L.length:Int):=by omega
   have IX:Hid (tV wr (w.heap.size+1) (List.range L.length)):=⟨_,ROW.o,fun i x hx=>by
    obtain⟨h1,h2⟩:=m7.1 hx;simp at h1 h2;subst h2;simp [hU,rX,h1]⟩
   have cb:Hid (wr.cell? (aDr w.heap.size 0)=some (.slice q L.length cap)):=aA BOX.o (i:=0) rfl;have lb:Hid (w.heap.size<wr.heap.size):=aB BOX.o;clear hrow hbox hb;by_cases hne:L.length=0
   ·rw [hne];have S0:=fun p cap fv W=>AnyF.slices_SortFunc_none (P:=Tryz.prog) (ρ:=Tryz.sortPl_ren) { Tryz.sortPl with } p cap fv W;have HS:Hid (∀ p cap fv W,Calls Tryz.prog 182 #[.slice p 0 cap,fv] W fun e w'=>e=.returned (.tuple #[])/\w'=W):=S0;clear S0;go_wp2_with (go_at_call 182;refine(HS.o _ _ _ _).mono ?_;rintro e w5 ⟨rfl,h5⟩;subst w5)
    go_ret;exact⟨_,by rw [hne];rfl,List.range L.length,IX.o,List.Perm.refl _,by rw [hne];simp,by omega,B.o⟩
   ·obtain⟨g,off,rfl,hg,-⟩:=HC.o 0 _ (i9 (by omega));have HL:Hid (∀ (i:Nat) (r:Int×Int),L[i]?=some r->wr.cell? ⟨g,off+i*2,none⟩=some (.I r.1)):=fun i r hr=>by
     obtain⟨g',off',e,hg',x1,_⟩:=HC.o i r hr;cases e;rw [aAU];exact(B.o.cell (p:=⟨g,off+2*i,none⟩) hg').trans x1
    have hgw:g<wr.heap.size:=(by have:=B.o.size;omega);go_wp2_with (go_at_call 182;refine(aX2 (by omega) hl cb.o HL.o (by omega) (by omega) lb.o hgw IX.o).mono ?_;rintro e w5 ⟨rfl,I,h1,h2,h3,h4⟩;have J:Hid (tV w5 (w.heap.size+1) I/\I.Perm (List.range L.length)/\(I.map (oP L)).Pairwise (·<=·)):=⟨h1,h2,h3⟩;have B5:Hid (wBl w w5):=bB B.o h4 lz9 (fun k hk=>by omega);clear h1 h2 h3 h4)
    go_ret;exact⟨_,rfl,I,J.o.1,J.o.2.1,J.o.2.2,by omega,B5.o⟩
theorem mL{S:lIi}(hs:S.Pairwise (fun a b=>a.1<=b.1))(hF:Fit S):∀ k,k<=S.length ->
  Cls ((S.take k).foldl cE [])/\Fit ((S.take k).foldl cE [])/\((S.take k).foldl cE []).length<=k/\(∀ c,In ((S.take k).foldl cE []) c↔In (S.take k) c)/\∀ m,(∀ r∈S.take k,r.1<=m)->∀ x∈(S.take k).foldl cE [],x.1<=m
 | 0,_=>by simp [aM5,kL]
 | k+1,h=>by
  obtain⟨h1,h2,h3,h4,h5⟩:=mL hs hF k (by omega);have hk:k<S.length:=by omega
  rw [dN S k hk,aCF,List.foldl_cons,List.foldl_nil];have hle:∀ r∈S.take k,r.1<=(S[k]).1:=fun r hr=>by
   obtain⟨j,hj,rfl⟩:=List.mem_take_iff_getElem.1 hr;exact List.pairwise_iff_getElem.1 hs j k (by omega) hk (by omega)
  obtain⟨a1,a2,a3⟩:=vP (r:=S[k]) h1 (fun _=>h5 _ hle);refine⟨a1,zU h2 (fS hF fun y hy=>by simp at hy;subst hy;simp),m8 (lW _ _) (by omega),fun c=>?_,fun m hm=>?_⟩
  ·rw [a2,h4,bZ,eD]
  ·exact a3 m (fun _=>hm _ (o3.2 (.inr (t8.2 rfl)))) (h5 m fun r hr=>hm r (o3.2 (.inl hr)))
def dX(L:lIi)(I:List Nat):lIi:=I.map fun i=>(L[i]?).getD (0,0)
theorem yZ(L:lIi):dX L (List.range L.length)=L:=by
 unfold dX;apply aCK
 ·simp
 ·intro i h1 h2;simp [h2]
theorem sR{L:lIi}{I:List Nat}(h:I.Perm (List.range L.length)):(dX L I).Perm L:=by
 have:=h.map fun i=>(L[i]?).getD (0,0);rwa [show (List.range L.length).map (fun i=>(L[i]?).getD (0,0))=L from yZ L] at this
theorem oI{L:lIi}{I:List Nat}(h:(I.map (oP L)).Pairwise (·<=·)):(dX L I).Pairwise (fun a b=>a.1<=b.1):=by
 unfold dX;rw [List.pairwise_map] at h ⊢;exact h
theorem gZ(L:lIi)(I:List Nat):(dX L I).length=I.length:=by simp [dX]
theorem bM4{L:lIi}{I:List Nat}(hp:I.Perm (List.range L.length))(hs:(I.map (oP L)).Pairwise (·<=·))(hF:Fit L):IsC ((dX L I).foldl cE []) (In L)/\((dX L I).foldl cE []).length<=L.length:=by
 have hperm:=sR hp;have hF':Fit (dX L I):=fS hF fun x hx=>hperm.mem_iff.1 hx;obtain⟨h1,h2,h3,h4,-⟩:=mL (oI hs) hF' (dX L I).length lz9;rw [aBF] at h1 h2 h3 h4;exact⟨⟨h1,h2,fun c=>(h4 c).trans (bL8 hperm c)⟩,by rw [hperm.length_eq] at h3;exact h3⟩
theorem bV0{L:lIi}{I:List Nat}(hp:I.Perm (List.range L.length)){k i:Nat}(h:I[k]?=some i):i<L.length:=aCJ.1 (hp.mem_iff.1 (n7 h))
theorem iF{w:World}{v:Value}{L:lIi}(h:ArgR w v L)(hF:Fit L)(hl:L.length<=8796093022208) :
  Calls Tryz.prog 170 #[v] w (xT w (In L) L.length):=by
 obtain⟨q,cap,rfl,-,-,hcells⟩:=h.slice;have HC:Hid (∀ (i:Nat) (r:Int×Int),L[i]?=some r->∃ g off,q=some (aDr g off)/\g<w.heap.size/\w.cell? ⟨g,off+2*i,none⟩=some (.I r.1)/\w.cell? ⟨g,off+2*i+1,none⟩=some (.I r.2)):=hcells;have H:Hid (ArgR w (.slice q L.length cap) L):=h;have HF:Hid (Fit L):=hF;clear hcells h hF;go_enter Tryz.func170,Tryz.ntmps170;go_wp2_with (go_at_call 177;refine(bL0 H.o hl).mono ?_;rintro e w5 ⟨g5,rfl,I,h1,h2,h3,h4,h5⟩;have J:Hid (tV w5 g5 I/\I.Perm (List.range L.length)/\(I.map (oP L)).Pairwise (·<=·)/\w.heap.size<=g5):=⟨h1,h2,h3,h4⟩;have B5:Hid (wBl w w5):=h5;clear h1 h2 h3 h4 h5)
 have HIL:Hid (I.length=L.length):=aC (by have:=J.o.2.1.length_eq;simpa using this);have SP:Hid (∀ k,k<=L.length->Fit (((dX L I).take k).foldl cE [])/\(((dX L I).take k).foldl cE []).length<=k):=fun k hk=>by
  have hperm:=sR J.o.2.1;have:=mL (oI J.o.2.2.1) (fS HF.o fun x hx=>hperm.mem_iff.1 hx) k (by rw [gZ,HIL.o];exact hk);exact⟨this.2.1,this.2.2.1⟩
 go_loopw [3,9] (fun cv i wr=>∃ k:Nat,k<=L.length/\i=.I k/\RR w.heap.size wr cv (((dX L I).take k).foldl cE [])/\tV wr g5 I/\wBl w wr) (fun _ i _=>L.length-(intOf i).toNat)
 case atStart=>exact⟨0,o9 _,rfl,RR.nil _ _,J.o.1,B5.o⟩
 case round=>
  obtain⟨k,hk,rfl,hrr,hidx,hb⟩:=hrel;obtain⟨cur,hcur,hcv⟩:=hidx;have RC:Hid (RR w.heap.size wr u3 (((dX L I).take k).foldl cE [])):=hrr;have B:Hid (wBl w wr):=hb;have hbs:w.heap.size<=wr.heap.size:=hb.size;clear hb hrr;by_cases hlt:k<L.length
  ·obtain⟨x,hx⟩:∃ x,I[k]?=some x:=⟨_,i9 (by have:=HIL.o;omega)⟩;have hxl:=bV0 J.o.2.1 hx;obtain⟨r,hr⟩:∃ r,L[x]?=some r:=⟨_,i9 hxl⟩;obtain⟨g,off,rfl,hg,x1,x2⟩:=HC.o x r hr;have d1:=(B.o.cell (p:=⟨g,off+2*x,none⟩) hg).trans x1;have d2:=(B.o.cell (p:=⟨g,off+2*x+1,none⟩) hg).trans x2;rw [aAU] at d1 d2;have di:wr.cell? (aDr g5 k)=some (.I (x:Int)):=aA hcur (hcv k x hx);have CUR:Hid (wr.heap[g5]?=some (.cells cur 3 (0,0))/\∀ (i x:Nat),I[i]?=some x->cur[i]?=some (.I (x:Int))):=⟨hcur,hcv⟩;have NX:Hid (((dX L I).take (k+1)).foldl cE []=cE (((dX L I).take k).foldl cE []) r):=aC (by
    have hpl:k<(dX L I).length:=(by rw [gZ];have:=HIL.o;omega);have e:(dX L I)[k]=r:=by
     have h1:I[k]'(by rw [gZ] at hpl;exact hpl)=x:=(m7.1 hx).2;simp [dX,h1,hr]
    rw [dN _ _ hpl,aCF,e];rfl)
   have FR:Hid (Fit [r]):=fS HF.o fun y hy=>by simp at hy;subst hy;exact n7 hr
   have i0:(0:Int)<=(k:Int):=by omega
   have i1:(k:Int)<(L.length:Int):=by omega
   have j0:(0:Int)<=(x:Int):=by omega
   have j1:(x:Int)<(L.length:Int):=by omega
   have SPk:=SP.o k hk;have S1:Hid (Fit (((dX L I).take k).foldl cE [])):=SPk.1;have S2:Hid ((((dX L I).take k).foldl cE []).length+1<=8796093022208):=aC (by omega);clear x1 x2 hx hr hcur hcv SPk;generalize ((dX L I).take k).foldl cE []=C at RC NX S1 S2;go_wp2_with (go_at_call 178;refine(bQ0 RC.o S1.o FR.o hbs S2.o).mono ?_;rintro e w6 ⟨v6,rfl,h1,h2,h3⟩;have R6:Hid (RR w.heap.size w6 v6 (cE C r)):=h1;have F6:Hid (Fr (blk u3) wr w6):=h3;clear h1 h2 h3)
   go_roundw
   case rel=>
    refine⟨k+1,by omega,by go_num,by rw [NX.o];exact R6.o,⟨cur,?_,CUR.o.2⟩,?_⟩
    ·exact(F6.o.block g5 (aB CUR.o.1) (aO RC.o CUR.o.1 (by decide))).trans CUR.o.1
    ·exact bB B.o F6.o lz9 (fun k hk=>(aF RC.o hk).1)
   case measure=>simp [intOf];omega
  ·obtain rfl:k=L.length:=by omega
   have i1:¬ (L.length:Int)<(L.length:Int):=by omega
   have E:Hid ((dX L I).take L.length=dX L I):=aC (n8 (by rw [gZ,HIL.o];exact t9 _));rw [E.o] at RC;clear hcur hcv;go_wp2;go_ret;obtain⟨f1,f2⟩:=bM4 J.o.2.1 J.o.2.2.1 HF.o;exact⟨_,_,rfl,RC.o,f1,f2,B.o⟩
end
def qC:Value->Nat
 | .slice _ n _=>n
 | _=>0
end Go.Proofs.YtdgfpiekjigfnaaGreatDoor
