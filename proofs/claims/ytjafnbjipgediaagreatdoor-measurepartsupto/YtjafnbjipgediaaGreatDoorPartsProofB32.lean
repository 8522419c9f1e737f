/-
  Parts of the proof.
-/
import Derived.Test.YtjafnbjipgediaaGreatDoorPartsProofB31
import Derived.Laws.MakeOwn
import Derived.Test.YtjafnbjipgediaaGreatDoorPartsProofB12
import Derived.Test.YtjafnbjipgediaaGreatDoorPartsProofB16
set_option maxRecDepth 100000
set_option maxHeartbeats 8000000
namespace Go.Proofs.YtjafnbjipgediaaGreatDoor
open Go Go.RowKit
section
attribute [local go_sem] aZ
def eE(A B:List (Int × Int)):List (Int × Int):=A.flatMap fun a=>B.map (eC a)
theorem wU{A B:List (Int × Int)}{i:Nat}{a:Int × Int}(h:A[i]?=some a):eE (A.take (i+1)) B=eE (A.take i) B ++ B.map (eC a):=by
 obtain⟨hk,rfl⟩:=List.getElem?_eq_some_iff.1 h
 rw [dB A i hk]
 unfold eE
 rw [List.flatMap_append]
 simp only [List.flatMap_cons,List.flatMap_nil,List.append_nil]
theorem aG7{B:List (Int × Int)}{j:Nat}{b a:Int × Int}(h:B[j]?=some b):(B.take (j+1)).map (eC a)=(B.take j).map (eC a) ++ [eC a b]:=by
 obtain⟨hk,rfl⟩:=List.getElem?_eq_some_iff.1 h
 rw [dB B j hk,List.map_append]
 rfl
theorem aH8(A B:List (Int × Int))(c:Int):In (eE A B) c ↔ In A c/\In B c:=by
 unfold eE In eC
 constructor
 ·rintro ⟨r,hr,h1,h2⟩
  obtain⟨a,ha,hr⟩:=List.mem_flatMap.1 hr
  obtain⟨b,hb,rfl⟩:=List.mem_map.1 hr
  simp only at h1 h2
  exact⟨⟨a,ha,by omega,by omega⟩,b,hb,by omega,by omega⟩
 ·rintro ⟨⟨a,ha,h1,h2⟩,b,hb,h3,h4⟩
  exact⟨_,List.mem_flatMap.2 ⟨a,ha,List.mem_map.2 ⟨b,hb,rfl⟩⟩,by simp only;omega,by simp only;omega⟩
theorem aB4{A B:List (Int × Int)}(fa:Fit A)(fb:Fit B):Fit (eE A B):=fun r hr=>by
 obtain⟨a,ha,hr⟩:=List.mem_flatMap.1 hr
 obtain⟨b,hb,rfl⟩:=List.mem_map.1 hr
 have h1:=fa a ha
 have h2:=fb b hb
 simp only [eC]
 omega
theorem lK(A B:List (Int × Int)):(eE A B).length=A.length * B.length:=by
 induction A with
 | nil=>simp [eE]
 | cons a A ih=>simp only [eE,List.flatMap_cons,List.length_append,List.length_map,List.length_cons,Nat.succ_mul] at *;omega
theorem wS{w:World}{va vb:Value}{A0 B0:List (Int × Int)}(ha:ArgR w va A0)(hb:ArgR w vb B0)(fa:Fit A0)(fb:Fit B0)(hl1:A0.length+1<=8796093022208)(hl2:B0.length+1<=8796093022208)(hl:A0.length * B0.length+1<=8796093022208) :
  Calls Tryz.prog 118 #[va,vb] w (tC w (fun c=>In A0 c/\In B0 c) (A0.length * B0.length)):=by
 obtain⟨t0,ti,hz0,hz1,hz2⟩:=bC cL
 have H:Hid ((ArgR w va A0/\Fit A0)/\ArgR w vb B0/\Fit B0):=⟨⟨ha,fa⟩,hb,fb⟩
 clear ha hb fa fb
 go_enter Tryz.func118,Tryz.ntmps118
 go_upto_region 5 with first
  |(go_at_call 117;have hx:=X5.out;clear hx;have hih:=jG (H.out.2.1.kept X5.out.2.2.2) H.out.2.2 hl2;(with_reducible refine hih.mono ?_);clear hih;rintro e w6 ⟨v6,B,rfl,h1,h2,h3,h4⟩;obtain⟨qb,cb,rfl⟩:=h1.shape;have X6:Hid (RR w5.heap.size w6 (.slice qb B.length cb) B/\IsC B (In B0)/\B.length<=B0.length/\Below w5.heap.size w5 w6):=⟨h1,h2,h3,h4⟩;clear h1 h2 h3 h4)
  |(go_at_call 117;have hih:=jG H.out.1.1 H.out.1.2 hl1;(with_reducible refine hih.mono ?_);clear hih;rintro e w5 ⟨v5,A,rfl,h1,h2,h3,h4⟩;obtain⟨qa,ca,rfl⟩:=h1.shape;have X5:Hid (RR w.heap.size w5 (.slice qa A.length ca) A/\IsC A (In A0)/\A.length<=A0.length/\Below w.heap.size w w5):=⟨h1,h2,h3,h4⟩;clear h1 h2 h3 h4)
 rename World=>W1
 have hla:=X5.out.2.2.1
 have hlb:=X6.out.2.2.1
 have HA:Hid (∀ (i:Nat) (r:Int × Int),A[i]?=some r->∃ g off,qa=some ⟨g,off,none⟩/\g < W1.heap.size/\W1.cell? ⟨g,off+2 * i,none⟩=some (.int .i64 r.1)/\W1.cell? ⟨g,off+2 * i+1,none⟩=some (.int .i64 r.2)):=by
  obtain⟨q',cap',e,-,-,hc⟩:=(X5.out.1.kept X6.out.2.2.2).arg.slice
  cases e
  exact hc
 have HB:Hid (∀ (i:Nat) (r:Int × Int),B[i]?=some r->∃ g off,qb=some ⟨g,off,none⟩/\g < W1.heap.size/\W1.cell? ⟨g,off+2 * i,none⟩=some (.int .i64 r.1)/\W1.cell? ⟨g,off+2 * i+1,none⟩=some (.int .i64 r.2)):=by
  obtain⟨q',cap',e,-,-,hc⟩:=X6.out.1.arg.slice
  cases e
  exact hc
 have LP:Hid (∀ i,(eE (A.take i) B).length+B.length * (A.length - i)<=A0.length * B0.length\/A.length < i):=fun i=>by
  rcases Nat.lt_or_ge A.length i with h | h
  ·exact .inr h
  ·left
   rw [lK,List.length_take,Nat.min_eq_left h,Nat.mul_comm B.length,<- Nat.add_mul,Nat.add_sub_cancel' h]
   exact Nat.mul_le_mul hla hlb
 have BW:Hid (Below w.heap.size w W1):=aK X5.out.2.2.2 X6.out.2.2.2 lz9
 go_loopw [7,8] (fun ov i wr=>∃ k:Nat,k<=A.length/\i=.int .i64 k/\RR W1.heap.size wr ov (eE (A.take k) B)/\Below W1.heap.size W1 wr) (fun _ i _=>A.length - (intOf i).toNat)
 case atStart=>exact⟨0,Nat.zero_le _,rfl,RR.nil _ _,Below.refl _ _⟩
 case round=>
  obtain⟨k,hk,rfl,hrr,hb⟩:=hrel
  have RO:Hid (RR W1.heap.size wr u7 (eE (A.take k) B)):=hrr
  have BB:Hid (Below W1.heap.size W1 wr):=hb
  clear hrr hb
  by_cases hlt:k < A.length
  ·obtain⟨a,ea⟩:∃ r,A[k]?=some r:=⟨_,List.getElem?_eq_getElem hlt⟩
   obtain⟨ga,oa,rfl,hga,xa1,xa2⟩:=HA.out k _ ea
   have PN:Hid (eE (A.take (k+1)) B=eE (A.take k) B ++ B.map (eC a)):=wU ea
   rw [Nat.mul_comm] at xa1 xa2
   have XA:Hid (W1.cell? ⟨ga,oa+k * 2,none⟩=some (.int .i64 a.1)/\W1.cell? ⟨ga,oa+k * 2+1,none⟩=some (.int .i64 a.2)/\ga < W1.heap.size):=⟨xa1,xa2,hga⟩
   have LK:Hid ((eE (A.take k) B).length+B.length+1<=8796093022208):=aD (by
    rcases LP.out (k+1) with h | h
    ·have:=PN.out;rw [this,List.length_append,List.length_map] at h;omega
    ·omega)
   have i0:(0:Int)<=(k:Int):=by omega
   have i1:(k:Int) < (A.length:Int):=by omega
   clear xa1 xa2 hga ea
   rename World=>W2
   generalize eE (A.take k) B=P at *
   go_wp2
   go_loopw [7,9] (fun ov i wr=>∃ j:Nat,j<=B.length/\i=.int .i64 j/\RR W1.heap.size wr ov (P ++ (B.take j).map (eC a))/\Below W1.heap.size W1 wr) (fun _ i _=>B.length - (intOf i).toNat)
   case atStart=>exact⟨0,Nat.zero_le _,rfl,by simpa using RO.out,BB.out⟩
   case round=>
    clear RO BB
    obtain⟨j,hj,rfl,hrr,hb⟩:=hrel
    obtain⟨qo,co,e3⟩:=hrr.shape
    subst e3
    obtain⟨O,hO⟩:∃ O,P ++ (B.take j).map (eC a)=O:=⟨_,rfl⟩
    have EO:Hid (P ++ (B.take j).map (eC a)=O):=hO
    rw [hO] at hrr ⊢
    have RO:Hid (RR W1.heap.size wr (.slice qo O.length co) O):=hrr
    have BB:Hid (Below W1.heap.size W1 wr):=hb
    have hbs:=hb.size
    have hol:O.length+1<=8796093022208:=by have:=LK.out;rw [<- hO,List.length_append,List.length_map,List.length_take];omega
    clear hrr hb hO
    by_cases hjlt:j < B.length
    ·obtain⟨b,eb⟩:∃ r,B[j]?=some r:=⟨_,List.getElem?_eq_getElem hjlt⟩
     obtain⟨gb,ob,rfl,hgb,xb1,xb2⟩:=HB.out j _ eb
     have MN:Hid (P ++ (B.take (j+1)).map (eC a)=O ++ [eC a b]):=aD (by rw [aG7 eb,<- List.append_assoc,EO.out])
     rw [Nat.mul_comm] at xb1 xb2
     have c1:=(BB.out.cell (p:=⟨ga,oa+k * 2,none⟩) XA.out.2.2).trans XA.out.1
     have c2:=(BB.out.cell (p:=⟨ga,oa+k * 2+1,none⟩) XA.out.2.2).trans XA.out.2.1
     have c3:=(BB.out.cell (p:=⟨gb,ob+j * 2,none⟩) hgb).trans xb1
     have c4:=(BB.out.cell (p:=⟨gb,ob+j * 2+1,none⟩) hgb).trans xb2
     have s1:ga < wr.heap.size:=Nat.lt_of_lt_of_le XA.out.2.2 hbs
     have s2:gb < wr.heap.size:=Nat.lt_of_lt_of_le hgb hbs
     obtain⟨a1,ha1⟩:∃ x,a.1=x:=⟨_,rfl⟩
     obtain⟨a2,ha2⟩:∃ x,a.2=x:=⟨_,rfl⟩
     obtain⟨b1,hb1⟩:∃ x,b.1=x:=⟨_,rfl⟩
     obtain⟨b2,hb2⟩:∃ x,b.2=x:=⟨_,rfl⟩
     rw [ha1] at c1
     rw [ha2] at c2
     rw [hb1] at c3
     rw [hb2] at c4
     obtain⟨cr,hcr⟩:∃ cr,eC a b=cr:=⟨_,rfl⟩
     have hmx:∀ t ty w,(Builtin.max_ t ty #[.int .i64 a1,.int .i64 b1]).run Tryz.prog w=.ok (.int .i64 cr.1) w:=fun t ty w=>by rw [gW,<- hcr,<- ha1,<- hb1];rfl
     have hmn:∀ t ty w,(Builtin.min_ t ty #[.int .i64 a2,.int .i64 b2]).run Tryz.prog w=.ok (.int .i64 cr.2) w:=fun t ty w=>by rw [fT,<- hcr,<- ha2,<- hb2];rfl
     have MN2:Hid (P ++ (B.take (j+1)).map (eC a)=O ++ [(cr.1,cr.2)]):=aD (by rw [MN.out,hcr])
     have j0:(0:Int)<=(j:Int):=by omega
     have j1:(j:Int) < (B.length:Int):=by omega
     have RD:Hid (RR W1.heap.size wr.drew (.slice qo O.length co) O):=World.ownsRow.drew RO.out
     have BD:Hid (Below W1.heap.size W1 wr.drew):=BB.out.drew
     have ne1:=World.new_ne wr _ c1
     have ne3:=World.new_ne wr _ c3
     have XK:Hid (W1.cell? ⟨ga,oa+k * 2,none⟩=some (.int .i64 a1)/\W1.cell? ⟨ga,oa+k * 2+1,none⟩=some (.int .i64 a2)/\W1.cell? ⟨gb,ob+j * 2,none⟩=some (.int .i64 b1)/\W1.cell? ⟨gb,ob+j * 2+1,none⟩=some (.int .i64 b2)/\gb < W1.heap.size):=⟨by rw [<- ha1];exact XA.out.1,by rw [<- ha2];exact XA.out.2.1,by rw [<- hb1];exact xb1,by rw [<- hb2];exact xb2,hgb⟩
     clear xb1 xb2 eb hgb MN ha1 ha2 hb1 hb2 hcr
     have QC:Hid (∀ w',Below W1.heap.size W1 w'->w'.cell? ⟨ga,oa+k * 2,none⟩=some (.int .i64 a1)/\w'.cell? ⟨ga,oa+k * 2+1,none⟩=some (.int .i64 a2)/\w'.cell? ⟨gb,ob+j * 2,none⟩=some (.int .i64 b1)/\w'.cell? ⟨gb,ob+j * 2+1,none⟩=some (.int .i64 b2)):=fun w' hb=>⟨(hb.cell (p:=⟨ga,oa+k * 2,none⟩) XA.out.2.2).trans XK.out.1,(hb.cell (p:=⟨ga,oa+k * 2+1,none⟩) XA.out.2.2).trans XK.out.2.1,(hb.cell (p:=⟨gb,ob+j * 2,none⟩) XK.out.2.2.2.2).trans XK.out.2.2.1,(hb.cell (p:=⟨gb,ob+j * 2+1,none⟩) XK.out.2.2.2.2).trans XK.out.2.2.2.1⟩
     clear c1 c2 c3 c4
     go_wp2
     refine wp_region_held_drew (S:=fun w'=>Below W1.heap.size W1 w') (by kernel_rfl) BD.out (fun hHeld=>?_)
     refine wpAnyH_take (i:=0) (oi:=_) (v:=?_) rfl (by kernel_rfl) (by kernel_rfl) (by kernel_rfl) (fun _ _ _ h=>h) (Or.inl ⟨by rfl,?_⟩) (by assumption) ?_
     rotate_left
     ·intro wz hSw;obtain⟨q1,q2,q3,q4⟩:=QC.out wz hSw;clear hSw;go_simp;try with_reducible rfl
     dsimp only [Act.put,List.getElem_toArray,List.getElem_cons_zero,List.getElem_cons_succ]
     simp only [List.setIfInBounds_toArray,List.set_cons_zero,List.set_cons_succ]
     refine wpAnyH_take (i:=1) (oi:=_) (v:=?_) rfl (by kernel_rfl) (by kernel_rfl) (by kernel_rfl) (fun _ _ _ h=>h) (Or.inl ⟨by rfl,?_⟩) (by assumption) ?_
     rotate_left
     ·intro wz hSw;obtain⟨q1,q2,q3,q4⟩:=QC.out wz hSw;clear hSw;go_simp;try with_reducible rfl
     dsimp only [Act.put,List.getElem_toArray,List.getElem_cons_zero,List.getElem_cons_succ]
     simp only [List.setIfInBounds_toArray,List.set_cons_zero,List.set_cons_succ]
     refine wpAnyH_take (i:=2) (oi:=_) (v:=?_) rfl (by kernel_rfl) (by kernel_rfl) (by kernel_rfl) (fun _ _ _ h=>h) (Or.inl ⟨by rfl,?_⟩) (by assumption) ?_
     rotate_left
     ·intro wz hSw;obtain⟨q1,q2,q3,q4⟩:=QC.out wz hSw;clear hSw;go_simp;try with_reducible rfl
     dsimp only [Act.put,List.getElem_toArray,List.getElem_cons_zero,List.getElem_cons_succ]
     simp only [List.setIfInBounds_toArray,List.set_cons_zero,List.set_cons_succ]
     refine wpAnyH_take (i:=3) (oi:=_) (v:=?_) rfl (by kernel_rfl) (by kernel_rfl) (by kernel_rfl) (fun _ _ _ h=>h) (Or.inl ⟨by rfl,?_⟩) (by assumption) ?_
     rotate_left
     ·intro wz hSw;obtain⟨q1,q2,q3,q4⟩:=QC.out wz hSw;clear hSw;go_simp;try with_reducible rfl
     dsimp only [Act.put,List.getElem_toArray,List.getElem_cons_zero,List.getElem_cons_succ]
     simp only [List.setIfInBounds_toArray,List.set_cons_zero,List.set_cons_succ]
     refine wpAnyH_take (i:=4) (oi:=_) (v:=?_) rfl (by kernel_rfl) (by kernel_rfl) (by kernel_rfl) (fun _ _ _ h=>h) (Or.inl ⟨by rfl,?_⟩) (by assumption) ?_
     rotate_left
     ·intro wz hSw;obtain⟨q1,q2,q3,q4⟩:=QC.out wz hSw;clear hSw;go_simp;try with_reducible rfl
     dsimp only [Act.put,List.getElem_toArray,List.getElem_cons_zero,List.getElem_cons_succ]
     simp only [List.setIfInBounds_toArray,List.set_cons_zero,List.set_cons_succ]
     refine wpAnyH_take (i:=5) (oi:=_) (v:=?_) rfl (by kernel_rfl) (by kernel_rfl) (by kernel_rfl) (fun _ _ _ h=>h) (Or.inl ⟨by rfl,?_⟩) (by assumption) ?_
     rotate_left
     ·intro wz hSw;obtain⟨q1,q2,q3,q4⟩:=QC.out wz hSw;clear hSw;go_simp;try with_reducible rfl
     dsimp only [Act.put,List.getElem_toArray,List.getElem_cons_zero,List.getElem_cons_succ]
     simp only [List.setIfInBounds_toArray,List.set_cons_zero,List.set_cons_succ]
     refine wpAnyH_take (i:=6) (oi:=_) (v:=?_) rfl (by kernel_rfl) (by kernel_rfl) (by kernel_rfl) (fun _ _ _ h=>h) (Or.inl ⟨by rfl,?_⟩) (by assumption) ?_
     rotate_left
     ·intro wz hSw;obtain⟨q1,q2,q3,q4⟩:=QC.out wz hSw;clear hSw;go_simp;try with_reducible rfl
     dsimp only [Act.put,List.getElem_toArray,List.getElem_cons_zero,List.getElem_cons_succ]
     simp only [List.setIfInBounds_toArray,List.set_cons_zero,List.set_cons_succ]
     refine wpAnyH_take (i:=7) (oi:=_) (v:=?_) rfl (by kernel_rfl) (by kernel_rfl) (by kernel_rfl) (fun _ _ _ h=>h) (Or.inl ⟨by rfl,?_⟩) (by assumption) ?_
     rotate_left
     ·intro wz hSw;obtain⟨q1,q2,q3,q4⟩:=QC.out wz hSw;clear hSw;go_simp;try with_reducible rfl
     dsimp only [Act.put,List.getElem_toArray,List.getElem_cons_zero,List.getElem_cons_succ]
     simp only [List.setIfInBounds_toArray,List.set_cons_zero,List.set_cons_succ]
     refine wpAnyH_take (i:=8) (oi:=_) (v:=?_) rfl (by kernel_rfl) (by kernel_rfl) (by kernel_rfl) (fun _ _ _ h=>h) (Or.inl ⟨by rfl,?_⟩) (by assumption) ?_
     rotate_left
     ·intro wz hSw;obtain⟨q1,q2,q3,q4⟩:=QC.out wz hSw;clear hSw;go_simp;try with_reducible rfl
     dsimp only [Act.put,List.getElem_toArray,List.getElem_cons_zero,List.getElem_cons_succ]
     simp only [List.setIfInBounds_toArray,List.set_cons_zero,List.set_cons_succ]
     refine wpAnyH_take (i:=9) (oi:=_) (v:=?_) rfl (by kernel_rfl) (by kernel_rfl) (by kernel_rfl) (fun _ _ _ h=>h) (Or.inl ⟨by rfl,?_⟩) (by assumption) ?_
     rotate_left
     ·intro wz hSw;obtain⟨q1,q2,q3,q4⟩:=QC.out wz hSw;clear hSw;go_simp;try with_reducible rfl
     dsimp only [Act.put,List.getElem_toArray,List.getElem_cons_zero,List.getElem_cons_succ]
     simp only [List.setIfInBounds_toArray,List.set_cons_zero,List.set_cons_succ]
     refine wpAnyH_take (i:=10) (oi:=_) (v:=?_) rfl (by kernel_rfl) (by kernel_rfl) (by kernel_rfl) (fun _ _ _ h=>h) (Or.inl ⟨by rfl,?_⟩) (by assumption) ?_
     rotate_left
     ·intro wz hSw;obtain⟨q1,q2,q3,q4⟩:=QC.out wz hSw;clear hSw;go_simp;try with_reducible rfl
     dsimp only [Act.put,List.getElem_toArray,List.getElem_cons_zero,List.getElem_cons_succ]
     simp only [List.setIfInBounds_toArray,List.set_cons_zero,List.set_cons_succ]
     refine wpAnyH_take (i:=11) (oi:=_) (v:=?_) rfl (by kernel_rfl) (by kernel_rfl) (by kernel_rfl) (fun _ _ _ h=>h) (Or.inl ⟨by rfl,?_⟩) (by assumption) ?_
     rotate_left
     ·intro wz hSw;obtain⟨q1,q2,q3,q4⟩:=QC.out wz hSw;clear hSw;go_simp;try with_reducible rfl
     dsimp only [Act.put,List.getElem_toArray,List.getElem_cons_zero,List.getElem_cons_succ]
     simp only [List.setIfInBounds_toArray,List.set_cons_zero,List.set_cons_succ]
     refine wpAnyH_take (i:=12) (oi:=_) (v:=?_) rfl (by kernel_rfl) (by kernel_rfl) (by kernel_rfl) (fun _ _ _ h=>h) (Or.inl ⟨by rfl,?_⟩) (by assumption) ?_
     rotate_left
     ·intro wz hSw;obtain⟨q1,q2,q3,q4⟩:=QC.out wz hSw;clear hSw;go_simp;try with_reducible rfl
     dsimp only [Act.put,List.getElem_toArray,List.getElem_cons_zero,List.getElem_cons_succ]
     simp only [List.setIfInBounds_toArray,List.set_cons_zero,List.set_cons_succ]
     refine wpAnyH_take (i:=13) (oi:=_) (v:=?_) rfl (by kernel_rfl) (by kernel_rfl) (by kernel_rfl) (fun _ _ _ h=>h) (Or.inl ⟨by rfl,?_⟩) (by assumption) ?_
     rotate_left
     ·intro wz hSw;obtain⟨q1,q2,q3,q4⟩:=QC.out wz hSw;clear hSw;go_simp;try with_reducible rfl
     dsimp only [Act.put,List.getElem_toArray,List.getElem_cons_zero,List.getElem_cons_succ]
     simp only [List.setIfInBounds_toArray,List.set_cons_zero,List.set_cons_succ]
     refine wpAnyH_take (i:=14) (oi:=_) (v:=?_) rfl (by kernel_rfl) (by kernel_rfl) (by kernel_rfl) (fun _ _ _ h=>h) (Or.inl ⟨by rfl,?_⟩) (by assumption) ?_
     rotate_left
     ·intro wz hSw;obtain⟨q1,q2,q3,q4⟩:=QC.out wz hSw;clear hSw;go_simp;try with_reducible rfl
     dsimp only [Act.put,List.getElem_toArray,List.getElem_cons_zero,List.getElem_cons_succ]
     simp only [List.setIfInBounds_toArray,List.set_cons_zero,List.set_cons_succ]
     refine wpAnyH_take (i:=15) (oi:=_) (v:=?_) rfl (by kernel_rfl) (by kernel_rfl) (by kernel_rfl) (fun _ _ _ h=>h) (Or.inl ⟨by rfl,?_⟩) (by assumption) ?_
     rotate_left
     ·intro wz hSw;obtain⟨q1,q2,q3,q4⟩:=QC.out wz hSw;clear hSw;go_simp;try with_reducible rfl
     dsimp only [Act.put,List.getElem_toArray,List.getElem_cons_zero,List.getElem_cons_succ]
     simp only [List.setIfInBounds_toArray,List.set_cons_zero,List.set_cons_succ]
     refine wpAnyH_take (i:=16) (oi:=_) (v:=?_) rfl (by kernel_rfl) (by kernel_rfl) (by kernel_rfl) (fun _ _ _ h=>h) (Or.inl ⟨by rfl,?_⟩) (by assumption) ?_
     rotate_left
     ·intro wz hSw;obtain⟨q1,q2,q3,q4⟩:=QC.out wz hSw;clear hSw;go_simp;try with_reducible rfl
     dsimp only [Act.put,List.getElem_toArray,List.getElem_cons_zero,List.getElem_cons_succ]
     simp only [List.setIfInBounds_toArray,List.set_cons_zero,List.set_cons_succ]
     refine wpAnyH_take (i:=17) (oi:=_) (v:=?_) rfl (by kernel_rfl) (by kernel_rfl) (by kernel_rfl) (fun _ _ _ h=>h) (Or.inl ⟨by rfl,?_⟩) (by assumption) ?_
     rotate_left
     ·intro wz hSw;obtain⟨q1,q2,q3,q4⟩:=QC.out wz hSw;clear hSw;go_simp;try with_reducible rfl
     dsimp only [Act.put,List.getElem_toArray,List.getElem_cons_zero,List.getElem_cons_succ]
     simp only [List.setIfInBounds_toArray,List.set_cons_zero,List.set_cons_succ]
     refine wpAnyH_take (i:=18) (oi:=_) (v:=?_) rfl (by kernel_rfl) (by kernel_rfl) (by kernel_rfl) (fun _ _ _ h=>h) (Or.inl ⟨by rfl,?_⟩) (by assumption) ?_
     rotate_left
     ·intro wz hSw;obtain⟨q1,q2,q3,q4⟩:=QC.out wz hSw;clear hSw;go_simp;try with_reducible rfl
     dsimp only [Act.put,List.getElem_toArray,List.getElem_cons_zero,List.getElem_cons_succ]
     simp only [List.setIfInBounds_toArray,List.set_cons_zero,List.set_cons_succ]
     refine wpAnyH_take (i:=19) (oi:=_) (v:=?_) rfl (by kernel_rfl) (by kernel_rfl) (by kernel_rfl) (fun _ _ _ h=>h) (Or.inl ⟨by rfl,?_⟩) (by assumption) ?_
     rotate_left
     ·intro wz hSw;obtain⟨q1,q2,q3,q4⟩:=QC.out wz hSw;clear hSw;go_simp;try with_reducible rfl
     dsimp only [Act.put,List.getElem_toArray,List.getElem_cons_zero,List.getElem_cons_succ]
     simp only [List.setIfInBounds_toArray,List.set_cons_zero,List.set_cons_succ]
     refine wpAnyH_take (i:=20) (oi:=_) (v:=?_) rfl (by kernel_rfl) (by kernel_rfl) (by kernel_rfl) (fun _ _ _ h=>h) (Or.inl ⟨by rfl,?_⟩) (by assumption) ?_
     rotate_left
     ·intro wz hSw;obtain⟨q1,q2,q3,q4⟩:=QC.out wz hSw;clear hSw;go_simp;try with_reducible rfl
     dsimp only [Act.put,List.getElem_toArray,List.getElem_cons_zero,List.getElem_cons_succ]
     simp only [List.setIfInBounds_toArray,List.set_cons_zero,List.set_cons_succ]
     refine wpAnyH_take (i:=21) (oi:=_) (v:=?_) rfl (by kernel_rfl) (by kernel_rfl) (by kernel_rfl) (fun _ _ _ h=>h) (Or.inl ⟨by rfl,?_⟩) (by assumption) ?_
     rotate_left
     ·intro wz hSw;obtain⟨q1,q2,q3,q4⟩:=QC.out wz hSw;clear hSw;go_simp;try with_reducible rfl
     dsimp only [Act.put,List.getElem_toArray,List.getElem_cons_zero,List.getElem_cons_succ]
     simp only [List.setIfInBounds_toArray,List.set_cons_zero,List.set_cons_succ]
     refine wpAnyH_take (i:=22) (oi:=_) (v:=?_) rfl (by kernel_rfl) (by kernel_rfl) (by kernel_rfl) (fun _ _ _ h=>h) (Or.inl ⟨by rfl,?_⟩) (by assumption) ?_
     rotate_left
     ·intro wz hSw;obtain⟨q1,q2,q3,q4⟩:=QC.out wz hSw;clear hSw;go_simp;try with_reducible rfl
     dsimp only [Act.put,List.getElem_toArray,List.getElem_cons_zero,List.getElem_cons_succ]
     simp only [List.setIfInBounds_toArray,List.set_cons_zero,List.set_cons_succ]
     refine wpAnyH_take (i:=23) (oi:=_) (v:=?_) rfl (by kernel_rfl) (by kernel_rfl) (by kernel_rfl) (fun _ _ _ h=>h) (Or.inl ⟨by rfl,?_⟩) (by assumption) ?_
     rotate_left
     ·intro wz hSw;obtain⟨q1,q2,q3,q4⟩:=QC.out wz hSw;clear hSw;go_simp;try with_reducible rfl
     dsimp only [Act.put,List.getElem_toArray,List.getElem_cons_zero,List.getElem_cons_succ]
     simp only [List.setIfInBounds_toArray,List.set_cons_zero,List.set_cons_succ]
     refine wpAnyH_ready (rs:=[24]) (by kernel_rfl) (by simp) ?_
     refine AllReadyH.cons rfl (fun K hK=>?_) AllReadyH.nil
     go_simp
     refine hK.out _ _ (BD.out.alloc (by simp;omega) _) (fun hHeld2=>?_)
     clear hK K
     refine wpAnyH_ready (rs:=[25]) (by kernel_rfl) (by simp) ?_
     refine AllReadyH.cons rfl (fun K hK=>?_) AllReadyH.nil
     refine aV rfl _ _ 22 rfl W1.heap.size 110 t0 (.agg #[.int .i64 0,.int .i64 0]) 2 16 bF ti hz0 hz1 hz2 rfl (by decide) (.slice qo O.length co) O.length (aQ O) (by simp [Act.eval]) (World.ownsRow.alloc RD.out (.cells #[.int .i64 cr.1,.int .i64 cr.2] 110)) ⟨wr.heap.size,0,none⟩ 1 1 [.int .i64 cr.1,.int .i64 cr.2] (by simp [Act.eval]) rfl (jC _ _ _ _) (by simp [Value.oneCell']) (by unfold maxLen;omega) (by omega) (by simp;omega) ?_
     intro v' w6 hown' hgrow hblk
     obtain⟨g6,cap6,rfl⟩:=aJ hown' (Nat.succ_pos _)
     have A6:Hid (RR W1.heap.size w6 (.slice (some ⟨g6,0,none⟩) (O.length+1) cap6) (O ++ [(cr.1,cr.2)])):=mR hown'
     have B6:Hid (Below W1.heap.size W1 w6):=cJ (BD.out.alloc (by simp;omega) _) (World.ownsRow.alloc RD.out _) hgrow
     clear hown' hgrow hblk
     refine hK.out _ _ B6.out (fun hHeld3=>?_)
     clear hK K
     refine wpAnyH_ready (rs:=[26]) (by kernel_rfl) (by simp) ?_
     refine AllReadyH.cons rfl (fun K hK=>?_) AllReadyH.nil
     go_simp
     refine hK.out _ _ B6.out (fun hHeld4=>?_)
     clear hK K
     refine wpAnyH_done (by kernel_rfl) ?_ _
     all_goals (
      go_wp2
      go_roundw
      case rel=>exact⟨j+1,by omega,by go_num,jZ MN2.out.symm A6.out,B6.out⟩
      case measure=>simp [intOf];omega)
    ·have j1:¬ (j:Int) < (B.length:Int):=by omega
     have EE:Hid (eE (A.take (k+1)) B=O):=aD (by rw [PN.out,<- EO.out,List.take_of_length_le (by omega)])
     go_wp2
     go_roundw
     case rel=>exact⟨k+1,by omega,by go_num,jZ EE.out.symm RO.out,BB.out⟩
     case measure=>simp [intOf];omega
  ·have i1:¬ (k:Int) < (A.length:Int):=by omega
   have E:Hid (A.take k=A):=aD (List.take_of_length_le (by omega))
   rw [E.out] at RO
   have LN:Hid ((eE A B).length<=A0.length * B0.length):=aD (by rw [lK];exact Nat.mul_le_mul hla hlb)
   go_wp2_with (go_at_call 117;refine(jG RO.out.arg (aB4 X5.out.2.1.fit X6.out.2.1.fit) (by have:=LN.out;omega)).mono ?_;rintro e w7 ⟨v7,C,rfl,h1,h2,h3,h4⟩;have X7:Hid (RR wr.heap.size w7 v7 C/\IsC C (In (eE A B))/\C.length<=(eE A B).length/\Below wr.heap.size wr w7):=⟨h1,h2,h3,h4⟩;clear h1 h2 h3 h4)
   go_ret
   have BZ:=aK BW.out BB.out lz9
   refine⟨_,_,rfl,X7.out.1.mono BZ.size,X7.out.2.1.to fun c=>?_,Nat.le_trans X7.out.2.2.1 LN.out,aK BZ X7.out.2.2.2 lz9⟩
   rw [aH8,X5.out.2.1.mem,X6.out.2.1.mem]
end
theorem mH(W:World)(o:Obj):Below W.heap.size W (W.alloc o):=bz9
theorem aT0(m:Bool)(w:World):Calls Tryz.prog 142 #[.bool m] w fun e w'=>∃ v,e=.returned v/\RR w.heap.size w' v (cS m)/\Below w.heap.size w w':=by
 cases m with
 | true=>
  go_enter Tryz.func142,Tryz.ntmps142
  go_wp2
  go_ret
  exact⟨_,rfl,World.ownsRow_lit w #[.int .i64 0,.int .i64 55295,.int .i64 57344,.int .i64 1114111] 2 lz9 (by unfold maxLen;omega) rfl,bz9⟩
 | false=>
  go_enter Tryz.func142,Tryz.ntmps142
  go_wp2
  go_ret
  exact⟨_,rfl,World.ownsRow_lit w #[.int .i64 0,.int .i64 255] 1 lz9 (by unfold maxLen;omega) rfl,bz9⟩
theorem aM4{w:World}{v:Value}{L:List (Int × Int)}{m:Bool}(h:ArgR w v L)(hF:Fit L)(hl:L.length<=1048580) :
  Calls Tryz.prog 116 #[v,.bool m] w (tC w (fun c=>In L c/\bO m c) (L.length * (cS m).length)):=by
 have H:Hid (ArgR w v L/\Fit L):=⟨h,hF⟩
 have hc:=hQ m
 have HM:Hid (L.length * (cS m).length+1<=8796093022208):=aD (by have:=Nat.mul_le_mul hl hc;omega)
 clear h hF
 go_enter Tryz.func116,Tryz.ntmps116
 go_wp2_with first
  |(go_at_call 142;refine(aT0 m _).mono ?_;rintro e w5 ⟨v5,rfl,h1,h2⟩;have X5:Hid (RR w.heap.size w5 v5 (cS m)/\Below w.heap.size w w5):=⟨h1,h2⟩;clear h1 h2)
  |(go_at_call 118;refine(wS (H.out.1.kept X5.out.2) X5.out.1.arg H.out.2 (iJ m).fit (by omega) (by omega) HM.out).mono ?_;rintro e w6 ⟨v6,C6,rfl,h1,h2,h3,h4⟩;have X6:Hid (RR w5.heap.size w6 v6 C6/\IsC C6 (fun c=>In L c/\In (cS m) c)/\C6.length<=L.length * (cS m).length/\Below w5.heap.size w5 w6):=⟨h1,h2,h3,h4⟩;clear h1 h2 h3 h4)
 go_ret
 exact⟨_,_,rfl,X6.out.1.mono X5.out.2.size,X6.out.2.1.to fun c=>by rw [(iJ m).mem],X6.out.2.2.1,aK X5.out.2 X6.out.2.2.2 lz9⟩
theorem aF4{w:World}{v:Value}{L:List (Int × Int)}{m:Bool}(h:ArgR w v L)(hF:Fit L)(hl:L.length<=1048580) :
  Calls Tryz.prog 69 #[v,.bool m] w fun e w'=>∃ b:Bool,e=.returned (.bool b)/\(b=true ↔ IsC L (fun c=>In L c/\bO m c))/\Below w.heap.size w w':=by
 have H:Hid (ArgR w v L/\Fit L):=⟨h,hF⟩
 clear h hF
 go_enter Tryz.func69,Tryz.ntmps69
 go_wp2_with first
  |(go_at_call 116;refine(aM4 H.out.1 H.out.2 hl).mono ?_;rintro e w5 ⟨v5,C5,rfl,h1,h2,h3,h4⟩;have X5:Hid (RR w.heap.size w5 v5 C5/\IsC C5 (fun c=>In L c/\bO m c)/\Below w.heap.size w w5):=⟨h1,h2,h4⟩;clear h1 h2 h3 h4)
  |(go_at_call 71;refine(yX (H.out.1.kept X5.out.2.2) X5.out.1.arg).mono ?_;obtain⟨bb,hbb⟩:∃ bb,decide (L=C5)=bb:=⟨_,rfl⟩;rw [hbb];have EB:Hid (decide (L=C5)=bb):=hbb;clear hbb;rintro e w7 ⟨rfl,h1⟩;have X7:Hid (Below w5.heap.size w5 w7):=h1;clear h1)
 go_ret
 refine⟨bb,rfl,?_,aK X5.out.2.2 X7.out lz9⟩
 rw [<- EB.out,decide_eq_true_iff]
 constructor
 ·intro e
  have h2:=X5.out.2.1
  rw [<- e] at h2
  exact h2
 ·intro e
  exact e.one X5.out.2.1 fun _=>Iff.rfl
def shL(G:List (Int × Int))(j:Nat)(d:Int):List (Int × Int):=(G.take j).map fun r=>(r.1+d,r.2+d)
theorem tX{G:List (Int × Int)}{j:Nat}{r:Int × Int}(h:G[j]?=some r)(d:Int):shL G (j+1) d=shL G j d ++ [(r.1+d,r.2+d)]:=by
 obtain⟨hk,rfl⟩:=List.getElem?_eq_some_iff.1 h
 unfold shL
 rw [dB G j hk,List.map_append]
 rfl
theorem yG(W:World)(a b:Int):ArgR (W.alloc (.cells #[.int .i64 a,.int .i64 b] 110)) (.slice (some ⟨W.heap.size,0,none⟩) 1 1) [(a,b)]:=
 RR.arg (base:=W.heap.size) (World.ownsRow_lit W #[.int .i64 a,.int .i64 b] 1 lz9 (by unfold maxLen;omega) rfl)
theorem aQ2{C L:List (Int × Int)}{a b:Int}(h:IsC C (fun c=>In L c/\In [(a,b)] c)):∀ (i:Nat) (r:Int × Int),C[i]?=some r->(a<=r.1/\r.1<=b)/\(a<=r.2/\r.2<=b):=fun i r hr=>by
 have hm:=List.mem_of_getElem? hr
 have hs:=h.cls.some r hm
 have p:=((h.mem r.1).1 ⟨r,hm,Int.le_refl _,hs⟩).2
 have q:=((h.mem r.2).1 ⟨r,hm,hs,Int.le_refl _⟩).2
 rw [dE] at p q
 exact⟨p,q⟩
def aA2(w w4:World)(k:Nat):Prop:=w.heap.size<=k/\k < w4.heap.size
theorem kF{w w':World}{k:Nat}(h:w'.heap[k]?=w.heap[k]?)(o:Nat):w'.cell? ⟨k,o,none⟩=w.cell? ⟨k,o,none⟩:=by unfold World.cell?;simp only [h]
structure FW(w w4 W1 wr:World)(ov:Value)(O:List (Int × Int)):Prop where
 own:RR w.heap.size wr ov O
 fr:Fr (aA2 w w4) W1 wr
 at':∀ g,ov.ownBlock=some g->aA2 w w4 g\/W1.heap.size<=g
theorem FW.drew{w w4 W1 wr:World}{ov:Value}{O:List (Int × Int)}(h:FW w w4 W1 wr ov O):FW w w4 W1 wr.drew ov O:=⟨World.ownsRow.drew h.own,h.fr.drew,h.at'⟩
theorem FW.app{w w4 W1 wr w6:World}{q:Option Addr}{co:Nat}{L:List (Int × Int)}{o:Obj}{g6 cap6:Nat}{a b:Int}(h:FW w w4 W1 wr (.slice q L.length co) L)(hg:(wr.alloc o).grownBy w6 (Value.slice q L.length co).ownBlock)
  (ho:w6.ownsRow w.heap.size 110 2 (.slice (some ⟨g6,0,none⟩) (L.length+1) cap6) (L.length+1) (aQ L ++ [.int .i64 a,.int .i64 b]))
  (hb:(Value.slice (some ⟨g6,0,none⟩) (L.length+1) cap6).ownBlock=(Value.slice q L.length co).ownBlock\/(Value.slice (some ⟨g6,0,none⟩) (L.length+1) cap6).ownBlock=some (wr.alloc o).heap.size):FW w w4 W1 w6 (.slice (some ⟨g6,0,none⟩) (L.length+1) cap6) (L ++ [(a,b)]):=by
 refine⟨mR ho,?_,fun g e=>?_⟩
 ·refine⟨hg.os.trans h.fr.os,hg.tape.trans h.fr.tape,hg.output.trans h.fr.output,Nat.le_trans h.fr.size (Nat.le_trans (by simp) hg.size),fun k hk hs=>?_⟩
  have hkr:k < wr.heap.size:=Nat.lt_of_lt_of_le hk h.fr.size
  refine(hg.block k (by simp;omega) (fun e=>?_)).trans ((Below.heap_alloc _ _ _ hkr).trans (h.fr.block k hk hs))
  rcases h.at' k e.symm with q | q
  ·exact hs q
  ·omega
 ·rcases hb with hb | hb
  ·rw [hb] at e;exact h.at' g e
  ·rw [hb] at e
   cases e
   exact .inr (Nat.le_trans h.fr.size (by simp))
theorem rF{W:World}{q:Option Addr}{n k:Nat}{L:List (Int × Int)}(h:ArgR W (.slice q n k) L){lo:Nat}(hlo:∀ g,(Value.slice q n k).ownBlock=some g->lo<=g):∀ (i:Nat) (r:Int × Int),L[i]?=some r->∃ g off,q=some ⟨g,off,none⟩/\lo<=g/\g < W.heap.size/\W.cell? ⟨g,off+i * 2,none⟩=some (.int .i64 r.1)/\W.cell? ⟨g,off+i * 2+1,none⟩=some (.int .i64 r.2):=fun i r hi=>by
 obtain⟨q',c',e,-,-,hc⟩:=h.slice
 cases e
 obtain⟨g,off,rfl,h1,h2,h3⟩:=hc i r hi
 rw [Nat.mul_comm] at h2 h3
 exact⟨g,off,rfl,hlo g rfl,h1,h2,h3⟩
theorem aM6{w:World}{v:Value}{L:List (Int × Int)}(h:ArgR w v L)(hF:Fit L)(hl:L.length<=1048580) :
  Calls Tryz.prog 70 #[v] w (tC w (lX L) (3 * L.length)):=by
 obtain⟨t0,ti,hz0,hz1,hz2⟩:=bC cL
 have H:Hid (ArgR w v L/\Fit L):=⟨h,hF⟩
 clear h hF
 go_enter Tryz.func70,Tryz.ntmps70
 go_upto_region 5 with first
  |(go_at_call 117;refine(jG H.out.1 H.out.2 (by omega)).mono ?_;rintro e w4 ⟨v4,C,rfl,h1,h2,h3,h4⟩;obtain⟨qc,cc,rfl⟩:=h1.shape;have X4:Hid (RR w.heap.size w4 (.slice qc C.length cc) C/\IsC C (In L)/\C.length<=L.length/\Below w.heap.size w w4):=⟨h1,h2,h3,h4⟩;clear h1 h2 h3 h4)
  |(go_at_call 118;have hx:=X5.out;clear hx;have hih:=wS (((H.out.1.kept X4.out.2.2.2).kept X5.out.2.2.2).kept (mH w5 (.cells #[.int .i64 97,.int .i64 122] 110))) (yG w5 97 122) H.out.2 (lY (by omega)) (by omega) (by simp) (by simp;omega);(with_reducible refine hih.mono ?_);clear hih;rintro e w6 ⟨v6,S,rfl,h1,h2,h3,h4⟩;obtain⟨qs,cs,rfl⟩:=h1.shape;have X6:Hid (RR w5.heap.size w6 (.slice qs S.length cs) S/\IsC S (fun c=>In L c/\In [(97,122)] c)/\S.length<=L.length/\Below w5.heap.size w5 w6):=⟨h1.mono (by simp),h2,(by simpa using h3),(mH w5 _).trans (h4.mono (by simp))⟩;clear h1 h2 h3 h4)
  |(go_at_call 118;have hih:=wS ((H.out.1.kept X4.out.2.2.2).kept (mH w4 (.cells #[.int .i64 65,.int .i64 90] 110))) (yG w4 65 90) H.out.2 (lY (by omega)) (by omega) (by simp) (by simp;omega);(with_reducible refine hih.mono ?_);clear hih;rintro e w5 ⟨v5,G,rfl,h1,h2,h3,h4⟩;obtain⟨qg,cg,rfl⟩:=h1.shape;have X5:Hid (RR w4.heap.size w5 (.slice qg G.length cg) G/\IsC G (fun c=>In L c/\In [(65,90)] c)/\G.length<=L.length/\Below w4.heap.size w4 w5):=⟨h1.mono (by simp),h2,(by simpa using h3),(mH w4 _).trans (h4.mono (by simp))⟩;clear h1 h2 h3 h4)
 rename World=>W1
 have BTW:Hid (Below w.heap.size w W1):=aK (aK X4.out.2.2.2 X5.out.2.2.2 lz9) X6.out.2.2.2 lz9
 have B4W:Hid (Below w4.heap.size w4 W1):=aK X5.out.2.2.2 X6.out.2.2.2 lz9
 have HGG:Hid _:=rF (X5.out.1.kept X6.out.2.2.2).arg (lo:=w4.heap.size) (fun g e=>(aG X5.out.1 e).1)
 have HGS:Hid _:=rF X6.out.1.arg (lo:=w4.heap.size) (fun g e=>Nat.le_trans X5.out.2.2.2.size (aG X6.out.1 e).1)
 have BDG:Hid _:=aQ2 X5.out.2.1
 have BDS:Hid _:=aQ2 X6.out.2.1
 have hcl:=X4.out.2.2.1
 have hgl:=X5.out.2.2.1
 have hsl:=X6.out.2.2.1
 have ST:Hid (FW w w4 W1 W1 (.slice qc C.length cc) C):=⟨X4.out.1.kept B4W.out,Fr.refl _ _,fun g e=>.inl ⟨(aG X4.out.1 e).1,(aG X4.out.1 e).2.1⟩⟩
 go_wp2
 go_loopw [3,6] (fun ov i wr=>∃ j:Nat,j<=G.length/\i=.int .i64 j/\FW w w4 W1 wr ov (C ++ shL G j 32)) (fun _ i _=>G.length - (intOf i).toNat)
 case atStart=>exact⟨0,Nat.zero_le _,rfl,by simpa [shL] using ST.out⟩
 case round=>
  obtain⟨j,hj,rfl,hW⟩:=hrel
  obtain⟨qo,co,e3⟩:=hW.own.shape
  subst e3
  by_cases hlt:j < G.length
  ·obtain⟨O,hO⟩:∃ O,C ++ shL G j 32=O:=⟨_,rfl⟩
   have EO:Hid (C ++ shL G j 32=O):=hO
   rw [hO] at hW ⊢
   have M0:Hid (FW w w4 W1 wr (.slice qo O.length co) O):=hW
   have hol:O.length+1<=8796093022208:=by rw [<- hO];simp [shL];omega
   clear hW hO
   obtain⟨r,er⟩:∃ r,G[j]?=some r:=⟨_,List.getElem?_eq_getElem hlt⟩
   obtain⟨gg,og,rfl,hg4,hgg,z1,z2⟩:=HGG.out j _ er
   have hbd:=BDG.out j r er
   have NXT:Hid (shL G (j+1) (32)=shL G j (32) ++ [(r.1+(32),r.2+(32))]):=tX er (32)
   obtain⟨lo,hi⟩:=r
   dsimp only at z1 z2 hbd NXT
   have wa:IntKind.wrap .i64 (lo+32)=lo+32:=by rw [IntKind.wrap_i64];omega
   have wb:IntKind.wrap .i64 (hi+32)=hi+32:=by rw [IntKind.wrap_i64];omega
   have j0:(0:Int)<=(j:Int):=by omega
   have j1:(j:Int) < (G.length:Int):=by omega
   have QC:Hid (∀ w',Fr (aA2 w w4) W1 w'->w'.cell? ⟨gg,og+j * 2,none⟩=some (.int .i64 lo)/\w'.cell? ⟨gg,og+j * 2+1,none⟩=some (.int .i64 hi)):=fun w' hf=>by
    have hbk:=hf.block gg hgg (fun q=>by have:=q.2;omega)
    exact⟨(kF hbk _).trans z1,(kF hbk _).trans z2⟩
   have MD:Hid (FW w w4 W1 wr.drew (.slice qo O.length co) O):=M0.out.drew
   have hw1:w.heap.size<=wr.heap.size:=Nat.le_trans BTW.out.size M0.out.fr.size
   clear z1 z2 er
   go_wp2
   refine wp_region_held_drew (S:=fun w'=>Fr (aA2 w w4) W1 w') (by kernel_rfl) MD.out.fr (fun hHeld=>?_)
   refine wpAnyH_take (i:=0) (oi:=_) (v:=?_) rfl (by kernel_rfl) (by kernel_rfl) (by kernel_rfl) (fun _ _ _ h=>h) (Or.inl ⟨by rfl,?_⟩) (by assumption) ?_
   rotate_left
   ·intro wz hSw;obtain⟨q1,q2⟩:=QC.out wz hSw;clear hSw;go_simp;try with_reducible rfl
   dsimp only [Act.put,List.getElem_toArray,List.getElem_cons_zero,List.getElem_cons_succ]
   simp only [List.setIfInBounds_toArray,List.set_cons_zero,List.set_cons_succ]
   refine wpAnyH_take (i:=1) (oi:=_) (v:=?_) rfl (by kernel_rfl) (by kernel_rfl) (by kernel_rfl) (fun _ _ _ h=>h) (Or.inl ⟨by rfl,?_⟩) (by assumption) ?_
   rotate_left
   ·intro wz hSw;obtain⟨q1,q2⟩:=QC.out wz hSw;clear hSw;go_simp;try with_reducible rfl
   dsimp only [Act.put,List.getElem_toArray,List.getElem_cons_zero,List.getElem_cons_succ]
   simp only [List.setIfInBounds_toArray,List.set_cons_zero,List.set_cons_succ]
   refine wpAnyH_take (i:=2) (oi:=_) (v:=?_) rfl (by kernel_rfl) (by kernel_rfl) (by kernel_rfl) (fun _ _ _ h=>h) (Or.inl ⟨by rfl,?_⟩) (by assumption) ?_
   rotate_left
   ·intro wz hSw;obtain⟨q1,q2⟩:=QC.out wz hSw;clear hSw;go_simp;try with_reducible rfl
   dsimp only [Act.put,List.getElem_toArray,List.getElem_cons_zero,List.getElem_cons_succ]
   simp only [List.setIfInBounds_toArray,List.set_cons_zero,List.set_cons_succ]
   refine wpAnyH_take (i:=3) (oi:=_) (v:=?_) rfl (by kernel_rfl) (by kernel_rfl) (by kernel_rfl) (fun _ _ _ h=>h) (Or.inl ⟨by rfl,?_⟩) (by assumption) ?_
   rotate_left
   ·intro wz hSw;obtain⟨q1,q2⟩:=QC.out wz hSw;clear hSw;go_simp;try with_reducible rfl
   dsimp only [Act.put,List.getElem_toArray,List.getElem_cons_zero,List.getElem_cons_succ]
   simp only [List.setIfInBounds_toArray,List.set_cons_zero,List.set_cons_succ]
   refine wpAnyH_take (i:=4) (oi:=_) (v:=?_) rfl (by kernel_rfl) (by kernel_rfl) (by kernel_rfl) (fun _ _ _ h=>h) (Or.inl ⟨by rfl,?_⟩) (by assumption) ?_
   rotate_left
   ·intro wz hSw;obtain⟨q1,q2⟩:=QC.out wz hSw;clear hSw;go_simp;try with_reducible rfl
   dsimp only [Act.put,List.getElem_toArray,List.getElem_cons_zero,List.getElem_cons_succ]
   simp only [List.setIfInBounds_toArray,List.set_cons_zero,List.set_cons_succ]
   refine wpAnyH_take (i:=5) (oi:=_) (v:=?_) rfl (by kernel_rfl) (by kernel_rfl) (by kernel_rfl) (fun _ _ _ h=>h) (Or.inl ⟨by rfl,?_⟩) (by assumption) ?_
   rotate_left
   ·intro wz hSw;obtain⟨q1,q2⟩:=QC.out wz hSw;clear hSw;go_simp;try with_reducible rfl
   dsimp only [Act.put,List.getElem_toArray,List.getElem_cons_zero,List.getElem_cons_succ]
   simp only [List.setIfInBounds_toArray,List.set_cons_zero,List.set_cons_succ]
   refine wpAnyH_take (i:=6) (oi:=_) (v:=?_) rfl (by kernel_rfl) (by kernel_rfl) (by kernel_rfl) (fun _ _ _ h=>h) (Or.inl ⟨by rfl,?_⟩) (by assumption) ?_
   rotate_left
   ·intro wz hSw;obtain⟨q1,q2⟩:=QC.out wz hSw;clear hSw;go_simp;try with_reducible rfl
   dsimp only [Act.put,List.getElem_toArray,List.getElem_cons_zero,List.getElem_cons_succ]
   simp only [List.setIfInBounds_toArray,List.set_cons_zero,List.set_cons_succ]
   refine wpAnyH_take (i:=7) (oi:=_) (v:=?_) rfl (by kernel_rfl) (by kernel_rfl) (by kernel_rfl) (fun _ _ _ h=>h) (Or.inl ⟨by rfl,?_⟩) (by assumption) ?_
   rotate_left
   ·intro wz hSw;obtain⟨q1,q2⟩:=QC.out wz hSw;clear hSw;go_simp;try with_reducible rfl
   dsimp only [Act.put,List.getElem_toArray,List.getElem_cons_zero,List.getElem_cons_succ]
   simp only [List.setIfInBounds_toArray,List.set_cons_zero,List.set_cons_succ]
   refine wpAnyH_take (i:=8) (oi:=_) (v:=?_) rfl (by kernel_rfl) (by kernel_rfl) (by kernel_rfl) (fun _ _ _ h=>h) (Or.inl ⟨by rfl,?_⟩) (by assumption) ?_
   rotate_left
   ·intro wz hSw;obtain⟨q1,q2⟩:=QC.out wz hSw;clear hSw;go_simp;try with_reducible rfl
   dsimp only [Act.put,List.getElem_toArray,List.getElem_cons_zero,List.getElem_cons_succ]
   simp only [List.setIfInBounds_toArray,List.set_cons_zero,List.set_cons_succ]
   refine wpAnyH_take (i:=9) (oi:=_) (v:=?_) rfl (by kernel_rfl) (by kernel_rfl) (by kernel_rfl) (fun _ _ _ h=>h) (Or.inl ⟨by rfl,?_⟩) (by assumption) ?_
   rotate_left
   ·intro wz hSw;obtain⟨q1,q2⟩:=QC.out wz hSw;clear hSw;go_simp;try with_reducible rfl
   dsimp only [Act.put,List.getElem_toArray,List.getElem_cons_zero,List.getElem_cons_succ]
   simp only [List.setIfInBounds_toArray,List.set_cons_zero,List.set_cons_succ]
   refine wpAnyH_take (i:=10) (oi:=_) (v:=?_) rfl (by kernel_rfl) (by kernel_rfl) (by kernel_rfl) (fun _ _ _ h=>h) (Or.inl ⟨by rfl,?_⟩) (by assumption) ?_
   rotate_left
   ·intro wz hSw;obtain⟨q1,q2⟩:=QC.out wz hSw;clear hSw;go_simp;try with_reducible rfl
   dsimp only [Act.put,List.getElem_toArray,List.getElem_cons_zero,List.getElem_cons_succ]
   simp only [List.setIfInBounds_toArray,List.set_cons_zero,List.set_cons_succ]
   refine wpAnyH_take (i:=11) (oi:=_) (v:=?_) rfl (by kernel_rfl) (by kernel_rfl) (by kernel_rfl) (fun _ _ _ h=>h) (Or.inl ⟨by rfl,?_⟩) (by assumption) ?_
   rotate_left
   ·intro wz hSw;obtain⟨q1,q2⟩:=QC.out wz hSw;clear hSw;go_simp;try with_reducible rfl
   dsimp only [Act.put,List.getElem_toArray,List.getElem_cons_zero,List.getElem_cons_succ]
   simp only [List.setIfInBounds_toArray,List.set_cons_zero,List.set_cons_succ]
   refine wpAnyH_take (i:=12) (oi:=_) (v:=?_) rfl (by kernel_rfl) (by kernel_rfl) (by kernel_rfl) (fun _ _ _ h=>h) (Or.inl ⟨by rfl,?_⟩) (by assumption) ?_
   rotate_left
   ·intro wz hSw;obtain⟨q1,q2⟩:=QC.out wz hSw;clear hSw;go_simp;try with_reducible rfl
   dsimp only [Act.put,List.getElem_toArray,List.getElem_cons_zero,List.getElem_cons_succ]
   simp only [List.setIfInBounds_toArray,List.set_cons_zero,List.set_cons_succ]
   refine wpAnyH_take (i:=13) (oi:=_) (v:=?_) rfl (by kernel_rfl) (by kernel_rfl) (by kernel_rfl) (fun _ _ _ h=>h) (Or.inl ⟨by rfl,?_⟩) (by assumption) ?_
   rotate_left
   ·intro wz hSw;obtain⟨q1,q2⟩:=QC.out wz hSw;clear hSw;go_simp;try with_reducible rfl
   dsimp only [Act.put,List.getElem_toArray,List.getElem_cons_zero,List.getElem_cons_succ]
   simp only [List.setIfInBounds_toArray,List.set_cons_zero,List.set_cons_succ]
   refine wpAnyH_ready (rs:=[14]) (by kernel_rfl) (by simp) ?_
   refine AllReadyH.cons rfl (fun K hK=>?_) AllReadyH.nil
   go_simp
   refine hK.out _ _ (MD.out.fr.alloc _) (fun hHeld2=>?_)
   clear hK K
   refine wpAnyH_ready (rs:=[15]) (by kernel_rfl) (by simp) ?_
   refine AllReadyH.cons rfl (fun K hK=>?_) AllReadyH.nil
   refine aV rfl _ _ 22 rfl w.heap.size 110 t0 (.agg #[.int .i64 0,.int .i64 0]) 2 16 bF ti hz0 hz1 hz2 rfl (by decide) (.slice qo O.length co) O.length (aQ O) (by simp [Act.eval]) (World.ownsRow.alloc MD.out.own (.cells #[.int .i64 (lo+32),.int .i64 (hi+32)] 110)) ⟨wr.heap.size,0,none⟩ 1 1 [.int .i64 (lo+32),.int .i64 (hi+32)] (by simp [Act.eval]) rfl (jC _ _ _ _) (by simp [Value.oneCell']) (by unfold maxLen;omega) (by omega) (by simp;omega) ?_
   intro v' w6' hown' hgrow hblk
   obtain⟨g6,cap6,rfl⟩:=aJ hown' (Nat.succ_pos _)
   have M6:Hid (FW w w4 W1 w6' (.slice (some ⟨g6,0,none⟩) (O.length+1) cap6) (O ++ [(lo+32,hi+32)])):=MD.out.app hgrow hown' hblk
   clear hown' hgrow hblk
   refine hK.out _ _ M6.out.fr (fun hHeld3=>?_)
   clear hK K
   refine wpAnyH_ready (rs:=[16]) (by kernel_rfl) (by simp) ?_
   refine AllReadyH.cons rfl (fun K hK=>?_) AllReadyH.nil
   go_simp
   refine hK.out _ _ M6.out.fr (fun hHeld4=>?_)
   clear hK K
   refine wpAnyH_done (by kernel_rfl) ?_ _
   go_wp2
   go_roundw
   case rel=>exact⟨j+1,by omega,by go_num,by rw [NXT.out,<- List.append_assoc,EO.out];exact M6.out⟩
   case measure=>simp [intOf];omega
  ·have j1:¬ (j:Int) < (G.length:Int):=by omega
   have EJ:Hid (shL G j 32=shL G G.length 32):=aD (by unfold shL;rw [List.take_of_length_le (by omega),List.take_length])
   rw [EJ.out] at hW ⊢
   obtain⟨C2,hC2⟩:∃ C2,C ++ shL G G.length 32=C2:=⟨_,rfl⟩
   have EC:Hid (C ++ shL G G.length 32=C2):=hC2
   have hc2:C2.length<=2 * L.length:=by rw [<- hC2];simp [shL];omega
   rw [hC2] at hW ⊢
   have ST2:Hid (FW w w4 W1 wr (.slice qo C2.length co) C2):=hW
   clear hW hC2
   rename World=>W5
   go_wp2
   go_loopw [3,7] (fun ov i wr=>∃ j:Nat,j<=S.length/\i=.int .i64 j/\FW w w4 W1 wr ov (C2 ++ shL S j (-32))) (fun _ i _=>S.length - (intOf i).toNat)
   case atStart=>exact⟨0,Nat.zero_le _,rfl,by simpa [shL] using ST2.out⟩
   case round=>
    clear ST2
    obtain⟨j,hj,rfl,hW⟩:=hrel
    obtain⟨qo,co,e3⟩:=hW.own.shape
    subst e3
    by_cases hlt:j < S.length
    ·obtain⟨O,hO⟩:∃ O,C2 ++ shL S j (-32)=O:=⟨_,rfl⟩
     have EO:Hid (C2 ++ shL S j (-32)=O):=hO
     rw [hO] at hW ⊢
     have M0:Hid (FW w w4 W1 wr (.slice qo O.length co) O):=hW
     have hol:O.length+1<=8796093022208:=by rw [<- hO];simp [shL];omega
     clear hW hO
     obtain⟨r,er⟩:∃ r,S[j]?=some r:=⟨_,List.getElem?_eq_getElem hlt⟩
     obtain⟨gg,og,rfl,hg4,hgg,z1,z2⟩:=HGS.out j _ er
     have hbd:=BDS.out j r er
     have NXT:Hid (shL S (j+1) (-32)=shL S j (-32) ++ [(r.1+(-32),r.2+(-32))]):=tX er (-32)
     obtain⟨lo,hi⟩:=r
     dsimp only at z1 z2 hbd NXT
     have wa:IntKind.wrap .i64 (lo - 32)=lo - 32:=by rw [IntKind.wrap_i64];omega
     have wb:IntKind.wrap .i64 (hi - 32)=hi - 32:=by rw [IntKind.wrap_i64];omega
     have j0:(0:Int)<=(j:Int):=by omega
     have j1:(j:Int) < (S.length:Int):=by omega
     have QC:Hid (∀ w',Fr (aA2 w w4) W1 w'->w'.cell? ⟨gg,og+j * 2,none⟩=some (.int .i64 lo)/\w'.cell? ⟨gg,og+j * 2+1,none⟩=some (.int .i64 hi)):=fun w' hf=>by
      have hbk:=hf.block gg hgg (fun q=>by have:=q.2;omega)
      exact⟨(kF hbk _).trans z1,(kF hbk _).trans z2⟩
     have MD:Hid (FW w w4 W1 wr.drew (.slice qo O.length co) O):=M0.out.drew
     have hw1:w.heap.size<=wr.heap.size:=Nat.le_trans BTW.out.size M0.out.fr.size
     clear z1 z2 er
     go_wp2
     refine wp_region_held_drew (S:=fun w'=>Fr (aA2 w w4) W1 w') (by kernel_rfl) MD.out.fr (fun hHeld=>?_)
     refine wpAnyH_take (i:=0) (oi:=_) (v:=?_) rfl (by kernel_rfl) (by kernel_rfl) (by kernel_rfl) (fun _ _ _ h=>h) (Or.inl ⟨by rfl,?_⟩) (by assumption) ?_
     rotate_left
     ·intro wz hSw;obtain⟨q1,q2⟩:=QC.out wz hSw;clear hSw;go_simp;try with_reducible rfl
     dsimp only [Act.put,List.getElem_toArray,List.getElem_cons_zero,List.getElem_cons_succ]
     simp only [List.setIfInBounds_toArray,List.set_cons_zero,List.set_cons_succ]
     refine wpAnyH_take (i:=1) (oi:=_) (v:=?_) rfl (by kernel_rfl) (by kernel_rfl) (by kernel_rfl) (fun _ _ _ h=>h) (Or.inl ⟨by rfl,?_⟩) (by assumption) ?_
     rotate_left
     ·intro wz hSw;obtain⟨q1,q2⟩:=QC.out wz hSw;clear hSw;go_simp;try with_reducible rfl
     dsimp only [Act.put,List.getElem_toArray,List.getElem_cons_zero,List.getElem_cons_succ]
     simp only [List.setIfInBounds_toArray,List.set_cons_zero,List.set_cons_succ]
     refine wpAnyH_take (i:=2) (oi:=_) (v:=?_) rfl (by kernel_rfl) (by kernel_rfl) (by kernel_rfl) (fun _ _ _ h=>h) (Or.inl ⟨by rfl,?_⟩) (by assumption) ?_
     rotate_left
     ·intro wz hSw;obtain⟨q1,q2⟩:=QC.out wz hSw;clear hSw;go_simp;try with_reducible rfl
     dsimp only [Act.put,List.getElem_toArray,List.getElem_cons_zero,List.getElem_cons_succ]
     simp only [List.setIfInBounds_toArray,List.set_cons_zero,List.set_cons_succ]
     refine wpAnyH_take (i:=3) (oi:=_) (v:=?_) rfl (by kernel_rfl) (by kernel_rfl) (by kernel_rfl) (fun _ _ _ h=>h) (Or.inl ⟨by rfl,?_⟩) (by assumption) ?_
     rotate_left
     ·intro wz hSw;obtain⟨q1,q2⟩:=QC.out wz hSw;clear hSw;go_simp;try with_reducible rfl
     dsimp only [Act.put,List.getElem_toArray,List.getElem_cons_zero,List.getElem_cons_succ]
     simp only [List.setIfInBounds_toArray,List.set_cons_zero,List.set_cons_succ]
     refine wpAnyH_take (i:=4) (oi:=_) (v:=?_) rfl (by kernel_rfl) (by kernel_rfl) (by kernel_rfl) (fun _ _ _ h=>h) (Or.inl ⟨by rfl,?_⟩) (by assumption) ?_
     rotate_left
     ·intro wz hSw;obtain⟨q1,q2⟩:=QC.out wz hSw;clear hSw;go_simp;try with_reducible rfl
     dsimp only [Act.put,List.getElem_toArray,List.getElem_cons_zero,List.getElem_cons_succ]
     simp only [List.setIfInBounds_toArray,List.set_cons_zero,List.set_cons_succ]
     refine wpAnyH_take (i:=5) (oi:=_) (v:=?_) rfl (by kernel_rfl) (by kernel_rfl) (by kernel_rfl) (fun _ _ _ h=>h) (Or.inl ⟨by rfl,?_⟩) (by assumption) ?_
     rotate_left
     ·intro wz hSw;obtain⟨q1,q2⟩:=QC.out wz hSw;clear hSw;go_simp;try with_reducible rfl
     dsimp only [Act.put,List.getElem_toArray,List.getElem_cons_zero,List.getElem_cons_succ]
     simp only [List.setIfInBounds_toArray,List.set_cons_zero,List.set_cons_succ]
     refine wpAnyH_take (i:=6) (oi:=_) (v:=?_) rfl (by kernel_rfl) (by kernel_rfl) (by kernel_rfl) (fun _ _ _ h=>h) (Or.inl ⟨by rfl,?_⟩) (by assumption) ?_
     rotate_left
     ·intro wz hSw;obtain⟨q1,q2⟩:=QC.out wz hSw;clear hSw;go_simp;try with_reducible rfl
     dsimp only [Act.put,List.getElem_toArray,List.getElem_cons_zero,List.getElem_cons_succ]
     simp only [List.setIfInBounds_toArray,List.set_cons_zero,List.set_cons_succ]
     refine wpAnyH_take (i:=7) (oi:=_) (v:=?_) rfl (by kernel_rfl) (by kernel_rfl) (by kernel_rfl) (fun _ _ _ h=>h) (Or.inl ⟨by rfl,?_⟩) (by assumption) ?_
     rotate_left
     ·intro wz hSw;obtain⟨q1,q2⟩:=QC.out wz hSw;clear hSw;go_simp;try with_reducible rfl
     dsimp only [Act.put,List.getElem_toArray,List.getElem_cons_zero,List.getElem_cons_succ]
     simp only [List.setIfInBounds_toArray,List.set_cons_zero,List.set_cons_succ]
     refine wpAnyH_take (i:=8) (oi:=_) (v:=?_) rfl (by kernel_rfl) (by kernel_rfl) (by kernel_rfl) (fun _ _ _ h=>h) (Or.inl ⟨by rfl,?_⟩) (by assumption) ?_
     rotate_left
     ·intro wz hSw;obtain⟨q1,q2⟩:=QC.out wz hSw;clear hSw;go_simp;try with_reducible rfl
     dsimp only [Act.put,List.getElem_toArray,List.getElem_cons_zero,List.getElem_cons_succ]
     simp only [List.setIfInBounds_toArray,List.set_cons_zero,List.set_cons_succ]
     refine wpAnyH_take (i:=9) (oi:=_) (v:=?_) rfl (by kernel_rfl) (by kernel_rfl) (by kernel_rfl) (fun _ _ _ h=>h) (Or.inl ⟨by rfl,?_⟩) (by assumption) ?_
     rotate_left
     ·intro wz hSw;obtain⟨q1,q2⟩:=QC.out wz hSw;clear hSw;go_simp;try with_reducible rfl
     dsimp only [Act.put,List.getElem_toArray,List.getElem_cons_zero,List.getElem_cons_succ]
     simp only [List.setIfInBounds_toArray,List.set_cons_zero,List.set_cons_succ]
     refine wpAnyH_take (i:=10) (oi:=_) (v:=?_) rfl (by kernel_rfl) (by kernel_rfl) (by kernel_rfl) (fun _ _ _ h=>h) (Or.inl ⟨by rfl,?_⟩) (by assumption) ?_
     rotate_left
     ·intro wz hSw;obtain⟨q1,q2⟩:=QC.out wz hSw;clear hSw;go_simp;try with_reducible rfl
     dsimp only [Act.put,List.getElem_toArray,List.getElem_cons_zero,List.getElem_cons_succ]
     simp only [List.setIfInBounds_toArray,List.set_cons_zero,List.set_cons_succ]
     refine wpAnyH_take (i:=11) (oi:=_) (v:=?_) rfl (by kernel_rfl) (by kernel_rfl) (by kernel_rfl) (fun _ _ _ h=>h) (Or.inl ⟨by rfl,?_⟩) (by assumption) ?_
     rotate_left
     ·intro wz hSw;obtain⟨q1,q2⟩:=QC.out wz hSw;clear hSw;go_simp;try with_reducible rfl
     dsimp only [Act.put,List.getElem_toArray,List.getElem_cons_zero,List.getElem_cons_succ]
     simp only [List.setIfInBounds_toArray,List.set_cons_zero,List.set_cons_succ]
     refine wpAnyH_take (i:=12) (oi:=_) (v:=?_) rfl (by kernel_rfl) (by kernel_rfl) (by kernel_rfl) (fun _ _ _ h=>h) (Or.inl ⟨by rfl,?_⟩) (by assumption) ?_
     rotate_left
     ·intro wz hSw;obtain⟨q1,q2⟩:=QC.out wz hSw;clear hSw;go_simp;try with_reducible rfl
     dsimp only [Act.put,List.getElem_toArray,List.getElem_cons_zero,List.getElem_cons_succ]
     simp only [List.setIfInBounds_toArray,List.set_cons_zero,List.set_cons_succ]
     refine wpAnyH_take (i:=13) (oi:=_) (v:=?_) rfl (by kernel_rfl) (by kernel_rfl) (by kernel_rfl) (fun _ _ _ h=>h) (Or.inl ⟨by rfl,?_⟩) (by assumption) ?_
     rotate_left
     ·intro wz hSw;obtain⟨q1,q2⟩:=QC.out wz hSw;clear hSw;go_simp;try with_reducible rfl
     dsimp only [Act.put,List.getElem_toArray,List.getElem_cons_zero,List.getElem_cons_succ]
     simp only [List.setIfInBounds_toArray,List.set_cons_zero,List.set_cons_succ]
     refine wpAnyH_ready (rs:=[14]) (by kernel_rfl) (by simp) ?_
     refine AllReadyH.cons rfl (fun K hK=>?_) AllReadyH.nil
     go_simp
     refine hK.out _ _ (MD.out.fr.alloc _) (fun hHeld2=>?_)
     clear hK K
     refine wpAnyH_ready (rs:=[15]) (by kernel_rfl) (by simp) ?_
     refine AllReadyH.cons rfl (fun K hK=>?_) AllReadyH.nil
     refine aV rfl _ _ 22 rfl w.heap.size 110 t0 (.agg #[.int .i64 0,.int .i64 0]) 2 16 bF ti hz0 hz1 hz2 rfl (by decide) (.slice qo O.length co) O.length (aQ O) (by simp [Act.eval]) (World.ownsRow.alloc MD.out.own (.cells #[.int .i64 (lo - 32),.int .i64 (hi - 32)] 110)) ⟨wr.heap.size,0,none⟩ 1 1 [.int .i64 (lo - 32),.int .i64 (hi - 32)] (by simp [Act.eval]) rfl (jC _ _ _ _) (by simp [Value.oneCell']) (by unfold maxLen;omega) (by omega) (by simp;omega) ?_
     intro v' w6' hown' hgrow hblk
     obtain⟨g6,cap6,rfl⟩:=aJ hown' (Nat.succ_pos _)
     have M6:Hid (FW w w4 W1 w6' (.slice (some ⟨g6,0,none⟩) (O.length+1) cap6) (O ++ [(lo - 32,hi - 32)])):=MD.out.app hgrow hown' hblk
     clear hown' hgrow hblk
     refine hK.out _ _ M6.out.fr (fun hHeld3=>?_)
     clear hK K
     refine wpAnyH_ready (rs:=[16]) (by kernel_rfl) (by simp) ?_
     refine AllReadyH.cons rfl (fun K hK=>?_) AllReadyH.nil
     go_simp
     refine hK.out _ _ M6.out.fr (fun hHeld4=>?_)
     clear hK K
     refine wpAnyH_done (by kernel_rfl) ?_ _
     go_wp2
     go_roundw
     case rel=>exact⟨j+1,by omega,by go_num,by rw [NXT.out,<- List.append_assoc,EO.out];exact M6.out⟩
     case measure=>simp [intOf];omega
    ·have j1:¬ (j:Int) < (S.length:Int):=by omega
     have EJ:Hid (shL S j (-32)=S.map fun r:Int × Int=>(r.1+-32,r.2+-32)):=aD (by unfold shL;rw [List.take_of_length_le (by omega)])
     have EG:Hid (C2=C ++ G.map fun r:Int × Int=>(r.1+32,r.2+32)):=aD (by rw [<- EC.out];unfold shL;rw [List.take_length])
     rw [EJ.out] at hW ⊢
     have MZ:Hid _:=hW
     have FZ:Hid (Fit (C2 ++ S.map fun r:Int × Int=>(r.1+-32,r.2+-32))):=aD (by
      rw [EG.out]
      refine cV (cV X4.out.2.1.fit fun r hr=>?_) fun r hr=>?_
      ·obtain⟨x,hx,e⟩:=List.mem_map.1 hr
       subst e
       obtain⟨i,hi⟩:=List.getElem?_of_mem hx
       have:=BDG.out i x hi
       simp only
       omega
      ·obtain⟨x,hx,e⟩:=List.mem_map.1 hr
       subst e
       obtain⟨i,hi⟩:=List.getElem?_of_mem hx
       have:=BDS.out i x hi
       simp only
       omega)
     have LZ:Hid ((C2 ++ S.map fun r:Int × Int=>(r.1+-32,r.2+-32)).length<=3 * L.length):=aD (by simp;omega)
     have IZ:Hid (∀ c,In (C2 ++ S.map fun r:Int × Int=>(r.1+-32,r.2+-32)) c ↔ lX L c):=fun c=>by
      rw [EG.out,bM,bM,iT,iT,X4.out.2.1.mem,X5.out.2.1.mem,X6.out.2.1.mem,dE,dE]
      unfold lX
      rw [show c - -32=c+32 by omega,or_assoc]
     clear hW
     generalize (C2 ++ S.map fun r:Int × Int=>(r.1+-32,r.2+-32))=Z at *
     go_wp2_with (go_at_call 117;refine(jG MZ.out.own.arg FZ.out (by have:=LZ.out;omega)).mono ?_;rintro e w7 ⟨v7,D,rfl,h1,h2,h3,h4⟩;have X7:Hid (RR wr.heap.size w7 v7 D/\IsC D (In Z)/\D.length<=Z.length/\Below wr.heap.size wr w7):=⟨h1,h2,h3,h4⟩;clear h1 h2 h3 h4)
     go_ret
     have BZ:Below w.heap.size w wr:=bB BTW.out MZ.out.fr lz9 (fun k hk=>hk.1)
     exact⟨_,_,rfl,X7.out.1.mono BZ.size,X7.out.2.1.to IZ.out,Nat.le_trans X7.out.2.2.1 LZ.out,aK BZ X7.out.2.2.2 lz9⟩
end Go.Proofs.YtjafnbjipgediaaGreatDoor
