/-
  Parts of the proof.
-/
import Derived.Test.YticfnglebbakkaaGreatDoorClassProof10B16
import Derived.Test.YticfnglebbakkaaGreatDoorClassProof10B5
import Derived.Test.YticfnglebbakkaaGreatDoorClassProof10B9
import Derived.Test.YticfnglebbakkaaGreatDoorClassProof10B12
import Derived.Test.YticfnglebbakkaaGreatDoorClassProof10B14
import Derived.Test.YticfnglebbakkaaGreatDoorClassProof10B0
import Derived.Test.YticfnglebbakkaaGreatDoorClassProof10B10
import Derived.Test.YticfnglebbakkaaGreatDoorClassProof10B1
import Derived.Recover
set_option maxRecDepth 100000
set_option maxHeartbeats 8000000
namespace Go.Proofs.YticfnglebbakkaaGreatDoor
open Go Go.RowKit
section
attribute [local go_sem] aT
def cI(A B:List (Int × Int)):List (Int × Int):=A.flatMap fun a=>B.map (cG a)
theorem oL{A B:List (Int × Int)}{i:Nat}{a:Int × Int}(h:A[i]?=some a):cI (A.take (i+1)) B=cI (A.take i) B ++ B.map (cG a):=by
 obtain⟨hk,rfl⟩:=List.getElem?_eq_some_iff.1 h
 rw [bC A i hk]
 unfold cI
 rw [List.flatMap_append]
 simp only [List.flatMap_cons,List.flatMap_nil,List.append_nil]
theorem sU{B:List (Int × Int)}{j:Nat}{b a:Int × Int}(h:B[j]?=some b):(B.take (j+1)).map (cG a)=(B.take j).map (cG a) ++ [cG a b]:=by
 obtain⟨hk,rfl⟩:=List.getElem?_eq_some_iff.1 h
 rw [bC B j hk,List.map_append]
 rfl
theorem tE(A B:List (Int × Int))(c:Int):In (cI A B) c ↔ In A c/\In B c:=by
 unfold cI In cG
 constructor
 ·rintro ⟨r,hr,h1,h2⟩
  obtain⟨a,ha,hr⟩:=List.mem_flatMap.1 hr
  obtain⟨b,hb,rfl⟩:=List.mem_map.1 hr
  simp only at h1 h2
  exact⟨⟨a,ha,by omega,by omega⟩,b,hb,by omega,by omega⟩
 ·rintro ⟨⟨a,ha,h1,h2⟩,b,hb,h3,h4⟩
  exact⟨_,List.mem_flatMap.2 ⟨a,ha,List.mem_map.2 ⟨b,hb,rfl⟩⟩,by simp only;omega,by simp only;omega⟩
theorem qZ{A B:List (Int × Int)}(fa:Fit A)(fb:Fit B):Fit (cI A B):=fun r hr=>by
 obtain⟨a,ha,hr⟩:=List.mem_flatMap.1 hr
 obtain⟨b,hb,rfl⟩:=List.mem_map.1 hr
 have h1:=fa a ha
 have h2:=fb b hb
 simp only [cG]
 omega
theorem gG(A B:List (Int × Int)):(cI A B).length=A.length * B.length:=by
 induction A with
 | nil=>simp [cI]
 | cons a A ih=>simp only [cI,List.flatMap_cons,List.length_append,List.length_map,List.length_cons,Nat.succ_mul] at *;omega
theorem wR{w:World}{va vb:Value}{A0 B0:List (Int × Int)}(ha:ArgR w va A0)(hb:ArgR w vb B0)(fa:Fit A0)(fb:Fit B0)(hl1:A0.length+1<=8796093022208)(hl2:B0.length+1<=8796093022208)(hl:A0.length * B0.length+1<=8796093022208) :
  Calls Tryz.prog 139 #[va,vb] w (kG w (fun c=>In A0 c/\In B0 c) (A0.length * B0.length)):=by
 obtain⟨t0,ti,hz0,hz1,hz2⟩:=aQ bH
 have H:Hid ((ArgR w va A0/\Fit A0)/\ArgR w vb B0/\Fit B0):=⟨⟨ha,fa⟩,hb,fb⟩
 clear ha hb fa fb
 go_enter Tryz.func139,Tryz.ntmps139
 go_upto_region 5 with first
  |(go_at_call 158;have hx:=X5.out;clear hx;have hih:=jB (H.out.2.1.kept X5.out.2.2.2) H.out.2.2 hl2;(with_reducible refine hih.mono ?_);clear hih;rintro e w6 ⟨v6,B,rfl,h1,h2,h3,h4⟩;obtain⟨qb,cb,rfl⟩:=h1.shape;have X6:Hid (RR w5.heap.size w6 (.slice qb B.length cb) B/\IsC B (In B0)/\B.length<=B0.length/\Below w5.heap.size w5 w6):=⟨h1,h2,h3,h4⟩;clear h1 h2 h3 h4)
  |(go_at_call 158;have hih:=jB H.out.1.1 H.out.1.2 hl1;(with_reducible refine hih.mono ?_);clear hih;rintro e w5 ⟨v5,A,rfl,h1,h2,h3,h4⟩;obtain⟨qa,ca,rfl⟩:=h1.shape;have X5:Hid (RR w.heap.size w5 (.slice qa A.length ca) A/\IsC A (In A0)/\A.length<=A0.length/\Below w.heap.size w w5):=⟨h1,h2,h3,h4⟩;clear h1 h2 h3 h4)
 rename World=>W1
 have hla:=X5.out.2.2.1
 have hlb:=X6.out.2.2.1
 have HA:Hid (∀ (i:Nat) (r:Int × Int),A[i]?=some r->∃ g off,qa=some ⟨g,off,none⟩/\g < W1.heap.size/\W1.cell? ⟨g,off+2 * i,none⟩=some (.int .i64 r.1)/\W1.cell? ⟨g,off+2 * i+1,none⟩=some (.int .i64 r.2)):=by
  obtain⟨q',cap',e,-,-,hc⟩:=(X5.out.1.kept X6.out.2.2.2).arg.slice
  cases e
  exact hc
 have HB:Hid (∀ (i:Nat) (r:Int × Int),B[i]?=some r->∃ g off,qb=some ⟨g,off,none⟩/\g < W1.heap.size/\W1.cell? ⟨g,off+2 * i,none⟩=some (.int .i64 r.1)/\W1.cell? ⟨g,off+2 * i+1,none⟩=some (.int .i64 r.2)):=by
  obtain⟨q',cap',e,-,-,hc⟩:=X6.out.1.arg.slice
  cases e
  exact hc
 have LP:Hid (∀ i,(cI (A.take i) B).length+B.length * (A.length - i)<=A0.length * B0.length\/A.length < i):=fun i=>by
  rcases Nat.lt_or_ge A.length i with h | h
  ·exact .inr h
  ·left
   rw [gG,List.length_take,Nat.min_eq_left h,Nat.mul_comm B.length,<- Nat.add_mul,Nat.add_sub_cancel' h]
   exact Nat.mul_le_mul hla hlb
 have BW:Hid (Below w.heap.size w W1):=aF X5.out.2.2.2 X6.out.2.2.2 lz9
 go_loopw [7,8] (fun ov i wr=>∃ k:Nat,k<=A.length/\i=.int .i64 k/\RR W1.heap.size wr ov (cI (A.take k) B)/\Below W1.heap.size W1 wr) (fun _ i _=>A.length - (intOf i).toNat)
 case atStart=>exact⟨0,Nat.zero_le _,rfl,RR.nil _ _,Below.refl _ _⟩
 case round=>
  obtain⟨k,hk,rfl,hrr,hb⟩:=hrel
  have RO:Hid (RR W1.heap.size wr u7 (cI (A.take k) B)):=hrr
  have BB:Hid (Below W1.heap.size W1 wr):=hb
  clear hrr hb
  by_cases hlt:k < A.length
  ·obtain⟨a,ea⟩:∃ r,A[k]?=some r:=⟨_,List.getElem?_eq_getElem hlt⟩
   obtain⟨ga,oa,rfl,hga,xa1,xa2⟩:=HA.out k _ ea
   have PN:Hid (cI (A.take (k+1)) B=cI (A.take k) B ++ B.map (cG a)):=oL ea
   rw [Nat.mul_comm] at xa1 xa2
   have XA:Hid (W1.cell? ⟨ga,oa+k * 2,none⟩=some (.int .i64 a.1)/\W1.cell? ⟨ga,oa+k * 2+1,none⟩=some (.int .i64 a.2)/\ga < W1.heap.size):=⟨xa1,xa2,hga⟩
   have LK:Hid ((cI (A.take k) B).length+B.length+1<=8796093022208):=aB (by
    rcases LP.out (k+1) with h | h
    ·have:=PN.out;rw [this,List.length_append,List.length_map] at h;omega
    ·omega)
   have i0:(0:Int)<=(k:Int):=by omega
   have i1:(k:Int) < (A.length:Int):=by omega
   clear xa1 xa2 hga ea
   rename World=>W2
   generalize cI (A.take k) B=P at *
   go_wp2
   go_loopw [7,9] (fun ov i wr=>∃ j:Nat,j<=B.length/\i=.int .i64 j/\RR W1.heap.size wr ov (P ++ (B.take j).map (cG a))/\Below W1.heap.size W1 wr) (fun _ i _=>B.length - (intOf i).toNat)
   case atStart=>exact⟨0,Nat.zero_le _,rfl,by simpa using RO.out,BB.out⟩
   case round=>
    clear RO BB
    obtain⟨j,hj,rfl,hrr,hb⟩:=hrel
    obtain⟨qo,co,e3⟩:=hrr.shape
    subst e3
    obtain⟨O,hO⟩:∃ O,P ++ (B.take j).map (cG a)=O:=⟨_,rfl⟩
    have EO:Hid (P ++ (B.take j).map (cG a)=O):=hO
    rw [hO] at hrr ⊢
    have RO:Hid (RR W1.heap.size wr (.slice qo O.length co) O):=hrr
    have BB:Hid (Below W1.heap.size W1 wr):=hb
    have hbs:=hb.size
    have hol:O.length+1<=8796093022208:=by have:=LK.out;rw [<- hO,List.length_append,List.length_map,List.length_take];omega
    clear hrr hb hO
    by_cases hjlt:j < B.length
    ·obtain⟨b,eb⟩:∃ r,B[j]?=some r:=⟨_,List.getElem?_eq_getElem hjlt⟩
     obtain⟨gb,ob,rfl,hgb,xb1,xb2⟩:=HB.out j _ eb
     have MN:Hid (P ++ (B.take (j+1)).map (cG a)=O ++ [cG a b]):=aB (by rw [sU eb,<- List.append_assoc,EO.out])
     rw [Nat.mul_comm] at xb1 xb2
     have c1:=(BB.out.cell (p:=⟨ga,oa+k * 2,none⟩) XA.out.2.2).trans XA.out.1
     have c2:=(BB.out.cell (p:=⟨ga,oa+k * 2+1,none⟩) XA.out.2.2).trans XA.out.2.1
     have c3:=(BB.out.cell (p:=⟨gb,ob+j * 2,none⟩) hgb).trans xb1
     have c4:=(BB.out.cell (p:=⟨gb,ob+j * 2+1,none⟩) hgb).trans xb2
     have s1:ga < wr.heap.size:=Nat.lt_of_lt_of_le XA.out.2.2 hbs
     have s2:gb < wr.heap.size:=Nat.lt_of_lt_of_le hgb hbs
     obtain⟨a1,ha1⟩:∃ x,a.1=x:=⟨_,rfl⟩
     obtain⟨a2,ha2⟩:∃ x,a.2=x:=⟨_,rfl⟩
     obtain⟨b1,hb1⟩:∃ x,b.1=x:=⟨_,rfl⟩
     obtain⟨b2,hb2⟩:∃ x,b.2=x:=⟨_,rfl⟩
     rw [ha1] at c1
     rw [ha2] at c2
     rw [hb1] at c3
     rw [hb2] at c4
     obtain⟨cr,hcr⟩:∃ cr,cG a b=cr:=⟨_,rfl⟩
     have hmx:∀ t ty w,(Builtin.max_ t ty #[.int .i64 a1,.int .i64 b1]).run Tryz.prog w=.ok (.int .i64 cr.1) w:=fun t ty w=>by rw [gI,<- hcr,<- ha1,<- hb1];rfl
     have hmn:∀ t ty w,(Builtin.min_ t ty #[.int .i64 a2,.int .i64 b2]).run Tryz.prog w=.ok (.int .i64 cr.2) w:=fun t ty w=>by rw [pP,<- hcr,<- ha2,<- hb2];rfl
     have MN2:Hid (P ++ (B.take (j+1)).map (cG a)=O ++ [(cr.1,cr.2)]):=aB (by rw [MN.out,hcr])
     have j0:(0:Int)<=(j:Int):=by omega
     have j1:(j:Int) < (B.length:Int):=by omega
     have RD:Hid (RR W1.heap.size wr.drew (.slice qo O.length co) O):=World.ownsRow.drew RO.out
     have BD:Hid (Below W1.heap.size W1 wr.drew):=BB.out.drew
     have ne1:=World.new_ne wr _ c1
     have ne3:=World.new_ne wr _ c3
     have XK:Hid (W1.cell? ⟨ga,oa+k * 2,none⟩=some (.int .i64 a1)/\W1.cell? ⟨ga,oa+k * 2+1,none⟩=some (.int .i64 a2)/\W1.cell? ⟨gb,ob+j * 2,none⟩=some (.int .i64 b1)/\W1.cell? ⟨gb,ob+j * 2+1,none⟩=some (.int .i64 b2)/\gb < W1.heap.size):=⟨by rw [<- ha1];exact XA.out.1,by rw [<- ha2];exact XA.out.2.1,by rw [<- hb1];exact xb1,by rw [<- hb2];exact xb2,hgb⟩
     clear xb1 xb2 eb hgb MN ha1 ha2 hb1 hb2 hcr
     have QC:Hid (∀ w',Below W1.heap.size W1 w'->w'.cell? ⟨ga,oa+k * 2,none⟩=some (.int .i64 a1)/\w'.cell? ⟨ga,oa+k * 2+1,none⟩=some (.int .i64 a2)/\w'.cell? ⟨gb,ob+j * 2,none⟩=some (.int .i64 b1)/\w'.cell? ⟨gb,ob+j * 2+1,none⟩=some (.int .i64 b2)):=fun w' hb=>⟨(hb.cell (p:=⟨ga,oa+k * 2,none⟩) XA.out.2.2).trans XK.out.1,(hb.cell (p:=⟨ga,oa+k * 2+1,none⟩) XA.out.2.2).trans XK.out.2.1,(hb.cell (p:=⟨gb,ob+j * 2,none⟩) XK.out.2.2.2.2).trans XK.out.2.2.1,(hb.cell (p:=⟨gb,ob+j * 2+1,none⟩) XK.out.2.2.2.2).trans XK.out.2.2.2.1⟩
     clear c1 c2 c3 c4
     go_wp2
     refine wp_region_held_drew (S:=fun w'=>Below W1.heap.size W1 w') (by kernel_rfl) BD.out (fun hHeld=>?_)
     refine wpAnyH_take (i:=0) (oi:=_) (v:=?_) rfl (by kernel_rfl) (by kernel_rfl) (by kernel_rfl) (fun _ _ _ h=>h) (Or.inl ⟨by rfl,?_⟩) (by assumption) ?_
     rotate_left
     ·intro wz hSw;obtain⟨q1,q2,q3,q4⟩:=QC.out wz hSw;clear hSw;go_simp;try with_reducible rfl
     dsimp only [Act.put,List.getElem_toArray,List.getElem_cons_zero,List.getElem_cons_succ]
     simp only [List.setIfInBounds_toArray,List.set_cons_zero,List.set_cons_succ]
     refine wpAnyH_take (i:=1) (oi:=_) (v:=?_) rfl (by kernel_rfl) (by kernel_rfl) (by kernel_rfl) (fun _ _ _ h=>h) (Or.inl ⟨by rfl,?_⟩) (by assumption) ?_
     rotate_left
     ·intro wz hSw;obtain⟨q1,q2,q3,q4⟩:=QC.out wz hSw;clear hSw;go_simp;try with_reducible rfl
     dsimp only [Act.put,List.getElem_toArray,List.getElem_cons_zero,List.getElem_cons_succ]
     simp only [List.setIfInBounds_toArray,List.set_cons_zero,List.set_cons_succ]
     refine wpAnyH_take (i:=2) (oi:=_) (v:=?_) rfl (by kernel_rfl) (by kernel_rfl) (by kernel_rfl) (fun _ _ _ h=>h) (Or.inl ⟨by rfl,?_⟩) (by assumption) ?_
     rotate_left
     ·intro wz hSw;obtain⟨q1,q2,q3,q4⟩:=QC.out wz hSw;clear hSw;go_simp;try with_reducible rfl
     dsimp only [Act.put,List.getElem_toArray,List.getElem_cons_zero,List.getElem_cons_succ]
     simp only [List.setIfInBounds_toArray,List.set_cons_zero,List.set_cons_succ]
     refine wpAnyH_take (i:=3) (oi:=_) (v:=?_) rfl (by kernel_rfl) (by kernel_rfl) (by kernel_rfl) (fun _ _ _ h=>h) (Or.inl ⟨by rfl,?_⟩) (by assumption) ?_
     rotate_left
     ·intro wz hSw;obtain⟨q1,q2,q3,q4⟩:=QC.out wz hSw;clear hSw;go_simp;try with_reducible rfl
     dsimp only [Act.put,List.getElem_toArray,List.getElem_cons_zero,List.getElem_cons_succ]
     simp only [List.setIfInBounds_toArray,List.set_cons_zero,List.set_cons_succ]
     refine wpAnyH_take (i:=4) (oi:=_) (v:=?_) rfl (by kernel_rfl) (by kernel_rfl) (by kernel_rfl) (fun _ _ _ h=>h) (Or.inl ⟨by rfl,?_⟩) (by assumption) ?_
     rotate_left
     ·intro wz hSw;obtain⟨q1,q2,q3,q4⟩:=QC.out wz hSw;clear hSw;go_simp;try with_reducible rfl
     dsimp only [Act.put,List.getElem_toArray,List.getElem_cons_zero,List.getElem_cons_succ]
     simp only [List.setIfInBounds_toArray,List.set_cons_zero,List.set_cons_succ]
     refine wpAnyH_take (i:=5) (oi:=_) (v:=?_) rfl (by kernel_rfl) (by kernel_rfl) (by kernel_rfl) (fun _ _ _ h=>h) (Or.inl ⟨by rfl,?_⟩) (by assumption) ?_
     rotate_left
     ·intro wz hSw;obtain⟨q1,q2,q3,q4⟩:=QC.out wz hSw;clear hSw;go_simp;try with_reducible rfl
     dsimp only [Act.put,List.getElem_toArray,List.getElem_cons_zero,List.getElem_cons_succ]
     simp only [List.setIfInBounds_toArray,List.set_cons_zero,List.set_cons_succ]
     refine wpAnyH_take (i:=6) (oi:=_) (v:=?_) rfl (by kernel_rfl) (by kernel_rfl) (by kernel_rfl) (fun _ _ _ h=>h) (Or.inl ⟨by rfl,?_⟩) (by assumption) ?_
     rotate_left
     ·intro wz hSw;obtain⟨q1,q2,q3,q4⟩:=QC.out wz hSw;clear hSw;go_simp;try with_reducible rfl
     dsimp only [Act.put,List.getElem_toArray,List.getElem_cons_zero,List.getElem_cons_succ]
     simp only [List.setIfInBounds_toArray,List.set_cons_zero,List.set_cons_succ]
     refine wpAnyH_take (i:=7) (oi:=_) (v:=?_) rfl (by kernel_rfl) (by kernel_rfl) (by kernel_rfl) (fun _ _ _ h=>h) (Or.inl ⟨by rfl,?_⟩) (by assumption) ?_
     rotate_left
     ·intro wz hSw;obtain⟨q1,q2,q3,q4⟩:=QC.out wz hSw;clear hSw;go_simp;try with_reducible rfl
     dsimp only [Act.put,List.getElem_toArray,List.getElem_cons_zero,List.getElem_cons_succ]
     simp only [List.setIfInBounds_toArray,List.set_cons_zero,List.set_cons_succ]
     refine wpAnyH_take (i:=8) (oi:=_) (v:=?_) rfl (by kernel_rfl) (by kernel_rfl) (by kernel_rfl) (fun _ _ _ h=>h) (Or.inl ⟨by rfl,?_⟩) (by assumption) ?_
     rotate_left
     ·intro wz hSw;obtain⟨q1,q2,q3,q4⟩:=QC.out wz hSw;clear hSw;go_simp;try with_reducible rfl
     dsimp only [Act.put,List.getElem_toArray,List.getElem_cons_zero,List.getElem_cons_succ]
     simp only [List.setIfInBounds_toArray,List.set_cons_zero,List.set_cons_succ]
     refine wpAnyH_take (i:=9) (oi:=_) (v:=?_) rfl (by kernel_rfl) (by kernel_rfl) (by kernel_rfl) (fun _ _ _ h=>h) (Or.inl ⟨by rfl,?_⟩) (by assumption) ?_
     rotate_left
     ·intro wz hSw;obtain⟨q1,q2,q3,q4⟩:=QC.out wz hSw;clear hSw;go_simp;try with_reducible rfl
     dsimp only [Act.put,List.getElem_toArray,List.getElem_cons_zero,List.getElem_cons_succ]
     simp only [List.setIfInBounds_toArray,List.set_cons_zero,List.set_cons_succ]
     refine wpAnyH_take (i:=10) (oi:=_) (v:=?_) rfl (by kernel_rfl) (by kernel_rfl) (by kernel_rfl) (fun _ _ _ h=>h) (Or.inl ⟨by rfl,?_⟩) (by assumption) ?_
     rotate_left
     ·intro wz hSw;obtain⟨q1,q2,q3,q4⟩:=QC.out wz hSw;clear hSw;go_simp;try with_reducible rfl
     dsimp only [Act.put,List.getElem_toArray,List.getElem_cons_zero,List.getElem_cons_succ]
     simp only [List.setIfInBounds_toArray,List.set_cons_zero,List.set_cons_succ]
     refine wpAnyH_take (i:=11) (oi:=_) (v:=?_) rfl (by kernel_rfl) (by kernel_rfl) (by kernel_rfl) (fun _ _ _ h=>h) (Or.inl ⟨by rfl,?_⟩) (by assumption) ?_
     rotate_left
     ·intro wz hSw;obtain⟨q1,q2,q3,q4⟩:=QC.out wz hSw;clear hSw;go_simp;try with_reducible rfl
     dsimp only [Act.put,List.getElem_toArray,List.getElem_cons_zero,List.getElem_cons_succ]
     simp only [List.setIfInBounds_toArray,List.set_cons_zero,List.set_cons_succ]
     refine wpAnyH_take (i:=12) (oi:=_) (v:=?_) rfl (by kernel_rfl) (by kernel_rfl) (by kernel_rfl) (fun _ _ _ h=>h) (Or.inl ⟨by rfl,?_⟩) (by assumption) ?_
     rotate_left
     ·intro wz hSw;obtain⟨q1,q2,q3,q4⟩:=QC.out wz hSw;clear hSw;go_simp;try with_reducible rfl
     dsimp only [Act.put,List.getElem_toArray,List.getElem_cons_zero,List.getElem_cons_succ]
     simp only [List.setIfInBounds_toArray,List.set_cons_zero,List.set_cons_succ]
     refine wpAnyH_take (i:=13) (oi:=_) (v:=?_) rfl (by kernel_rfl) (by kernel_rfl) (by kernel_rfl) (fun _ _ _ h=>h) (Or.inl ⟨by rfl,?_⟩) (by assumption) ?_
     rotate_left
     ·intro wz hSw;obtain⟨q1,q2,q3,q4⟩:=QC.out wz hSw;clear hSw;go_simp;try with_reducible rfl
     dsimp only [Act.put,List.getElem_toArray,List.getElem_cons_zero,List.getElem_cons_succ]
     simp only [List.setIfInBounds_toArray,List.set_cons_zero,List.set_cons_succ]
     refine wpAnyH_take (i:=14) (oi:=_) (v:=?_) rfl (by kernel_rfl) (by kernel_rfl) (by kernel_rfl) (fun _ _ _ h=>h) (Or.inl ⟨by rfl,?_⟩) (by assumption) ?_
     rotate_left
     ·intro wz hSw;obtain⟨q1,q2,q3,q4⟩:=QC.out wz hSw;clear hSw;go_simp;try with_reducible rfl
     dsimp only [Act.put,List.getElem_toArray,List.getElem_cons_zero,List.getElem_cons_succ]
     simp only [List.setIfInBounds_toArray,List.set_cons_zero,List.set_cons_succ]
     refine wpAnyH_take (i:=15) (oi:=_) (v:=?_) rfl (by kernel_rfl) (by kernel_rfl) (by kernel_rfl) (fun _ _ _ h=>h) (Or.inl ⟨by rfl,?_⟩) (by assumption) ?_
     rotate_left
     ·intro wz hSw;obtain⟨q1,q2,q3,q4⟩:=QC.out wz hSw;clear hSw;go_simp;try with_reducible rfl
     dsimp only [Act.put,List.getElem_toArray,List.getElem_cons_zero,List.getElem_cons_succ]
     simp only [List.setIfInBounds_toArray,List.set_cons_zero,List.set_cons_succ]
     refine wpAnyH_take (i:=16) (oi:=_) (v:=?_) rfl (by kernel_rfl) (by kernel_rfl) (by kernel_rfl) (fun _ _ _ h=>h) (Or.inl ⟨by rfl,?_⟩) (by assumption) ?_
     rotate_left
     ·intro wz hSw;obtain⟨q1,q2,q3,q4⟩:=QC.out wz hSw;clear hSw;go_simp;try with_reducible rfl
     dsimp only [Act.put,List.getElem_toArray,List.getElem_cons_zero,List.getElem_cons_succ]
     simp only [List.setIfInBounds_toArray,List.set_cons_zero,List.set_cons_succ]
     refine wpAnyH_take (i:=17) (oi:=_) (v:=?_) rfl (by kernel_rfl) (by kernel_rfl) (by kernel_rfl) (fun _ _ _ h=>h) (Or.inl ⟨by rfl,?_⟩) (by assumption) ?_
     rotate_left
     ·intro wz hSw;obtain⟨q1,q2,q3,q4⟩:=QC.out wz hSw;clear hSw;go_simp;try with_reducible rfl
     dsimp only [Act.put,List.getElem_toArray,List.getElem_cons_zero,List.getElem_cons_succ]
     simp only [List.setIfInBounds_toArray,List.set_cons_zero,List.set_cons_succ]
     refine wpAnyH_take (i:=18) (oi:=_) (v:=?_) rfl (by kernel_rfl) (by kernel_rfl) (by kernel_rfl) (fun _ _ _ h=>h) (Or.inl ⟨by rfl,?_⟩) (by assumption) ?_
     rotate_left
     ·intro wz hSw;obtain⟨q1,q2,q3,q4⟩:=QC.out wz hSw;clear hSw;go_simp;try with_reducible rfl
     dsimp only [Act.put,List.getElem_toArray,List.getElem_cons_zero,List.getElem_cons_succ]
     simp only [List.setIfInBounds_toArray,List.set_cons_zero,List.set_cons_succ]
     refine wpAnyH_take (i:=19) (oi:=_) (v:=?_) rfl (by kernel_rfl) (by kernel_rfl) (by kernel_rfl) (fun _ _ _ h=>h) (Or.inl ⟨by rfl,?_⟩) (by assumption) ?_
     rotate_left
     ·intro wz hSw;obtain⟨q1,q2,q3,q4⟩:=QC.out wz hSw;clear hSw;go_simp;try with_reducible rfl
     dsimp only [Act.put,List.getElem_toArray,List.getElem_cons_zero,List.getElem_cons_succ]
     simp only [List.setIfInBounds_toArray,List.set_cons_zero,List.set_cons_succ]
     refine wpAnyH_take (i:=20) (oi:=_) (v:=?_) rfl (by kernel_rfl) (by kernel_rfl) (by kernel_rfl) (fun _ _ _ h=>h) (Or.inl ⟨by rfl,?_⟩) (by assumption) ?_
     rotate_left
     ·intro wz hSw;obtain⟨q1,q2,q3,q4⟩:=QC.out wz hSw;clear hSw;go_simp;try with_reducible rfl
     dsimp only [Act.put,List.getElem_toArray,List.getElem_cons_zero,List.getElem_cons_succ]
     simp only [List.setIfInBounds_toArray,List.set_cons_zero,List.set_cons_succ]
     refine wpAnyH_take (i:=21) (oi:=_) (v:=?_) rfl (by kernel_rfl) (by kernel_rfl) (by kernel_rfl) (fun _ _ _ h=>h) (Or.inl ⟨by rfl,?_⟩) (by assumption) ?_
     rotate_left
     ·intro wz hSw;obtain⟨q1,q2,q3,q4⟩:=QC.out wz hSw;clear hSw;go_simp;try with_reducible rfl
     dsimp only [Act.put,List.getElem_toArray,List.getElem_cons_zero,List.getElem_cons_succ]
     simp only [List.setIfInBounds_toArray,List.set_cons_zero,List.set_cons_succ]
     refine wpAnyH_take (i:=22) (oi:=_) (v:=?_) rfl (by kernel_rfl) (by kernel_rfl) (by kernel_rfl) (fun _ _ _ h=>h) (Or.inl ⟨by rfl,?_⟩) (by assumption) ?_
     rotate_left
     ·intro wz hSw;obtain⟨q1,q2,q3,q4⟩:=QC.out wz hSw;clear hSw;go_simp;try with_reducible rfl
     dsimp only [Act.put,List.getElem_toArray,List.getElem_cons_zero,List.getElem_cons_succ]
     simp only [List.setIfInBounds_toArray,List.set_cons_zero,List.set_cons_succ]
     refine wpAnyH_take (i:=23) (oi:=_) (v:=?_) rfl (by kernel_rfl) (by kernel_rfl) (by kernel_rfl) (fun _ _ _ h=>h) (Or.inl ⟨by rfl,?_⟩) (by assumption) ?_
     rotate_left
     ·intro wz hSw;obtain⟨q1,q2,q3,q4⟩:=QC.out wz hSw;clear hSw;go_simp;try with_reducible rfl
     dsimp only [Act.put,List.getElem_toArray,List.getElem_cons_zero,List.getElem_cons_succ]
     simp only [List.setIfInBounds_toArray,List.set_cons_zero,List.set_cons_succ]
     refine wpAnyH_ready (rs:=[24]) (by kernel_rfl) (by simp) ?_
     refine AllReadyH.cons rfl (fun K hK=>?_) AllReadyH.nil
     go_simp
     refine hK.out _ _ (BD.out.alloc (by simp;omega) _) (fun hHeld2=>?_)
     clear hK K
     refine wpAnyH_ready (rs:=[25]) (by kernel_rfl) (by simp) ?_
     refine AllReadyH.cons rfl (fun K hK=>?_) AllReadyH.nil
     refine dH rfl _ _ 22 rfl W1.heap.size 48 t0 (.agg #[.int .i64 0,.int .i64 0]) 2 16 aO ti hz0 hz1 hz2 rfl (by decide) (.slice qo O.length co) O.length (aG O) (by simp [Act.eval]) (World.ownsRow.alloc RD.out (.cells #[.int .i64 cr.1,.int .i64 cr.2] 48)) ⟨wr.heap.size,0,none⟩ 1 1 [.int .i64 cr.1,.int .i64 cr.2] (by simp [Act.eval]) rfl (dQ _ _ _ _) (by simp [Value.oneCell']) (by unfold maxLen;omega) (by omega) (by simp;omega) ?_
     intro v' w6 hown' hgrow hblk
     obtain⟨g6,cap6,rfl⟩:=aM hown' (Nat.succ_pos _)
     have A6:Hid (RR W1.heap.size w6 (.slice (some ⟨g6,0,none⟩) (O.length+1) cap6) (O ++ [(cr.1,cr.2)])):=eL hown'
     have B6:Hid (Below W1.heap.size W1 w6):=aU (BD.out.alloc (by simp;omega) _) (World.ownsRow.alloc RD.out _) hgrow
     clear hown' hgrow hblk
     refine hK.out _ _ B6.out (fun hHeld3=>?_)
     clear hK K
     refine wpAnyH_ready (rs:=[26]) (by kernel_rfl) (by simp) ?_
     refine AllReadyH.cons rfl (fun K hK=>?_) AllReadyH.nil
     go_simp
     refine hK.out _ _ B6.out (fun hHeld4=>?_)
     clear hK K
     refine wpAnyH_done (by kernel_rfl) ?_ _
     all_goals (
      go_wp2
      go_roundw
      case rel=>exact⟨j+1,by omega,by go_num,eZ MN2.out.symm A6.out,B6.out⟩
      case measure=>simp [intOf];omega)
    ·have j1:¬ (j:Int) < (B.length:Int):=by omega
     have EE:Hid (cI (A.take (k+1)) B=O):=aB (by rw [PN.out,<- EO.out,List.take_of_length_le (by omega)])
     go_wp2
     go_roundw
     case rel=>exact⟨k+1,by omega,by go_num,eZ EE.out.symm RO.out,BB.out⟩
     case measure=>simp [intOf];omega
  ·have i1:¬ (k:Int) < (A.length:Int):=by omega
   have E:Hid (A.take k=A):=aB (List.take_of_length_le (by omega))
   rw [E.out] at RO
   have LN:Hid ((cI A B).length<=A0.length * B0.length):=aB (by rw [gG];exact Nat.mul_le_mul hla hlb)
   go_wp2_with (go_at_call 158;refine(jB RO.out.arg (qZ X5.out.2.1.fit X6.out.2.1.fit) (by have:=LN.out;omega)).mono ?_;rintro e w7 ⟨v7,C,rfl,h1,h2,h3,h4⟩;have X7:Hid (RR wr.heap.size w7 v7 C/\IsC C (In (cI A B))/\C.length<=(cI A B).length/\Below wr.heap.size wr w7):=⟨h1,h2,h3,h4⟩;clear h1 h2 h3 h4)
   go_ret
   have BZ:=aF BW.out BB.out lz9
   refine⟨_,_,rfl,X7.out.1.mono BZ.size,X7.out.2.1.to fun c=>?_,Nat.le_trans X7.out.2.2.1 LN.out,aF BZ X7.out.2.2.2 lz9⟩
   rw [tE,X5.out.2.1.mem,X6.out.2.1.mem]
end
theorem sE(m:Bool)(w:World):Calls Tryz.prog 48 #[.bool m] w fun e w'=>∃ v,e=.returned v/\RR w.heap.size w' v (bD m)/\Below w.heap.size w w':=by
 cases m with
 | true=>
  go_enter Tryz.func48,Tryz.ntmps48
  go_wp2
  go_ret
  exact⟨_,rfl,World.ownsRow_lit w #[.int .i64 0,.int .i64 55295,.int .i64 57344,.int .i64 1114111] 2 lz9 (by unfold maxLen;omega) rfl,bz9⟩
 | false=>
  go_enter Tryz.func48,Tryz.ntmps48
  go_wp2
  go_ret
  exact⟨_,rfl,World.ownsRow_lit w #[.int .i64 0,.int .i64 255] 1 lz9 (by unfold maxLen;omega) rfl,bz9⟩
theorem uP{w:World}{v:Value}{L:List (Int × Int)}{m:Bool}(h:ArgR w v L)(hF:Fit L)(hl:L.length<=1048580) :
  Calls Tryz.prog 97 #[v,.bool m] w (kG w (fun c=>In L c/\aI m c) (L.length * (bD m).length)):=by
 have H:Hid (ArgR w v L/\Fit L):=⟨h,hF⟩
 have hc:=cD m
 have HM:Hid (L.length * (bD m).length+1<=8796093022208):=aB (by have:=Nat.mul_le_mul hl hc;omega)
 clear h hF
 go_enter Tryz.func97,Tryz.ntmps97
 go_wp2_with first
  |(go_at_call 48;refine(sE m _).mono ?_;rintro e w5 ⟨v5,rfl,h1,h2⟩;have X5:Hid (RR w.heap.size w5 v5 (bD m)/\Below w.heap.size w w5):=⟨h1,h2⟩;clear h1 h2)
  |(go_at_call 139;refine(wR (H.out.1.kept X5.out.2) X5.out.1.arg H.out.2 (cJ m).fit (by omega) (by omega) HM.out).mono ?_;rintro e w6 ⟨v6,C6,rfl,h1,h2,h3,h4⟩;have X6:Hid (RR w5.heap.size w6 v6 C6/\IsC C6 (fun c=>In L c/\In (bD m) c)/\C6.length<=L.length * (bD m).length/\Below w5.heap.size w5 w6):=⟨h1,h2,h3,h4⟩;clear h1 h2 h3 h4)
 go_ret
 exact⟨_,_,rfl,X6.out.1.mono X5.out.2.size,X6.out.2.1.to fun c=>by rw [(cJ m).mem],X6.out.2.2.1,aF X5.out.2 X6.out.2.2.2 lz9⟩
theorem mE{w:World}{v:Value}{L:List (Int × Int)}{m:Bool}(h:ArgR w v L)(hF:Fit L)(hl:L.length<=1048580) :
  Calls Tryz.prog 47 #[v,.bool m] w fun e w'=>∃ b:Bool,e=.returned (.bool b)/\(b=true ↔ IsC L (fun c=>In L c/\aI m c))/\Below w.heap.size w w':=by
 have H:Hid (ArgR w v L/\Fit L):=⟨h,hF⟩
 clear h hF
 go_enter Tryz.func47,Tryz.ntmps47
 go_wp2_with first
  |(go_at_call 97;refine(uP H.out.1 H.out.2 hl).mono ?_;rintro e w5 ⟨v5,C5,rfl,h1,h2,h3,h4⟩;have X5:Hid (RR w.heap.size w5 v5 C5/\IsC C5 (fun c=>In L c/\aI m c)/\Below w.heap.size w w5):=⟨h1,h2,h4⟩;clear h1 h2 h3 h4)
  |(go_at_call 22;refine(lV (H.out.1.kept X5.out.2.2) X5.out.1.arg).mono ?_;obtain⟨bb,hbb⟩:∃ bb,decide (L=C5)=bb:=⟨_,rfl⟩;rw [hbb];have EB:Hid (decide (L=C5)=bb):=hbb;clear hbb;rintro e w7 ⟨rfl,h1⟩;have X7:Hid (Below w5.heap.size w5 w7):=h1;clear h1)
 go_ret
 refine⟨bb,rfl,?_,aF X5.out.2.2 X7.out lz9⟩
 rw [<- EB.out,decide_eq_true_iff]
 constructor
 ·intro e
  have h2:=X5.out.2.1
  rw [<- e] at h2
  exact h2
 ·intro e
  exact e.one X5.out.2.1 fun _=>Iff.rfl
theorem tC{c:Int}(h:aI true c):isC c=true:=by
 simp [aI,top] at h
 simp [isC]
 omega
theorem sF{c:Int}(w:World)(hc:isC c=true):Calls Tryz.prog 99 #[.int .i64 c] w fun e w'=>e=.returned (.string (txt (Lib.encodeRune c)))/\Below w.heap.size w w':=by
 have H1:=aB (xS c w)
 rw [hc] at H1
 have H2:=aB (uS c w hc)
 clear hc
 go_enter Tryz.func99,Tryz.ntmps99
 go_wp2_with first
  |(go_at_call 140;refine(H1.out).mono ?_;rintro e w2 ⟨rfl,rfl⟩)
  |(go_at_call 141;refine(H2.out).mono ?_;rintro e w3 ⟨rfl,h3⟩;have B3:=aB h3;clear h3)
 go_ret
 exact⟨rfl,B3.out⟩
theorem nK{c:Int}(m:Bool)(w:World)(hc:aI m c):Calls Tryz.prog 50 #[.int .i64 c,.bool m] w fun e w'=>e=.returned (.string (txt (dX m c)))/\Below w.heap.size w w':=by
 cases m with
 | true=>
  have H1:=aB (sF w (tC hc))
  clear hc
  go_enter Tryz.func50,Tryz.ntmps50
  go_wp2_with (go_at_call 99;refine(H1.out).mono ?_;rintro e w3 ⟨rfl,h3⟩;have B3:=aB h3;clear h3)
  go_ret
  exact⟨rfl,B3.out⟩
 | false=>
  have hr:0<=c/\c<=255:=by simpa [aI,top] using hc
  have hcv:=eS w [c] (by simp;omega)
  have w1:IntKind.wrap .u8 c=c:=by rw [IntKind.wrap_u8];omega
  simp only [List.map_cons,List.map_nil,List.length_cons,List.length_nil] at hcv
  clear hc
  go_enter Tryz.func50,Tryz.ntmps50
  go_wp2
  go_ret
  exact⟨rfl,(Below.refl _ w).alloc lz9 _⟩
theorem dC(m:Bool):dX m 91=[91]/\dX m 46=[46]/\dX m 93=[93]/\dX m 45=[45]/\dX m 94=[94]/\dX m 92=[92]:=by cases m <;> decide +kernel
theorem nC(m:Bool)(c:Int):(dX m c).length<=4:=by
 have:=eR m [c]
 simpa [aR] using this
theorem pX{c:Int}(m:Bool)(w:World)(hc:aI m c):Calls Tryz.prog 98 #[.int .i64 c,.bool m] w fun e w'=>e=.returned (.string (txt (aR m (cA c))))/\Below w.heap.size w w':=by
 have H1:=aB (nK m w hc)
 have hl:=nC m c
 obtain⟨u1,u2,u3,u4,u5,u6⟩:=dC m
 have EO:Hid (spE c=false->aR m (cA c)=dX m c):=fun h=>by simp [cA,h,aR]
 have ES:Hid (spE c=true->aR m (cA c)=[91,46] ++ dX m c ++ [46,93]):=fun h=>by simp [cA,h,aR,u1,u2,u3]
 clear u1 u2 u3 u4 u5 u6 hc
 by_cases hs:spE c=true
 ·have E:=aB (ES.out hs)
  have hd:c=93\/c=91\/c=45\/c=94:=by simp [spE] at hs;omega
  clear hs EO ES
  generalize hD:dX m c=D at H1 hl E
  clear hD
  have hz:=aK D
  have hz1:(txt D).size<=4:=by omega
  have A1:(⟨#[91,46]⟩:ByteArray) ++ txt D=txt ([91,46] ++ D):=bB [91,46] D
  have A2:txt ([91,46] ++ D) ++ (⟨#[46,93]⟩:ByteArray)=txt ([91,46] ++ D ++ [46,93]):=bB _ [46,93]
  have hz2:(txt ([91,46] ++ D)).size<=6:=by rw [aK];simp;omega
  generalize [91,46] ++ D ++ [46,93]=D2 at A2 E
  generalize [91,46] ++ D=D1 at A1 A2 hz2
  rcases hd with rfl | rfl | rfl | rfl
  all_goals
   go_enter Tryz.func98,Tryz.ntmps98
   go_wp2_with (go_at_call 50;refine(H1.out).mono ?_;rintro e w3 ⟨rfl,h3⟩;have B3:=aB h3;clear h3)
   all_goals first |(exfalso;rename_i hh;simp only [aK] at hh;omega) | skip
   go_ret
   exact⟨by rw [E.out];rfl,B3.out⟩
 ·have hs':spE c=false:=by simpa using hs
  have E:=aB (EO.out hs')
  have q1:(c==93)=false:=by simp [spE] at hs';simp;omega
  have q2:(c==91)=false:=by simp [spE] at hs';simp;omega
  have q3:(c==45)=false:=by simp [spE] at hs';simp;omega
  have q4:(c==94)=false:=by simp [spE] at hs';simp;omega
  clear hs hs' EO ES
  go_enter Tryz.func98,Tryz.ntmps98
  go_wp2_with (go_at_call 50;refine(H1.out).mono ?_;rintro e w3 ⟨rfl,h3⟩;have B3:=aB h3;clear h3)
  go_ret
  exact⟨by rw [E.out];rfl,B3.out⟩
theorem jC{w:World}{v:Value}{L:List (Int × Int)}(m:Bool)(h:ArgR w v L)(hl:L.length<=600000)(hc:∀ r∈L,aI m r.1/\aI m r.2) :
  Calls Tryz.prog 49 #[v,.bool m] w fun e w'=>e=.returned (.string (txt (aR m (bN L))))/\Below w.heap.size w w':=by
 obtain⟨q,cap,rfl,hlen,-,hcells⟩:=h.slice
 have HC:Hid (∀ (i:Nat) (r:Int × Int),L[i]?=some r->∃ g off,q=some ⟨g,off,none⟩/\g < w.heap.size/\w.cell? ⟨g,off+2 * i,none⟩=some (.int .i64 r.1)/\w.cell? ⟨g,off+2 * i+1,none⟩=some (.int .i64 r.2)):=hcells
 have HF:=aB hc
 clear h hcells hc hlen
 go_enter Tryz.func49,Tryz.ntmps49
 go_wp2
 go_loopw [5,6] (fun s i wr=>∃ k:Nat,k<=L.length/\i=.int .i64 (k:Int)/\s=.string (txt (aR m (bN (L.take k))))/\Below w.heap.size w wr) (fun _ i _=>L.length - (intOf i).toNat)
 case atStart=>exact⟨0,Nat.zero_le _,rfl,rfl,Below.refl _ _⟩
 case round=>
  obtain⟨k,hk,rfl,rfl,hB⟩:=hrel
  have B:=aB hB
  have hsz:=hB.size
  clear hB
  obtain⟨A,hA⟩:∃ A,aR m (bN (L.take k))=A:=⟨_,rfl⟩
  have HA:=aB hA
  have hAl:A.length<=26400000:=by
   rw [<- hA]
   have h1:=eR m (bN (L.take k))
   have h2:=gD (L.take k)
   have:(L.take k).length<=L.length:=by simp;omega
   omega
  rw [hA]
  clear hA
  by_cases hlt:k < L.length
  ·obtain⟨r,hr⟩:∃ r,L[k]?=some r:=⟨_,List.getElem?_eq_getElem hlt⟩
   obtain⟨g,off,rfl,hg,x1,x2⟩:=HC.out k r hr
   have d1:=(B.out.cell (p:=⟨g,off+2 * k,none⟩) hg).trans x1
   have d2:=(B.out.cell (p:=⟨g,off+2 * k+1,none⟩) hg).trans x2
   rw [Nat.mul_comm] at d1 d2
   have hgr:g < wr.heap.size:=Nat.lt_of_lt_of_le hg hsz
   have NX:Hid (aR m (bN (L.take (k+1)))=A ++ aR m (dO r)):=by
    show aR m (bN (L.take (k+1)))=A ++ aR m (dO r)
    obtain⟨hk',rfl⟩:=List.getElem?_eq_some_iff.1 hr
    rw [bC L k hk',kM,eA,HA.out]
   obtain⟨f0,f1⟩:=HF.out r (List.mem_of_getElem? hr)
   have i0:(0:Int)<=(k:Int):=by omega
   have i1:(k:Int) < (L.length:Int):=by omega
   have hwr:IntKind.wrap .i64 ((k:Int)+1)=(k:Int)+1:=wrap_small _ (by omega) (by omega)
   clear x1 x2 hr
   obtain⟨lo,hi'⟩:=r
   dsimp only at d1 d2 f0 f1
   have E1:=aB (pX m wr f0)
   have E2:=aB (fun W=>pX m W f1)
   have l1:(aR m (cA lo)).length<=20:=by have:=eR m (cA lo);have:=eP lo;omega
   have l2:(aR m (cA hi')).length<=20:=by have:=eR m (cA hi');have:=eP hi';omega
   clear f0 f1
   by_cases hgt:lo < hi'
   ·have E:Hid (aR m (dO (lo,hi'))=aR m (cA lo) ++ [45] ++ aR m (cA hi')):=by
     show aR m (dO (lo,hi'))=_
     unfold dO
     rw [if_pos hgt,eA,fG,(dC m).2.2.2.1]
     simp
    generalize aR m (cA lo)=X at E1 l1 E
    generalize aR m (cA hi')=Y at E2 l2 E
    have z1:(txt A).size<=26400000:=by rw [aK];exact hAl
    have z2:(txt X).size<=20:=by rw [aK];exact l1
    have z3:(txt Y).size<=20:=by rw [aK];exact l2
    have z4:(txt (A ++ X)).size<=26400020:=by rw [aK];simp;omega
    have z5:(txt (A ++ X ++ [45])).size<=26400021:=by rw [aK];simp;omega
    have A1:txt A ++ txt X=txt (A ++ X):=bB _ _
    have A2:txt (A ++ X) ++ (⟨#[45]⟩:ByteArray)=txt (A ++ X ++ [45]):=bB _ [45]
    have A3:txt (A ++ X ++ [45]) ++ txt Y=txt (A ++ X ++ [45] ++ Y):=bB _ _
    have E3:Hid (A ++ (X ++ [45] ++ Y)=A ++ X ++ [45] ++ Y):=by show A ++ (X ++ [45] ++ Y)=_;simp
    generalize A ++ X ++ [45] ++ Y=P3 at A3 E3
    generalize A ++ X ++ [45]=P2 at A2 A3 z5
    generalize A ++ X=P1 at A1 A2 z4
    go_upto_region 6 with (go_at_call 98;refine(E1.out).mono ?_;rintro e w5 ⟨rfl,h5⟩;have B5:=aB (aF B.out h5 lz9);have e1:=(h5.cell (p:=⟨g,off+k * 2,none⟩) hgr).trans d1;have e2:=(h5.cell (p:=⟨g,off+k * 2+1,none⟩) hgr).trans d2;have hgr5:g < w5.heap.size:=Nat.lt_of_lt_of_le hgr h5.size;clear h5)
    all_goals first |(exfalso;rename_i hh;simp only [aK] at hh;omega) | skip
    clear d1 d2
    go_region_with fail
    all_goals go_wp2_with (go_at_call 98;refine(E2.out _).mono ?_;rintro e w6 ⟨rfl,h6⟩;have B6:=aB (aF B5.out.drew h6 lz9);clear h6)
    all_goals first |(exfalso;rename_i hh;simp only [aK] at hh;omega) | skip
    all_goals (
     go_roundw
     case rel=>exact⟨k+1,by omega,by go_num,by rw [NX.out,E.out,E3.out],B6.out⟩
     case measure=>simp [intOf];omega)
   ·have E:Hid (aR m (dO (lo,hi'))=aR m (cA lo)):=by
     show aR m (dO (lo,hi'))=_
     unfold dO
     rw [if_neg hgt,List.append_nil]
    generalize aR m (cA lo)=X at E1 l1 E
    have z1:(txt A).size<=26400000:=by rw [aK];exact hAl
    have z2:(txt X).size<=20:=by rw [aK];exact l1
    have A1:txt A ++ txt X=txt (A ++ X):=bB _ _
    go_upto_region 6 with (go_at_call 98;refine(E1.out).mono ?_;rintro e w5 ⟨rfl,h5⟩;have B5:=aB (aF B.out h5 lz9);have e1:=(h5.cell (p:=⟨g,off+k * 2,none⟩) hgr).trans d1;have e2:=(h5.cell (p:=⟨g,off+k * 2+1,none⟩) hgr).trans d2;have hgr5:g < w5.heap.size:=Nat.lt_of_lt_of_le hgr h5.size;clear h5)
    all_goals first |(exfalso;rename_i hh;simp only [aK] at hh;omega) | skip
    clear d1 d2
    go_region_with fail
    all_goals go_wp2
    all_goals (
     go_roundw
     case rel=>exact⟨k+1,by omega,by go_num,by rw [NX.out,E.out],B5.out.drew⟩
     case measure=>simp [intOf];omega)
  ·obtain rfl:k=L.length:=by omega
   rw [List.take_length] at HA
   go_wp2
   go_ret
   exact⟨by rw [HA.out];rfl,B.out⟩
section
attribute [local go_sem] aT
theorem oW(m:Bool):bD m=bU m:=by cases m <;> rfl
theorem vD(m:Bool):∀ r∈bU m,aI m r.1/\aI m r.2:=by cases m <;> simp [bU,aI,top]
theorem mW{m:Bool}{L:List (Int × Int)}(hS:IsC L (fun x=>In L x/\aI m x)):∀ r∈L,aI m r.1/\aI m r.2:=fun r hr=>by
 have h1:=fM (f:=false) ⟨hS,fun q=>by cases q⟩ r hr
 exact⟨h1.1,h1.2.1⟩
structure CM(w:World)(m:Md)(v:Value)(L:List (Int × Int))(W:World):Prop where
 md:W.heap[w.heap.size]?=some (.cells #[.bool m.c,.bool m.f] 27 (0,0))
 bel:Below w.heap.size w W
 arg:ArgR W v L
theorem CM.kept{w:World}{m:Md}{v:Value}{L:List (Int × Int)}{W W':World}(h:CM w m v L W)(hb:Below W.heap.size W W'):CM w m v L W':=⟨(hb.block _ (aC h.md)).trans h.md,aF h.bel hb lz9,h.arg.kept hb⟩
theorem CM.new{w:World}(m:Md){v:Value}{L:List (Int × Int)}(h:ArgR w v L):CM w m v L (w.alloc (.cells #[.bool m.c,.bool m.f] 27)):=
 have B:Below w.heap.size w (w.alloc (.cells #[.bool m.c,.bool m.f] 27)):=bz9
 ⟨aE w _,B,h.kept B⟩
theorem oH{w:World}{v:Value}{L:List (Int × Int)}(m:Md)(h:ArgR w v L)(hF:Fit L)(hl:L.length<=1048580)(hS:¬ IsC L (fun x=>In L x/\aI m.c x)) :
  Calls Tryz.prog 21 #[v,.agg #[.bool m.c,.bool m.f]] w fun e w'=>e=.returned (.tuple #[.string (txt []),.int .i64 50])/\Below w.heap.size w w':=by
 have L1:=aB (CM.new m h)
 have RT:=aB (mE (m:=m.c) L1.out.arg hF hl)
 have HS:=aB hS
 obtain⟨q,cap,rfl,-,-,-⟩:=h.slice
 clear h hF hS
 go_enter Tryz.func21,Tryz.ntmps21
 go_upto_region 1 with fail
 generalize (w.alloc (.cells #[.bool m.c,.bool m.f] 27))=w1 at L1 RT ⊢
 have a0:=aA L1.out.md (i:=0) rfl
 have a1:=aA L1.out.md (i:=1) rfl
 go_wp2_with (go_at_call 47;refine(RT.out).mono ?_;rintro e w2 ⟨b,rfl,h1,h2⟩;have L2:=aB (L1.out.kept h2);have hb:b=false:=(by cases b with | false=>rfl | true=>exact absurd (h1.1 rfl) HS.out);subst hb;clear h1 h2)
 go_ret2
 exact⟨rfl,L2.out.bel⟩
theorem qK{w:World}{v:Value}{L:List (Int × Int)}(m:Md)(h:ArgR w v L)(hF:Fit L)(hl:L.length<=1048580)(hS:IsC L (fun x=>In L x/\aI m.c x)) :
  Calls Tryz.prog 21 #[v,.agg #[.bool m.c,.bool m.f]] w fun e w'=>e=.returned (.tuple #[.string (txt (dM m.c L)),.int .i64 0])/\Below w.heap.size w w':=by
 have hlen:L.length<=600000:=eK hS
 have L1:=aB (CM.new m h)
 have RT:=aB (mE (m:=m.c) L1.out.arg hF hl)
 have HS:=aB hS
 have AL:=aB (fun W=>sE m.c W)
 have RA:=aB (fun (W:World) (u:Value) (hu:ArgR W u (bU m.c))=>jC m.c hu (by cases m.c <;> simp [bU]) (vD m.c))
 have RL:=aB (fun (W:World) (hW:CM w m v L W)=>jC m.c hW.arg hlen (mW hS))
 have HE:=aB (mW hS)
 obtain⟨o,ho⟩:∃ o,dM m.c L=o:=⟨_,rfl⟩
 have hol:o.length<=28000000:=by rw [<- ho];exact gQ hS
 rw [ho]
 unfold dM cR at ho
 obtain⟨q,cap,rfl,hlm,-,hcells⟩:=h.slice
 have CL:=aB hcells
 clear h hF hl hS hcells
 go_enter Tryz.func21,Tryz.ntmps21
 go_upto_region 1 with fail
 generalize (w.alloc (.cells #[.bool m.c,.bool m.f] 27))=w1 at L1 RT ⊢
 have a0:=aA L1.out.md (i:=0) rfl
 have a1:=aA L1.out.md (i:=1) rfl
 go_upto_region 2 with (go_at_call 47;refine(RT.out).mono ?_;rintro e w2 ⟨b,rfl,h1,h2⟩;have L2:=aB (L1.out.kept h2);have hb:b=true:=h1.2 HS.out;subst hb;clear h1 h2)
 clear a0 a1 L1 RT
 have a0:=aA L2.out.md (i:=0) rfl
 go_upto_region 5 with (go_at_call 48;refine(AL.out w2).mono ?_;rintro e w3 ⟨va,rfl,h1,h2⟩;rw [oW] at h1;have L3:=aB (L2.out.kept h2);have V3:=aB h1;clear h1 h2)
 clear a0
 have KA:=aB (lV L3.out.arg V3.out.arg)
 obtain⟨bq,hbq⟩:∃ b,decide (L=bU m.c)=b:=⟨_,rfl⟩
 rw [hbq] at KA
 obtain⟨qa,ca,rfl⟩:=aJ V3.out
 go_upto_region 6 with (go_at_call 22;refine(KA.out).mono ?_;rintro e w4 ⟨rfl,h2⟩;have L4:=aB (L3.out.kept h2);have V4:=aB (V3.out.arg.kept h2);clear h2)
 have a0:=aA L4.out.md (i:=0) rfl
 clear KA
 by_cases h0:L=[]
 ·subst h0
  rw [if_pos rfl,eA,eA] at ho
  have RA2:=aB (RA.out _ _ V4.out)
  have E:=aB ho
  have e1:aR m.c [91,94]=[91,94]:=by simp [aR,(dC m.c).1,(dC m.c).2.2.2.2.1]
  have e2:aR m.c [93]=[93]:=by simp [aR,(dC m.c).2.2.1]
  rw [e1,e2] at E
  clear ho e1 e2 RA
  have hD:(aR m.c (bN (bU m.c))).length<=28000000:=by rw [<- E.out] at hol;simp at hol;omega
  generalize aR m.c (bN (bU m.c))=D at RA2 E hD
  have z1:(txt D).size<=28000000:=by rw [aK];exact hD
  have A1:(⟨#[91,94]⟩:ByteArray) ++ txt D=txt ([91,94] ++ D):=bB [91,94] D
  have A2:txt ([91,94] ++ D) ++ (⟨#[93]⟩:ByteArray)=txt ([91,94] ++ D ++ [93]):=bB _ [93]
  have z2:(txt ([91,94] ++ D)).size<=28000002:=by rw [aK];simp;omega
  rw [E.out] at A2
  generalize [91,94] ++ D=D1 at A1 A2 z2
  go_wp2_with (go_at_call 49;refine(RA2.out).mono ?_;rintro e w5 ⟨rfl,h2⟩;have L5:=aB (L4.out.kept h2);clear h2)
  all_goals first |(exfalso;rename_i hh;simp only [aK] at hh;omega) | skip
  go_ret2
  exact⟨rfl,L5.out.bel⟩
 ·rw [if_neg h0] at ho
  have hpos:0 < L.length:=List.length_pos_iff.2 h0
  have q0:((L.length:Int)==0)=false:=by simp;omega
  by_cases hA:L=bU m.c
  ·rw [if_pos hA] at ho
   rw [decide_eq_true hA] at hbq
   subst hbq
   have e1:aR m.c [46]=[46]:=by simp [aR,(dC m.c).2.1]
   rw [e1] at ho
   subst ho
   clear hA h0 e1
   go_wp2
   go_ret2
   exact⟨rfl,L4.out.bel⟩
  ·rw [if_neg hA] at ho
   rw [decide_eq_false hA] at hbq
   subst hbq
   obtain⟨r,hr⟩:∃ r,L[0]?=some r:=⟨_,List.getElem?_eq_getElem hpos⟩
   obtain⟨g,off,rfl,hg,x1,x2⟩:=CL.out 0 r hr
   have hd:L.headD (0,0)=r:=by
    cases L with
    | nil=>cases hr
    | cons y l=>simp at hr;simpa using hr
   rw [hd] at ho
   have d1:=(L4.out.bel.cell (p:=⟨g,off+2 * 0,none⟩) hg).trans x1
   have d2:=(L4.out.bel.cell (p:=⟨g,off+2 * 0+1,none⟩) hg).trans x2
   have hg4:g < w4.heap.size:=Nat.lt_of_lt_of_le hg L4.out.bel.size
   have HR:=aB (HE.out r (List.mem_of_getElem? hr))
   obtain⟨lo,hi'⟩:=r
   simp only [Nat.mul_zero,Nat.add_zero] at d1 d2
   dsimp only at ho HR
   clear x1 x2 hr hd h0 CL
   by_cases h1:L.length=1/\lo=hi'
   ·rw [if_pos h1] at ho
    obtain⟨hl1,rfl⟩:=h1
    have q1:decide ((1:Int) < (L.length:Int))=false:=decide_eq_false (by omega)
    have q2:(lo != lo)=false:=by simp
    have i0:(0:Int) < (L.length:Int):=by omega
    have CH:=aB (fun W=>nK m.c W HR.out.1)
    have hD:(dX m.c lo).length<=4:=nC m.c lo
    have E:=aB ho
    clear ho RA RL AL
    go_upto_region 10 with fail
    refine wx9 ?_
    repeat (go_big_quiet_step (first | exact rfl))
    refine wpQuiet_nil ?_
    intro w5 hw
    have k1:=((aL hw).cell (p:=⟨g,off,none⟩) hg4).trans d1
    have hg5:g < w5.heap.size:=Nat.lt_of_lt_of_le hg4 (aL hw).size
    have L5:=aB (L4.out.kept (aL hw))
    clear hw d1 d2 a0 q1 q2
    have a0:=aA L5.out.md (i:=0) rfl
    by_cases hs:spA lo=true
    ·have E2:Hid ([92] ++ dX m.c lo=o):=by
      show [92] ++ dX m.c lo=o
      rw [<- E.out]
      simp [cH,hs,aR,(dC m.c).2.2.2.2.2]
     have hd:lo=46\/lo=91\/lo=42\/lo=94\/lo=36\/lo=92:=by simp [spA] at hs;omega
     clear hs E
     generalize hD0:dX m.c lo=D at CH hD E2
     clear hD0
     have z1:(txt D).size<=4:=by rw [aK];exact hD
     have A1:(⟨#[92]⟩:ByteArray) ++ txt D=txt ([92] ++ D):=bB [92] D
     rw [E2.out] at A1
     rcases hd with rfl | rfl | rfl | rfl | rfl | rfl
     all_goals
      go_wp2_with (go_at_call 50;refine(CH.out _).mono ?_;rintro e w6 ⟨rfl,h6⟩;have L6:=aB (L5.out.kept h6);clear h6)
      all_goals first |(exfalso;rename_i hh;simp only [aK] at hh;omega) | skip
      go_ret2
      exact⟨rfl,L6.out.bel⟩
    ·have hs':spA lo=false:=by simpa using hs
     have E2:Hid (dX m.c lo=o):=by
      show dX m.c lo=o
      rw [<- E.out]
      simp [cH,hs',aR]
     have p1:(lo==46)=false:=by simp [spA] at hs';simp;omega
     have p2:(lo==91)=false:=by simp [spA] at hs';simp;omega
     have p3:(lo==42)=false:=by simp [spA] at hs';simp;omega
     have p4:(lo==94)=false:=by simp [spA] at hs';simp;omega
     have p5:(lo==36)=false:=by simp [spA] at hs';simp;omega
     have p6:(lo==92)=false:=by simp [spA] at hs';simp;omega
     clear hs hs' E
     go_wp2_with (go_at_call 50;refine(CH.out _).mono ?_;rintro e w6 ⟨rfl,h6⟩;have L6:=aB (L5.out.kept h6);clear h6)
     go_ret2
     exact⟨by rw [<- E2.out];rfl,L6.out.bel⟩
   ·rw [if_neg h1,eA,eA] at ho
    have e1:aR m.c [91]=[91]:=by simp [aR,(dC m.c).1]
    have e2:aR m.c [93]=[93]:=by simp [aR,(dC m.c).2.2.1]
    rw [e1,e2] at ho
    have E:=aB ho
    clear ho e1 e2 RA AL
    have hD:(aR m.c (bN L)).length<=28000000:=by rw [<- E.out] at hol;simp at hol;omega
    generalize aR m.c (bN L)=D at RL E hD
    have z1:(txt D).size<=28000000:=by rw [aK];exact hD
    have A1:(⟨#[91]⟩:ByteArray) ++ txt D=txt ([91] ++ D):=bB [91] D
    have A2:txt ([91] ++ D) ++ (⟨#[93]⟩:ByteArray)=txt ([91] ++ D ++ [93]):=bB _ [93]
    have z2:(txt ([91] ++ D)).size<=28000001:=by rw [aK];simp;omega
    rw [E.out] at A2
    generalize [91] ++ D=D1 at A1 A2 z2
    have i0:(0:Int) < (L.length:Int):=by omega
    by_cases h2:1 < L.length
    ·have q1:decide ((1:Int) < (L.length:Int))=true:=decide_eq_true (by omega)
     go_upto_region 10 with fail
     refine wx9 ?_
     repeat (go_big_quiet_step (first | exact rfl))
     refine wpQuiet_nil ?_
     intro w5 hw
     have L5:=aB (L4.out.kept (aL hw))
     clear hw d1 d2 a0 q1
     have a0:=aA L5.out.md (i:=0) rfl
     go_wp2_with (go_at_call 49;refine(RL.out _ L5.out).mono ?_;rintro e w6 ⟨rfl,h6⟩;have L6:=aB (L5.out.kept h6);clear h6)
     all_goals first |(exfalso;rename_i hh;simp only [aK] at hh;omega) | skip
     go_ret2
     exact⟨rfl,L6.out.bel⟩
    ·have q1:decide ((1:Int) < (L.length:Int))=false:=decide_eq_false (by omega)
     have q2:(lo != hi')=true:=by simp;exact fun e=>h1 ⟨by omega,e⟩
     go_upto_region 10 with fail
     refine wx9 ?_
     repeat (go_big_quiet_step (first | exact rfl))
     refine wpQuiet_nil ?_
     intro w5 hw
     have L5:=aB (L4.out.kept (aL hw))
     clear hw d1 d2 a0 q1
     have a0:=aA L5.out.md (i:=0) rfl
     go_wp2_with (go_at_call 49;refine(RL.out _ L5.out).mono ?_;rintro e w6 ⟨rfl,h6⟩;have L6:=aB (L5.out.kept h6);clear h6)
     all_goals first |(exfalso;rename_i hh;simp only [aK] at hh;omega) | skip
     go_ret2
     exact⟨rfl,L6.out.bel⟩
end
theorem uI{w:World}(hG:Glb w){a b:Int}(hb:gU a b=true):Calls Tryz.prog 55 #[.int .i64 a,.int .i64 b] w fun e w'=>e=.returned (.string (txt (cX a b)))/\Below w.heap.size w w':=by
 have hbd:0<=a/\a<=255/\(b=-1\/(a<=b/\b<=255)):=by
  simp only [gU,Bool.and_eq_true,Bool.or_eq_true,decide_eq_true_eq,beq_iff_eq] at hb
  omega
 clear hb
 by_cases c1:a=0/\b=-1
 ·obtain⟨rfl,rfl⟩:=c1
  go_enter Tryz.func55,Tryz.ntmps55
  go_wp2
  go_ret
  exact⟨rfl,Below.refl _ _⟩
 by_cases c2:a=1/\b=-1
 ·obtain⟨rfl,rfl⟩:=c2
  go_enter Tryz.func55,Tryz.ntmps55
  go_wp2
  go_ret
  exact⟨rfl,Below.refl _ _⟩
 by_cases c3:a=0/\b=1
 ·obtain⟨rfl,rfl⟩:=c3
  go_enter Tryz.func55,Tryz.ntmps55
  go_wp2
  go_ret
  exact⟨rfl,Below.refl _ _⟩
 have E:Hid (cX a b=[92,123] ++ bR a.toNat ++ (if b=a then [] else if b=-1 then [44] else 44 :: bR b.toNat) ++ [92,125]):=by
  show cX a b=_
  unfold cX
  rw [if_neg c1,if_neg c2,if_neg c3]
 have HA:=aB (fun W (hW:Below w.heap.size w W)=>fS (hG.kept hW).2.2 (n:=a) hbd.1 hbd.2.1)
 have l3:=dR hbd.1 hbd.2.1
 obtain⟨D,hD⟩:∃ D,bR a.toNat=D:=⟨_,rfl⟩
 rw [hD] at HA E l3
 clear hD
 have hB:Hid (∀ W,Below w.heap.size w W->b≠-1->Calls Tryz.prog 54 #[.int .i64 b] W fun e w'=>e=.returned (.string (txt (bR b.toNat)))/\Below W.heap.size W w'):=fun W hW q=>fS (hG.kept hW).2.2 (n:=b) (by omega) (by omega)
 have l4:b≠-1->(bR b.toNat).length<=3:=fun q=>dR (by omega) (by omega)
 obtain⟨D2,hD2⟩:∃ D,bR b.toNat=D:=⟨_,rfl⟩
 rw [hD2] at hB E l4
 clear hD2 hG
 have hz:=aK D
 have hz2:=aK D2
 have A1:=bB
 have t44:(⟨#[44]⟩:ByteArray)=txt [44]:=rfl
 have t1:(⟨#[92,123]⟩:ByteArray)=txt [92,123]:=rfl
 have t2:(⟨#[92,125]⟩:ByteArray)=txt [92,125]:=rfl
 obtain⟨x0,e0⟩:∃ x,(a==0)=x:=⟨_,rfl⟩
 obtain⟨x1,e1⟩:∃ x,(a==1)=x:=⟨_,rfl⟩
 obtain⟨y0,e2⟩:∃ x,(b==-1)=x:=⟨_,rfl⟩
 obtain⟨y1,e3⟩:∃ x,(b==1)=x:=⟨_,rfl⟩
 obtain⟨z,e4⟩:∃ x,(b==a)=x:=⟨_,rfl⟩
 have F:Hid (cX a b=[92,123] ++ D ++ (if z then [] else if y0 then [44] else 44 :: D2) ++ [92,125]):=by
  show cX a b=_
  rw [E.out,<- e4,<- e2]
  simp only [beq_iff_eq]
 have K:Hid ((x0 && y0)=false/\(x1 && y0)=false/\(x0 && y1)=false/\(x0 && x1)=false/\(y0 && y1)=false/\(y0 && z)=false/\(y0=false->b≠-1)):=by
  refine aB ?_
  rw [<- e0,<- e1,<- e2,<- e3,<- e4]
  simp only [Bool.and_eq_false_iff,beq_eq_false_iff_ne]
  omega
 have K1:=K.out
 clear E c1 c2 c3 hbd
 cases x0 <;> cases x1 <;> cases y0 <;> cases y1 <;> cases z <;> simp at K1
 all_goals
  have NB:=aB (K.out.2.2.2.2.2.2)
  have l5:D2.length<=3\/true=true:=.inr rfl
  first |(have l6:=l4 (NB.out (by trivial));clear l5) | skip
  clear K K1 A1
  go_enter Tryz.func55,Tryz.ntmps55
  go_wp2_with first
   |(go_at_call 54;(with_reducible refine(HA.out _ (Below.refl _ _)).mono ?_);rintro e w2 ⟨rfl,h2⟩;have B2:=aB h2;clear h2)
   |(go_at_call 54;refine(hB.out _ B2.out (NB.out (by trivial))).mono ?_;rintro e w3 ⟨rfl,h3⟩;have B3:=aB (aF B2.out h3 lz9);clear h3)
  all_goals first |(exfalso;rename_i hh;simp only [aK,List.length_cons,List.length_nil] at hh;omega) | skip
  go_ret
  refine⟨?_,?_⟩
  ·rw [F.out]
   simp only [bB]
   simp
  ·first | exact B3.out | exact B2.out
section
open Go
mutual
def prE(c:Bool):Er->List UInt8
 | .mk k n mn mx rs ks=>if k=2 then dM c rs else if k=3 then [94] else if k=4 then [36] else if k=5 then bZ c [] ks else if k=6 then bZ c [92,124] ks
  else if k=7 then [92,40] ++ bZ c [] ks ++ [92,41] else if k=8 then 92 :: bR n.toNat else if k=9 then bZ c [] ks ++ cX mn mx else []
def bZ(c:Bool)(sep:List UInt8):List Er->List UInt8
 | []=>[]
 | x :: l=>prE c x ++ eJ c sep l
def eJ(c:Bool)(sep:List UInt8):List Er->List UInt8
 | []=>[]
 | x :: l=>sep ++ prE c x ++ eJ c sep l
end
end
def WR(l x l':List UInt8):Prop:=l'=l ++ x\/(2000 < l'.length/\2000 < (l ++ x).length/\l'.length<=(l ++ x).length)
theorem WR.refl(l x:List UInt8):WR l x (l ++ x):=.inl rfl
theorem WR.len{l x l':List UInt8}(h:WR l x l'):l'.length<=l.length+x.length:=by
 rcases h with rfl | ⟨_,_,h⟩
 ·simp
 ·simpa using h
theorem WR.trans{l x y l' l'':List UInt8}(h:WR l x l')(k:WR l' y l''):WR l (x ++ y) l'':=by
 unfold WR at *
 rw [<- List.append_assoc]
 simp only [List.length_append] at *
 rcases h with rfl | ⟨h1,h2,h3⟩
 ·simpa using k
 ·right
  rcases k with rfl | ⟨k1,k2,k3⟩
  ·simp only [List.length_append];omega
  ·omega
theorem WR.long{l:List UInt8}(h:2000 < l.length)(x:List UInt8):WR l x l:=.inr ⟨h,by simp;omega,by simp⟩
theorem WR.none(l:List UInt8):WR l [] l:=.inl (by simp)
abbrev wD(c f:Bool):List Value:=[.bool c,.bool f]
abbrev PR(base:Nat)(w:World)(b:Nat)(c f:Bool)(l:List UInt8):Prop:=BL 56 base w b (wD c f) l
abbrev PrPost(base:Nat)(w:World)(b:Nat)(c f:Bool)(l:List UInt8)(w':World):Prop:=gY 56 base w b (wD c f) l w'
theorem PR.cells{base:Nat}{w:World}{b:Nat}{c f:Bool}{l:List UInt8}(h:PR base w b c f l):w.cell? ⟨b,0,none⟩=some (.bool c)/\w.cell? ⟨b,1,none⟩=some (.bool f)/\b < w.heap.size/\base<=b:=by
 obtain⟨p,v,h1,-,-,-,h5⟩:=h
 exact⟨aA h1 (i:=0) rfl,aA h1 (i:=1) rfl,aC h1,h5⟩
theorem BL.kept{T:TypeId}{base:Nat}{w w':World}{b:Nat}{pre:List Value}{l:List UInt8}(h:BL T base w b pre l)(hb:Below w.heap.size w w'):BL T base w' b pre l:=by
 obtain⟨p,v,h1,h2,h3,h4,h5⟩:=h
 exact⟨p,v,(hb.block b (aC h1)).trans h1,h2,aX h3 (S:=fun _=>False) ⟨hb.os,hb.tape,hb.output,hb.size,fun i hi _=>hb.block i hi⟩ (fun _ _ q=>q),h4,h5⟩
theorem kP{b:Nat}{w w':World}(h:Below w.heap.size w w'):Oth b w w':=fun k _ hk _ _=>(h.block k (aC hk)).trans hk
theorem PrPost.trans{base:Nat}{a w w':World}{b:Nat}{T:TypeId}{pre:List Value}{l l':List UInt8}(h:gY T base a b pre l w)(k:gY T base w b pre l' w'):gY T base a b pre l' w':=⟨k.1,h.2.1.trans k.2.1,h.2.2.trans k.2.2⟩
theorem PrPost.then{base:Nat}{a w w':World}{b:Nat}{T:TypeId}{pre:List Value}{l:List UInt8}(h:gY T base a b pre l w)(k:Below w.heap.size w w')(hb:base<=a.heap.size):gY T base a b pre l w':=⟨h.1.kept k,aF h.2.1 k hb,h.2.2.trans (kP k)⟩
theorem PrPost.start{base:Nat}{w w':World}{b:Nat}{T:TypeId}{pre:List Value}{l:List UInt8}(h:BL T base w b pre l)(k:Below w.heap.size w w')(hb:base<=w.heap.size):gY T base w b pre l w':=⟨h.kept k,k.mono hb,kP k⟩
theorem dV{base:Nat}{w:World}{b:Nat}{c f:Bool}{l:List UInt8}(h:PR base w b c f l)(s:List UInt8)(hl:l.length+s.length<=140737488355328)(hb:base<=w.heap.size) :
  Calls Tryz.prog 51 #[.pointer (some ⟨b,0,none⟩),.string (txt s)] w fun e w'=>e=.returned (.tuple #[])/\PrPost base w b c f (l ++ s) w':=by
 have HW:=aB (dW bt2 h s hl hb)
 clear h hl hb
 go_enter Tryz.func51,Tryz.ntmps51
 go_wp2_with (go_at_call 36;refine(HW.out).mono ?_;rintro e w2 ⟨rfl,h2⟩;have B2:=aB h2;clear h2)
 go_end0
 exact⟨rfl,B2.out⟩
theorem mT{base:Nat}{w:World}{b:Nat}{c f:Bool}{l:List UInt8}(h:PR base w b c f l) :
  Calls Tryz.prog 24 #[.pointer (some ⟨b,0,none⟩)] w fun e w'=>e=.returned (.bool (decide (2000 < l.length)))/\w'=w:=by
 have HW:=aB (vC h)
 clear h
 obtain⟨n,hn⟩:∃ n,l.length=n:=⟨_,rfl⟩
 rw [hn] at HW ⊢
 clear hn
 by_cases q:2000 < n
 ·have q2:(2000:Int) < (n:Int):=by omega
  rw [decide_eq_true q]
  go_enter Tryz.func24,Tryz.ntmps24
  go_wp2_with (go_at_call 56;refine(HW.out).mono ?_;rintro e w2 ⟨rfl,h2⟩;subst w2)
  go_ret
  exact⟨rfl,rfl⟩
 ·have q2:¬ (2000:Int) < (n:Int):=by omega
  rw [decide_eq_false q]
  go_enter Tryz.func24,Tryz.ntmps24
  go_wp2_with (go_at_call 56;refine(HW.out).mono ?_;rintro e w2 ⟨rfl,h2⟩;subst w2)
  go_ret
  refine⟨?_,rfl⟩
  show Ending.returned (Value.bool (decide ((2000:Int) < (n:Int))))=_
  rw [decide_eq_false (by omega)]
structure Okn(c f:Bool)(F:Fl):Prop where
 set:F.k=2->lE c f F.rs
 back:F.k=8->0<=F.n/\F.n<=9
 rep:F.k=9->gU F.mn F.mx=true
 grp:F.k=7->0<=F.n/\F.n<=30
def Okt(c f:Bool)(t:Tr):Prop:=bY (fun u=>Okn c f u.f) t
def WrP(c f:Bool)(t:Tr):Prop:=∀ (W0 w:World) (b:Nat) (l:List UInt8),TB W0 t->Okt c f t->Below W0.heap.size W0 w->Glb W0->PR W0.heap.size w b c f l->l.length+(prE c (er t)).length<=140737488355328 ->
 Calls Tryz.prog 23 #[.pointer (some ⟨b,0,none⟩),.agg #[.int .i64 t.f.k,.int .i64 t.f.n,.int .i64 t.f.mn,.int .i64 t.f.mx,.slice t.f.rq t.f.rs.length t.f.rc,.slice t.f.kq t.f.kl t.f.kc]] w fun e w'=>e=.returned (.tuple #[])/\∃ l',WR l (prE c (er t)) l'/\PrPost W0.heap.size w b c f l' w'
theorem mJ(c:Bool)(sep:List UInt8)(L M:List Er):eJ c sep (L ++ M)=eJ c sep L ++ eJ c sep M:=by
 induction L with
 | nil=>rw [List.nil_append];simp [eJ]
 | cons y L ih=>rw [List.cons_append,eJ,eJ,ih];simp
theorem sH(c:Bool)(sep:List UInt8)(x:Er):eJ c sep [x]=sep ++ prE c x:=by rw [eJ];simp [eJ]
theorem qN(c:Bool)(sep:List UInt8)(L:List Er)(x:Er):bZ c sep (L ++ [x])=bZ c sep L ++ ((if L=[] then [] else sep) ++ prE c x):=by
 cases L with
 | nil=>rw [List.nil_append,bZ];simp [bZ,eJ]
 | cons y L=>rw [List.cons_append,bZ,bZ,mJ,sH];simp
theorem sI(c:Bool)(sep:List UInt8)(A B:List Er):(bZ c sep A).length<=(bZ c sep (A ++ B)).length:=by
 cases A with
 | nil=>rw [bZ];exact Nat.zero_le _
 | cons y L=>rw [List.cons_append,bZ,bZ,mJ];simp only [List.length_append];omega
theorem lW{c f:Bool}{t:Tr}(hrec:∀ u∈t.ks,WrP c f u){W0 w:World}{b:Nat}{l:List UInt8}(sep:List UInt8)(hT:TB W0 t)(hO:Okt c f t)(hb:Below W0.heap.size W0 w)(hG:Glb W0)(h:PR W0.heap.size w b c f l)(hl:l.length+(bZ c sep (t.ks.map er)).length<=140737488355328) :
  Calls Tryz.prog 53 #[.pointer (some ⟨b,0,none⟩),.agg #[.int .i64 t.f.k,.int .i64 t.f.n,.int .i64 t.f.mn,.int .i64 t.f.mx,.slice t.f.rq t.f.rs.length t.f.rc,.slice t.f.kq t.f.kl t.f.kc],.string (txt sep)] w fun e w'=>e=.returned (.tuple #[])/\∃ l',WR l (bZ c sep (t.ks.map er)) l'/\PrPost W0.heap.size w b c f l' w':=by
 have HR:=aB hrec
 have HT:=aB hT
 have HO:=aB hO
 have HG:=aB hG
 have H:=aB h
 have B0:=aB hb
 have hs0:=hb.size
 have HL:=aB hl
 have kl:=hT.node.kl
 obtain⟨q,cap,e1,hm1,hcp1,hx1⟩:=hT.node.k.slice
 injection e1 with e11 e12 e13
 have H1:=aB hx1
 have HB:=aB h.cells.2.2
 have hm:t.ks.length<=9223372036854775807:=hm1
 rw [e11,kl]
 clear hrec hT hO hG h hx1 e11 e12 e13 hb hl kl
 go_enter Tryz.func53,Tryz.ntmps53
 go_wp2
 go_loopw [11] (fun i wr=>∃ (k:Nat) (l':List UInt8),k<=t.ks.length/\i=.int .i64 (k:Int)/\WR l (bZ c sep ((t.ks.take k).map er)) l'/\PrPost W0.heap.size w b c f l' wr) (fun i _=>t.ks.length - (intOf i).toNat)
 case atStart=>exact⟨0,l,Nat.zero_le _,rfl,by rw [List.take_zero,List.map_nil,bZ];exact WR.none l,PrPost.start H.out (bz9) hs0⟩
 case round=>
  obtain⟨k,l',hk,rfl,hW,hP⟩:=hrel
  have W1:=aB hW
  have P1:=aB hP
  clear hW hP
  have hsw:=Nat.le_trans hs0 P1.out.2.1.size
  by_cases hlt:k < t.ks.length
  ·obtain⟨u,hu⟩:∃ u,t.ks[k]?=some u:=⟨_,List.getElem?_eq_getElem hlt⟩
   have inu:u∈t.ks:=List.mem_of_getElem? hu
   obtain⟨g,o,rfl,hg,six⟩:=H1.out k u hu
   have BW:Hid (Below W0.heap.size W0 wr):=B0.out.trans P1.out.2.1
   obtain⟨c0,c1,c2,c3,c4,c5⟩:=six.ck (CK.of_below BW.out) hg
   have hgr:g < wr.heap.size:=Nat.lt_of_lt_of_le hg BW.out.size
   have i0:(0:Int)<=(k:Int):=by omega
   have i1:(k:Int) < (t.ks.length:Int):=by omega
   have hwr:IntKind.wrap .i64 ((k:Int)+1)=(k:Int)+1:=wrap_small _ (by omega) (by omega)
   have NX:Hid (bZ c sep ((t.ks.take (k+1)).map er)=bZ c sep ((t.ks.take k).map er) ++ ((if k=0 then [] else sep) ++ prE c (er u))):=by
    refine aB ?_
    rw [List.take_add_one,hu,List.map_append]
    show bZ c sep ((t.ks.take k).map er ++ [er u])=_
    rw [qN]
    congr 2
    have:((t.ks.take k).map er=[]) ↔ k=0:=by
     rw [List.map_eq_nil_iff,List.take_eq_nil_iff]
     constructor
     ·rintro (q | q)
      ·exact q
      ·rw [q] at hlt;simp at hlt
     ·exact fun q=>.inl q
    simp only [this]
   have LN:Hid (l'.length+(if k=0 then [] else sep).length+(prE c (er u)).length<=140737488355328):=by
    refine aB ?_
    have h1:=W1.out.len
    have h2:=sI c sep ((t.ks.take (k+1)).map er) ((t.ks.drop (k+1)).map er)
    rw [<- List.map_append,List.take_append_drop] at h2
    rw [NX.out] at h2
    simp only [List.length_append] at h2
    have:=HL.out
    omega
   have BX:Hid (BoxN (wr.alloc (.cells #[.int .i64 u.f.k,.int .i64 u.f.n,.int .i64 u.f.mn,.int .i64 u.f.mx,.slice u.f.rq u.f.rs.length u.f.rc,.slice u.f.kq u.f.kl u.f.kc] 25)) wr.heap.size u.f):=aE wr _
   have PX:Hid (PrPost W0.heap.size w b c f l' (wr.alloc (.cells #[.int .i64 u.f.k,.int .i64 u.f.n,.int .i64 u.f.mn,.int .i64 u.f.mx,.slice u.f.rq u.f.rs.length u.f.rc,.slice u.f.kq u.f.kl u.f.kc] 25))):=PrPost.then P1.out (bz9) hs0
   obtain⟨n0,n1,n2,n3,n4,n5⟩:=BX.out.six
   simp only [Nat.zero_add] at n1 n2 n3 n4 n5
   have hsx:W0.heap.size<=(wr.alloc (.cells #[.int .i64 u.f.k,.int .i64 u.f.n,.int .i64 u.f.mn,.int .i64 u.f.mx,.slice u.f.rq u.f.rs.length u.f.rc,.slice u.f.kq u.f.kl u.f.kc] 25)).heap.size:=by simp;omega
   have nb:wr.heap.size≠b:=by
    have:=(PR.cells P1.out.1).2.2.1
    omega
   have RC:=aB (fun (W:World) (m:List UInt8) (hp:PrPost W0.heap.size w b c f m W) (hm:m.length+(prE c (er u)).length<=140737488355328)=>HR.out u inu W0 W b m (HT.out.kid inu) (dF HO.out inu) (B0.out.trans hp.2.1) HG.out hp.1 hm)
   clear six hu
   by_cases hk0:k=0
   ·subst hk0
    simp only [Nat.zero_mul,Nat.add_zero] at c0 c1 c2 c3 c4 c5
    have RC1:=aB (RC.out _ l' PX.out (by have:=LN.out;simp at this;omega))
    go_wp2_with (go_at_call 23;refine(RC1.out).mono ?_;rintro e w5 ⟨rfl,l5,h51,h52⟩;have R5:Hid (WR l (bZ c sep ((t.ks.take (0+1)).map er)) l5):=aB (by rw [NX.out];exact W1.out.trans (by simpa using h51));have P5:Hid (PrPost W0.heap.size w b c f l5 w5):=PrPost.trans PX.out h52;clear h51 h52)
    go_roundw
    case rel=>exact⟨0+1,l5,by omega,by go_num,R5.out,P5.out⟩
    case measure=>simp [intOf];omega
   ·have i2:(0:Int) < (k:Int):=by omega
    have AD:=aB (dV PX.out.1 sep (by have:=LN.out;rw [if_neg hk0] at this;omega) hsx)
    go_wp2_with first
     |(go_at_call 51;refine(AD.out).mono ?_;rintro e w4 ⟨rfl,h4⟩;have P4:Hid (PrPost W0.heap.size w b c f (l' ++ sep) w4):=PrPost.trans PX.out h4;have X4:Hid (BoxN w4 wr.heap.size u.f):=h4.2.2 _ _ BX.out (by simp;exact nb) (fun cs fz e=>by cases e);obtain⟨m0,m1,m2,m3,m4,m5⟩:=X4.out.six;simp only [Nat.zero_add] at m1 m2 m3 m4 m5;have RC1:=aB (RC.out _ (l' ++ sep) P4.out (by have:=LN.out;rw [if_neg hk0] at this;rw [List.length_append];omega));clear h4)
     |(go_at_call 23;refine(RC1.out).mono ?_;rintro e w5 ⟨rfl,l5,h51,h52⟩;have R5:Hid (WR l (bZ c sep ((t.ks.take (k+1)).map er)) l5):=aB (by rw [NX.out,if_neg hk0];exact W1.out.trans ((WR.refl l' sep).trans h51));have P5:Hid (PrPost W0.heap.size w b c f l5 w5):=PrPost.trans P4.out h52;clear h51 h52)
    go_roundw
    case rel=>exact⟨k+1,l5,by omega,by go_num,R5.out,P5.out⟩
    case measure=>simp [intOf];omega
  ·obtain rfl:k=t.ks.length:=by omega
   have i1:¬ (t.ks.length:Int) < (t.ks.length:Int):=by omega
   go_wp2
   go_end0
   refine⟨rfl,l',?_,P1.out⟩
   have:=W1.out
   rw [List.take_length] at this
   exact this
theorem sJ(c:Bool)(t:Tr):prE c (er t)=if t.f.k=2 then dM c t.f.rs else if t.f.k=3 then [94] else if t.f.k=4 then [36] else if t.f.k=5 then bZ c [] (t.ks.map er) else if t.f.k=6 then bZ c [92,124] (t.ks.map er)
  else if t.f.k=7 then [92,40] ++ bZ c [] (t.ks.map er) ++ [92,41] else if t.f.k=8 then 92 :: bR t.f.n.toNat else if t.f.k=9 then bZ c [] (t.ks.map er) ++ cX t.f.mn t.f.mx else []:=by
 rw [pV,prE]
theorem uH(c f:Bool)(t:Tr):WrP c f t:=by
 refine Tr.ind (P:=WrP c f) (fun t ih=>?_) t
 intro W0 w b l hT hO hb hG h hl
 have HR:=aB ih
 have HT:=aB hT
 have HO:=aB hO
 have HN:=aB (((bM t).1 hO).1)
 have HG:=aB hG
 have H:=aB h
 have B0:=aB hb
 have hs0:=hb.size
 have HL:=aB hl
 have LG:=aB (mT (BL.kept h ((Below.refl _ _).alloc lz9 (.cells #[.int .i64 t.f.k,.int .i64 t.f.n,.int .i64 t.f.mn,.int .i64 t.f.mx,.slice t.f.rq t.f.rs.length t.f.rc,.slice t.f.kq t.f.kl t.f.kc] 25))))
 have BX:Hid (BoxN (w.alloc (.cells #[.int .i64 t.f.k,.int .i64 t.f.n,.int .i64 t.f.mn,.int .i64 t.f.mx,.slice t.f.rq t.f.rs.length t.f.rc,.slice t.f.kq t.f.kl t.f.kc] 25)) w.heap.size t.f):=aE w _
 have PX:Hid (PrPost W0.heap.size w b c f l (w.alloc (.cells #[.int .i64 t.f.k,.int .i64 t.f.n,.int .i64 t.f.mn,.int .i64 t.f.mx,.slice t.f.rq t.f.rs.length t.f.rc,.slice t.f.kq t.f.kl t.f.kc] 25))):=PrPost.start h (bz9) hs0
 obtain⟨n0,n1,n2,n3,n4,n5⟩:=BX.out.six
 simp only [Nat.zero_add] at n1 n2 n3 n4 n5
 have nb:w.heap.size≠b:=by have:=(PR.cells h).2.2.1;omega
 have hsx:W0.heap.size<=(w.alloc (.cells #[.int .i64 t.f.k,.int .i64 t.f.n,.int .i64 t.f.mn,.int .i64 t.f.mx,.slice t.f.rq t.f.rs.length t.f.rc,.slice t.f.kq t.f.kl t.f.kc] 25)).heap.size:=by simp;omega
 have BWX:Hid (Below W0.heap.size W0 (w.alloc (.cells #[.int .i64 t.f.k,.int .i64 t.f.n,.int .i64 t.f.mn,.int .i64 t.f.mx,.slice t.f.rq t.f.rs.length t.f.rc,.slice t.f.kq t.f.kl t.f.kc] 25))):=hb.trans ((Below.refl _ _).alloc hs0 _)
 have KD:=aB (fun (W:World) (m sep:List UInt8) (hp:PrPost W0.heap.size w b c f m W) (hm:m.length+(bZ c sep (t.ks.map er)).length<=140737488355328)=>lW ih sep hT hO (hb.trans hp.2.1) hG hp.1 hm)
 have PE:=aB (sJ c t)
 have bxk:=aB (fun (W:World) (m:List UInt8) (hp:PrPost W0.heap.size (w.alloc (.cells #[.int .i64 t.f.k,.int .i64 t.f.n,.int .i64 t.f.mn,.int .i64 t.f.mx,.slice t.f.rq t.f.rs.length t.f.rc,.slice t.f.kq t.f.kl t.f.kc] 25)) b c f m W)=>(show BoxN W w.heap.size t.f from hp.2.2 _ _ BX.out (by simp;exact nb) (fun cs fz e=>by cases e)))
 clear ih hT hO hG h hb hl
 go_enter Tryz.func23,Tryz.ntmps23
 go_upto_region 1 with fail
 generalize (w.alloc (.cells #[.int .i64 t.f.k,.int .i64 t.f.n,.int .i64 t.f.mn,.int .i64 t.f.mx,.slice t.f.rq t.f.rs.length t.f.rc,.slice t.f.kq t.f.kl t.f.kc] 25))=w1 at LG BX PX n0 n1 n2 n3 n4 n5 hsx BWX bxk ⊢
 by_cases hlong:2000 < l.length
 ·have dl:decide (2000 < l.length)=true:=decide_eq_true hlong
  rw [dl] at LG
  have HLG:=aB hlong
  clear dl hlong
  go_wp2_with (go_at_call 24;refine(LG.out).mono ?_;rintro e w2 ⟨rfl,h2⟩;subst w2)
  refine bodyPost_ret (results_none rfl _ _ _) rfl ?_
  exact⟨rfl,l,WR.long HLG.out _,PX.out⟩
 have dl:decide (2000 < l.length)=false:=decide_eq_false hlong
 rw [dl] at LG
 clear dl hlong
 have D2:=PE.out
 by_cases k2:t.f.k=2
 ·rw [if_pos k2] at D2
  have E:=aB D2
  have SR:=aB ((HN.out.set k2).1)
  have NR:=aB ((HT.out.kept BWX.out).node.r)
  have LN:Hid (l.length+(dM c t.f.rs).length<=140737488355328):=aB (by have:=HL.out;rw [D2] at this;exact this)
  obtain⟨e0,e1,lb,-⟩:=PR.cells PX.out.1
  have lw:=aC BX.out
  clear D2
  have PD:Hid (PrPost W0.heap.size w b c f l w1.drew):=PrPost.then PX.out (Below.drew (Below.refl _ _)) hs0
  have ST:=aB (pJ t.f c f (NR.out.kept (Below.drew (Below.refl _ _))) SR.out)
  rw [k2] at ST
  go_upto_region 4 with (go_at_call 24;refine(LG.out).mono ?_;rintro e w2 ⟨rfl,h2⟩;subst w2)
  go_region_with first
   |(go_at_call 52;refine(ST.out).mono ?_;rintro e w3 ⟨rfl,h3⟩;have P3:=aB (PrPost.then PD.out h3 hs0);clear h3)
   |(go_at_call 51;refine(dV P3.out.1 (dM c t.f.rs) LN.out (Nat.le_trans hs0 P3.out.2.1.size)).mono ?_;rintro e w4 ⟨rfl,h4⟩;have P4:=aB (PrPost.trans P3.out h4);clear h4)
  all_goals go_wp2
  all_goals go_end0
  all_goals exact⟨rfl,_,by rw [E.out];exact WR.refl l _,P4.out⟩
 rw [if_neg k2] at D2
 by_cases k3:t.f.k=3
 ·rw [if_pos k3] at D2
  have E:=aB D2
  have LN:=HL.out
  rw [D2] at LN
  have AD:=aB (dV PX.out.1 [94] (by simpa using LN) hsx)
  go_wp2_with first
   |(go_at_call 24;refine(LG.out).mono ?_;rintro e w2 ⟨rfl,h2⟩;subst w2)
   |(go_at_call 51;refine(AD.out).mono ?_;rintro e w3 ⟨rfl,h3⟩;have P3:=aB (PrPost.trans PX.out h3);clear h3)
  go_end0
  exact⟨rfl,_,by rw [E.out];exact WR.refl l [94],P3.out⟩
 rw [if_neg k3] at D2
 by_cases k4:t.f.k=4
 ·rw [if_pos k4] at D2
  have E:=aB D2
  have LN:=HL.out
  rw [D2] at LN
  have AD:=aB (dV PX.out.1 [36] (by simpa using LN) hsx)
  go_wp2_with first
   |(go_at_call 24;refine(LG.out).mono ?_;rintro e w2 ⟨rfl,h2⟩;subst w2)
   |(go_at_call 51;refine(AD.out).mono ?_;rintro e w3 ⟨rfl,h3⟩;have P3:=aB (PrPost.trans PX.out h3);clear h3)
  go_end0
  exact⟨rfl,_,by rw [E.out];exact WR.refl l [36],P3.out⟩
 rw [if_neg k4] at D2
 by_cases k5:t.f.k=5
 ·rw [if_pos k5] at D2
  have E:=aB D2
  have LN:=HL.out
  rw [D2] at LN
  have AD:=aB (KD.out _ l [] PX.out LN)
  rw [k5] at AD
  go_wp2_with first
   |(go_at_call 24;refine(LG.out).mono ?_;rintro e w2 ⟨rfl,h2⟩;subst w2)
   |(go_at_call 53;refine(AD.out).mono ?_;rintro e w3 ⟨rfl,l3,h31,h32⟩;have R3:=aB h31;have P3:=aB (PrPost.trans PX.out h32);clear h31 h32)
  go_end0
  exact⟨rfl,l3,by rw [E.out];exact R3.out,P3.out⟩
 rw [if_neg k5] at D2
 by_cases k6:t.f.k=6
 ·rw [if_pos k6] at D2
  have E:=aB D2
  have LN:=HL.out
  rw [D2] at LN
  have AD:=aB (KD.out _ l [92,124] PX.out LN)
  rw [k6] at AD
  go_wp2_with first
   |(go_at_call 24;refine(LG.out).mono ?_;rintro e w2 ⟨rfl,h2⟩;subst w2)
   |(go_at_call 53;refine(AD.out).mono ?_;rintro e w3 ⟨rfl,l3,h31,h32⟩;have R3:=aB h31;have P3:=aB (PrPost.trans PX.out h32);clear h31 h32)
  go_end0
  exact⟨rfl,l3,by rw [E.out];exact R3.out,P3.out⟩
 rw [if_neg k6] at D2
 by_cases k7:t.f.k=7
 ·rw [if_pos k7] at D2
  have E:=aB D2
  have LN:=HL.out
  rw [D2] at LN
  simp only [List.length_append,List.length_cons,List.length_nil] at LN
  rw [k7] at KD
  have AD:=aB (dV PX.out.1 [92,40] (by simp;omega) hsx)
  go_wp2_with first
   |(go_at_call 24;refine(LG.out).mono ?_;rintro e w2 ⟨rfl,h2⟩;subst w2)
   |(go_at_call 51;refine(dV P4.out.1 [92,41] (by have:=R4.out.len;simp only [List.length_append,List.length_cons,List.length_nil] at this ⊢;omega) (Nat.le_trans hs0 P4.out.2.1.size)).mono ?_;rintro e w5 ⟨rfl,h5⟩;have P5:=aB (PrPost.trans P4.out h5);clear h5)
   |(go_at_call 53;refine(KD.out _ (l ++ [92,40]) [] P3.out (by simp only [List.length_append,List.length_cons,List.length_nil];omega)).mono ?_;rintro e w4 ⟨rfl,l4,h41,h42⟩;have R4:=aB h41;have P4:=aB (PrPost.trans P3.out h42);clear h41 h42)
   |(go_at_call 51;refine(AD.out).mono ?_;rintro e w3 ⟨rfl,h3⟩;have P3:=aB (PrPost.trans PX.out h3);have X3:=aB (bxk.out _ _ h3);obtain⟨m0,m1,m2,m3,m4,m5⟩:=X3.out.six;simp only [Nat.zero_add] at m1 m2 m3 m4 m5;clear h3)
  go_end0
  exact⟨rfl,_,by rw [E.out,List.append_assoc];exact(WR.refl l [92,40]).trans (R4.out.trans (WR.refl l4 [92,41])),P5.out⟩
 rw [if_neg k7] at D2
 by_cases k8:t.f.k=8
 ·rw [if_pos k8] at D2
  have E:=aB D2
  have LN:=HL.out
  rw [D2] at LN
  have hn:=HN.out.back k8
  have IT:=aB (fS (HG.out.kept BWX.out).2.2 (n:=t.f.n) hn.1 (by omega))
  have A1:(⟨#[92]⟩:ByteArray) ++ txt (bR t.f.n.toNat)=txt (92 :: bR t.f.n.toNat):=bB [92] _
  have l9:=dR hn.1 (show t.f.n<=255 by omega)
  have hz:=aK (bR t.f.n.toNat)
  have hz1:(txt (bR t.f.n.toNat)).size<=3:=by omega
  have LN2:=aB LN
  have NS:=aB l9
  clear D2 LN l9 hz hn
  generalize bR t.f.n.toNat=dg at IT A1 hz1 E LN2 NS
  go_wp2_with first
   |(go_at_call 24;refine(LG.out).mono ?_;rintro e w2 ⟨rfl,h2⟩;subst w2)
   |(go_at_call 51;refine(dV P3.out.1 (92 :: dg) LN2.out (Nat.le_trans hs0 P3.out.2.1.size)).mono ?_;rintro e w4 ⟨rfl,h4⟩;have P4:=aB (PrPost.trans P3.out h4);clear h4)
   |(go_at_call 54;refine(IT.out).mono ?_;rintro e w3 ⟨rfl,h3⟩;have P3:=aB (PrPost.then PX.out h3 hs0);clear h3)
  all_goals first |(exfalso;rename_i hh;simp only [aK] at hh;have:=NS.out;omega) | skip
  go_end0
  exact⟨rfl,_,by rw [E.out];exact WR.refl l (92 :: dg),P4.out⟩
 rw [if_neg k8] at D2
 by_cases k9:t.f.k=9
 ·rw [if_pos k9] at D2
  have E:=aB D2
  have LN:=HL.out
  rw [D2] at LN
  simp only [List.length_append] at LN
  have AD:=aB (KD.out _ l [] PX.out (by omega))
  rw [k9] at AD
  have TB:=aB (HN.out.rep k9)
  go_wp2_with first
   |(go_at_call 24;refine(LG.out).mono ?_;rintro e w2 ⟨rfl,h2⟩;subst w2)
   |(go_at_call 51;refine(dV P4.out.1 (cX t.f.mn t.f.mx) (by have:=R3.out.len;omega) (Nat.le_trans hs0 P4.out.2.1.size)).mono ?_;rintro e w5 ⟨rfl,h5⟩;have P5:=aB (PrPost.trans P4.out h5);clear h5)
   |(go_at_call 55;refine(uI (HG.out.kept (B0.out.trans P3.out.2.1)) TB.out).mono ?_;rintro e w4 ⟨rfl,h4⟩;have P4:=aB (PrPost.then P3.out h4 hs0);clear h4)
   |(go_at_call 53;refine(AD.out).mono ?_;rintro e w3 ⟨rfl,l3,h31,h32⟩;have R3:=aB h31;have P3:=aB (PrPost.trans PX.out h32);have X3:=aB (bxk.out _ _ h32);obtain⟨m0,m1,m2,m3,m4,m5⟩:=X3.out.six;simp only [Nat.zero_add] at m1 m2 m3 m4 m5;clear h31 h32)
  go_end0
  exact⟨rfl,_,by rw [E.out];exact R3.out.trans (WR.refl l3 _),P5.out⟩
 rw [if_neg k9] at D2
 have E:=aB D2
 have q2:(t.f.k==2)=false:=by rw [beq_eq_false_iff_ne];exact k2
 have q3:(t.f.k==3)=false:=by rw [beq_eq_false_iff_ne];exact k3
 have q4:(t.f.k==4)=false:=by rw [beq_eq_false_iff_ne];exact k4
 have q5:(t.f.k==5)=false:=by rw [beq_eq_false_iff_ne];exact k5
 have q6:(t.f.k==6)=false:=by rw [beq_eq_false_iff_ne];exact k6
 have q7:(t.f.k==7)=false:=by rw [beq_eq_false_iff_ne];exact k7
 have q8:(t.f.k==8)=false:=by rw [beq_eq_false_iff_ne];exact k8
 have q9:(t.f.k==9)=false:=by rw [beq_eq_false_iff_ne];exact k9
 clear k2 k3 k4 k5 k6 k7 k8 k9 D2
 go_wp2_with (go_at_call 24;refine(LG.out).mono ?_;rintro e w2 ⟨rfl,h2⟩;subst w2)
 go_end0
 exact⟨rfl,l,by rw [E.out];exact WR.none l,PX.out⟩
end Go.Proofs.YticfnglebbakkaaGreatDoor
