/-
  Parts of the proof.
-/
import Derived.Test.YticfnglebbakkaaGreatDoorAgainProofB1
set_option maxRecDepth 100000
set_option maxHeartbeats 8000000
namespace Go.Proofs.YticfnglebbakkaaGreatDoor
open Go Go.RowKit
attribute [local go_sem] aV
def inB(A:Nat->dA)(d:Nat)(num:Int):Bool:=(List.range d).any fun i=>(A i).f.k==7 && (A i).f.n==num
theorem mZ(A:Nat->dA)(d:Nat)(num:Int):inB A (d+1) num=(inB A d num ||((A d).f.k==7 && (A d).f.n==num)):=by
 unfold inB
 rw [List.range_succ,List.any_append]
 simp
theorem bK7{A:Nat->dA}{d e:Nat}{num:Int}(h:inB A d num=true)(hde:d<=e):inB A e num=true:=by
 unfold inB at *
 rw [List.any_eq_true] at *
 obtain⟨x,hx,h⟩:=h
 exact⟨x,by rw [List.mem_range] at *;omega,h⟩
theorem aA9{w:World}{b:Nat}{c f:Bool}{ah gr:Int}{A:Nat->dA}(h:CB w b c f ah gr A){d:Nat}(hd:d<=41)(num:Int) :
  Calls Tryz.prog 62 #[.pointer (some ⟨b,0,none⟩),.int .i64 (d:Int),.int .i64 num] w fun e w'=>e=.returned (.bool (!inB A d num && decide (num<=gr)))/\Below w.heap.size w w':=by
 have H:=aC h
 have hlt:=h.lt
 have e2:(d:Int)<=41:=by omega
 obtain⟨r,hr⟩:∃ r,(!inB A d num && decide (num<=gr))=r:=⟨_,rfl⟩
 rw [hr]
 have HR:=aC hr
 clear h hr
 go_enter Tryz.func62,Tryz.ntmps62
 go_wp2
 go_loopw [15] (fun i wr=>∃ j:Nat,j<=d/\i=.int .i64 (j:Int)/\inB A j num=false/\Below w.heap.size w wr) (fun i _=>d - (intOf i).toNat)
 case atStart=>exact⟨0,Nat.zero_le _,rfl,rfl,Below.refl _ _⟩
 case round=>
  obtain⟨j,hj,rfl,hin,hb⟩:=hrel
  have HI:=aC hin
  have HB:=aC hb
  have H1:Hid (CB wr b c f ah gr A):=H.out.kept hb
  clear hin hb hlt
  have hlt:=H1.out.lt
  by_cases hjl:j < d
  ·have e0:(j:Int) < (d:Int):=by omega
   obtain⟨⟨k0,k1,k2,k3,k4,k5⟩,k6⟩:=H1.out.sp j (by omega)
   have B2:Hid (Below w.heap.size w (wr.alloc (.cells #[.int .i64 (A j).f.k,.int .i64 (A j).f.n,.int .i64 (A j).f.mn,.int .i64 (A j).f.mx,.slice (A j).f.rq (A j).f.rs.length (A j).f.rc,.slice (A j).f.kq (A j).f.kl (A j).f.kc,.int .i64 (A j).s] 60))):=HB.out.alloc HB.out.size _
   have N2:=aE wr (.cells #[.int .i64 (A j).f.k,.int .i64 (A j).f.n,.int .i64 (A j).f.mn,.int .i64 (A j).f.mx,.slice (A j).f.rq (A j).f.rs.length (A j).f.rc,.slice (A j).f.kq (A j).f.kl (A j).f.kc,.int .i64 (A j).s] 60)
   have m0:(wr.alloc (.cells #[.int .i64 (A j).f.k,.int .i64 (A j).f.n,.int .i64 (A j).f.mn,.int .i64 (A j).f.mx,.slice (A j).f.rq (A j).f.rs.length (A j).f.rc,.slice (A j).f.kq (A j).f.kl (A j).f.kc,.int .i64 (A j).s] 60)).cell? ⟨wr.heap.size,0,none⟩=some (.int .i64 (A j).f.k):=aB N2 (i:=0) rfl
   have m1:(wr.alloc (.cells #[.int .i64 (A j).f.k,.int .i64 (A j).f.n,.int .i64 (A j).f.mn,.int .i64 (A j).f.mx,.slice (A j).f.rq (A j).f.rs.length (A j).f.rc,.slice (A j).f.kq (A j).f.kl (A j).f.kc,.int .i64 (A j).s] 60)).cell? ⟨wr.heap.size,1,none⟩=some (.int .i64 (A j).f.n):=aB N2 (i:=1) rfl
   have HS:=aC (mZ A j num)
   clear N2
   go_upto_region 4 with fail
   generalize (wr.alloc (.cells #[.int .i64 (A j).f.k,.int .i64 (A j).f.n,.int .i64 (A j).f.mn,.int .i64 (A j).f.mx,.slice (A j).f.rq (A j).f.rs.length (A j).f.rc,.slice (A j).f.kq (A j).f.kl (A j).f.kc,.int .i64 (A j).s] 60))=W2 at B2 m0 m1 ⊢
   cases h7:((A j).f.k==7)
   ·have HN:Hid (inB A (j+1) num=false):=(by rw [HS.out,HI.out,h7];rfl)
    clear HS
    go_wp2
    go_roundw
    case rel=>exact⟨j+1,by omega,by go_num,HN.out,B2.out⟩
    case measure=>simp only [intOf];omega
   ·cases hn:((A j).f.n==num)
    ·have HN:Hid (inB A (j+1) num=false):=(by rw [HS.out,HI.out,h7,hn];rfl)
     clear HS
     go_wp2
     go_roundw
     case rel=>exact⟨j+1,by omega,by go_num,HN.out,B2.out⟩
     case measure=>simp only [intOf];omega
    ·have HN:Hid (inB A d num=true):=bK7 (d:=j+1) (by rw [HS.out,HI.out,h7,hn];rfl) (by omega)
     clear HS
     go_wp2
     go_ret
     exact⟨by rw [<- HR.out,HN.out];rfl,B2.out⟩
  ·have e0:¬ (j:Int) < (d:Int):=by omega
   obtain rfl:j=d:=by omega
   have k3:=H1.out.c3
   go_wp2
   go_ret
   exact⟨by rw [<- HR.out,HI.out];rfl,HB.out⟩
theorem CB.frz{W:World}{b:Nat}{c f:Bool}{ah gr:Int}{A:Nat->dA}(h:CB W b c f ah gr A)(j:Nat):W.frozen? ⟨b,j,none⟩=false:=by
 obtain⟨cur,hc⟩:=h.blk
 exact aQ hc j
theorem pF{W:World}{k b j:Nat}{f:Fl}{u:Value}(h:BoxN W k f)(hk:k≠b):BoxN (W.setCell ⟨b,j,none⟩ u) k f:=(((Fr.refl (fun z=>z=b) W).setCell (p:=⟨b,j,none⟩) rfl u).block _ (aA h) hk).trans h
theorem uI{w:World}{b:Nat}{c f:Bool}{ah gr:Int}{A:Nat->dA}(h:CB w b c f ah gr A){d:Nat}(hd:d+1 < 41)(x:Fl)(ha:0<=ah/\ah<=1000000)(hg:0<=gr/\gr<=1000000)(hs:0<=(A d).s/\(A d).s<=1000000) :
  Calls Tryz.prog 63 #[.pointer (some ⟨b,0,none⟩),.int .i64 ((d:Int)+1),.agg #[.int .i64 x.k,.int .i64 x.n,.int .i64 x.mn,.int .i64 x.mx,.slice x.rq x.rs.length x.rc,.slice x.kq x.kl x.kc]] w fun e w'=>e=.returned (.tuple #[])/\CB w' b c f (ah+1) (gr+(if x.k=7 then 1 else 0)) (nS (nS A d ⟨(A d).f,(A d).s+1⟩) (d+1) ⟨x,0⟩)/\Fr (fun z=>z=b) w w':=by
 have H:=aC h
 have hlt:=h.lt
 have B1:Hid (Below w.heap.size w (w.alloc (.cells #[.int .i64 x.k,.int .i64 x.n,.int .i64 x.mn,.int .i64 x.mx,.slice x.rq x.rs.length x.rc,.slice x.kq x.kl x.kc] 25))):=bz9
 have N1:Hid (BoxN (w.alloc (.cells #[.int .i64 x.k,.int .i64 x.n,.int .i64 x.mn,.int .i64 x.mx,.slice x.rq x.rs.length x.rc,.slice x.kq x.kl x.kc] 25)) w.heap.size x):=aE w _
 have H1:Hid (CB (w.alloc (.cells #[.int .i64 x.k,.int .i64 x.n,.int .i64 x.mn,.int .i64 x.mx,.slice x.rq x.rs.length x.rc,.slice x.kq x.kl x.kc] 25)) b c f ah gr A):=h.kept B1.out
 have F1:Hid (Fr (fun z=>z=b) w (w.alloc (.cells #[.int .i64 x.k,.int .i64 x.n,.int .i64 x.mn,.int .i64 x.mx,.slice x.rq x.rs.length x.rc,.slice x.kq x.kl x.kc] 25))):=Fr.of_below B1.out
 have hne:w.heap.size≠b:=by omega
 clear h H
 obtain⟨g2,hg2⟩:∃ g2,gr+(if x.k=7 then 1 else 0)=g2:=⟨_,rfl⟩
 rw [hg2]
 have HG:=aC hg2
 clear hg2
 go_enter Tryz.func63,Tryz.ntmps63
 go_upto_region 1 with fail
 generalize (w.alloc (.cells #[.int .i64 x.k,.int .i64 x.n,.int .i64 x.mn,.int .i64 x.mx,.slice x.rq x.rs.length x.rc,.slice x.kq x.kl x.kc] 25))=w1 at B1 N1 H1 F1 ⊢
 have c2:=H1.out.c2
 have f2:=H1.out.frz 2
 have lb:=H1.out.lt
 have H2:Hid (CB (w1.setCell ⟨b,2,none⟩ (.int .i64 (ah+1))) b c f (ah+1) gr A):=H1.out.setAh _
 have N2:Hid (BoxN (w1.setCell ⟨b,2,none⟩ (.int .i64 (ah+1))) w.heap.size x):=pF N1.out hne
 have F2:Hid (Fr (fun z=>z=b) w (w1.setCell ⟨b,2,none⟩ (.int .i64 (ah+1)))):=F1.out.setCell (p:=⟨b,2,none⟩) rfl _
 clear B1 N1 H1 F1
 go_upto_region 2 with fail
 generalize (w1.setCell ⟨b,2,none⟩ (.int .i64 (ah+1)))=w2 at H2 N2 F2 ⊢
 clear c2 f2 lb hlt
 obtain⟨c0,-⟩:=N2.out.six
 have c3:=H2.out.c3
 have f3:=H2.out.frz 3
 have lb:=H2.out.lt
 have e1:((d:Int)+1) - 1=(d:Int):=by omega
 have e2:(d:Int) < 41:=by omega
 have e3:(d:Int)+1 < 41:=by omega
 by_cases hk:x.k=7
 ·have hkb:(x.k==7)=true:=by simpa using hk
  have E2:=HG.out
  rw [if_pos hk] at E2
  subst E2
  have H3:Hid (CB (w2.setCell ⟨b,3,none⟩ (.int .i64 (gr+1))) b c f (ah+1) (gr+1) A):=H2.out.setGr _
  have N3:Hid (BoxN (w2.setCell ⟨b,3,none⟩ (.int .i64 (gr+1))) w.heap.size x):=pF N2.out hne
  have F3:Hid (Fr (fun z=>z=b) w (w2.setCell ⟨b,3,none⟩ (.int .i64 (gr+1)))):=F2.out.setCell (p:=⟨b,3,none⟩) rfl _
  clear H2 N2 F2 hk
  go_upto_region 4 with fail
  generalize (w2.setCell ⟨b,3,none⟩ (.int .i64 (gr+1)))=w3 at H3 N3 F3 ⊢
  clear c0 c3 f3 lb
  have p6:=(H3.out.sp d (by omega)).2
  have lb:=H3.out.lt
  have f6:=H3.out.frz (4+d * 7+6)
  have H5:=aC ((H3.out.setSeen (d:=d) (by omega) ((A d).s+1)).kept ((Below.refl _ _).drew))
  have N5:Hid (BoxN (w3.setCell ⟨b,4+d * 7+6,none⟩ (.int .i64 ((A d).s+1))).drew w.heap.size x):=pF N3.out hne
  have F5:Hid (Fr (fun z=>z=b) w (w3.setCell ⟨b,4+d * 7+6,none⟩ (.int .i64 ((A d).s+1))).drew):=(F3.out.setCell (p:=⟨b,4+d * 7+6,none⟩) rfl _).trans (Fr.of_below ((Below.refl _ _).drew))
  clear H3 N3 F3
  go_region
  go_upto_region 5 with fail
  generalize (w3.setCell ⟨b,4+d * 7+6,none⟩ (.int .i64 ((A d).s+1))).drew=w5 at H5 N5 F5 ⊢
  clear p6 f6 lb
  have lb:=H5.out.lt
  have ln:=aA N5.out
  obtain⟨n0,n1,n2,n3,n4,n5⟩:=N5.out.six
  simp only [Nat.zero_add] at n1 n2 n3 n4 n5
  have fr:=fun j=>H5.out.frz j
  obtain⟨⟨q0,q1,q2,q3,q4,q5⟩,q6⟩:=H5.out.sp (d+1) (by omega)
  have H7:=aC ((H5.out.setSpot (d:=d+1) (by omega) ⟨x,0⟩).kept ((Below.refl _ _).drew))
  have F7:Hid (Fr (fun z=>z=b) w (jZ w5 b (4+(d+1) * 7) ⟨x,0⟩).drew):=(F5.out.trans (aE5 _ _ _ _)).trans (Fr.of_below ((Below.refl _ _).drew))
  unfold jZ at H7 F7
  clear H5 F5
  go_region
  go_wp2
  go_end0
  exact⟨rfl,H7.out,F7.out⟩
 ·have hkb:(x.k==7)=false:=by simpa using hk
  have E2:=HG.out
  rw [if_neg hk,Int.add_zero] at E2
  subst E2
  have H3:=H2
  have N3:=N2
  have F3:=F2
  clear H2 N2 F2 hk
  go_upto_region 4 with fail
  clear c0 c3 f3 lb
  have p6:=(H3.out.sp d (by omega)).2
  have lb:=H3.out.lt
  have f6:=H3.out.frz (4+d * 7+6)
  have H5:=aC ((H3.out.setSeen (d:=d) (by omega) ((A d).s+1)).kept ((Below.refl _ _).drew))
  have N5:Hid (BoxN (w2.setCell ⟨b,4+d * 7+6,none⟩ (.int .i64 ((A d).s+1))).drew w.heap.size x):=pF N3.out hne
  have F5:Hid (Fr (fun z=>z=b) w (w2.setCell ⟨b,4+d * 7+6,none⟩ (.int .i64 ((A d).s+1))).drew):=(F3.out.setCell (p:=⟨b,4+d * 7+6,none⟩) rfl _).trans (Fr.of_below ((Below.refl _ _).drew))
  clear H3 N3 F3
  go_region
  go_upto_region 5 with fail
  generalize (w2.setCell ⟨b,4+d * 7+6,none⟩ (.int .i64 ((A d).s+1))).drew=w5 at H5 N5 F5 ⊢
  clear p6 f6 lb
  have lb:=H5.out.lt
  have ln:=aA N5.out
  obtain⟨n0,n1,n2,n3,n4,n5⟩:=N5.out.six
  simp only [Nat.zero_add] at n1 n2 n3 n4 n5
  have fr:=fun j=>H5.out.frz j
  obtain⟨⟨q0,q1,q2,q3,q4,q5⟩,q6⟩:=H5.out.sp (d+1) (by omega)
  have H7:=aC ((H5.out.setSpot (d:=d+1) (by omega) ⟨x,0⟩).kept ((Below.refl _ _).drew))
  have F7:Hid (Fr (fun z=>z=b) w (jZ w5 b (4+(d+1) * 7) ⟨x,0⟩).drew):=(F5.out.trans (aE5 _ _ _ _)).trans (Fr.of_below ((Below.refl _ _).drew))
  unfold jZ at H7 F7
  clear H5 F5
  go_region
  go_wp2
  go_end0
  exact⟨rfl,H7.out,F7.out⟩
end Go.Proofs.YticfnglebbakkaaGreatDoor
