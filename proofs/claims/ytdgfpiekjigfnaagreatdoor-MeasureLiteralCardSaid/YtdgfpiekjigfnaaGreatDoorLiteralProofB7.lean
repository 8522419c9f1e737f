/-
  Parts of the proof.
-/
import Derived.Test.YtdgfpiekjigfnaaGreatDoorLiteralProofA0
import Derived.Test.YtdgfpiekjigfnaaGreatDoorLiteralProofB5
import Derived.Test.YtdgfpiekjigfnaaGreatDoorLiteralProofB6
import Derived.Sort.OwnSortedInts
import Derived.Lib.RowBridge
set_option maxRecDepth 100000
set_option maxHeartbeats 8000000
namespace Go.Proofs.YtdgfpiekjigfnaaGreatDoor
open Go Go.RowKit
section
open Go Go.RowKit Go.Shelf
def srt(zs:List Int):List Int:=zs.mergeSort fun x y=>decide (x<=y)
theorem qY(zs:List Int):(srt zs).length=zs.length:=List.length_mergeSort zs
abbrev tG(base:Nat)(w:World)(q:Option Addr)(c:Nat)(zs:List Int):Prop:=w.ownsRow base 3 1 (.slice q zs.length c) zs.length (zs.map (Value.int .i64))
theorem oT(w:World)(r:Option Nat):w.grownBy w r:=⟨rfl,rfl,rfl,aAB _,fun _ _ _=>rfl⟩
theorem aV6{w:World}{base:Nat}{q:Option Addr}{c:Nat}{zs:List Int}(h:tG base w q c zs)(hl:zs.length<=2000) :
  Calls Tryz.prog 79 #[.slice q zs.length c] w fun e w'=>e=.returned (.tuple #[])/\tG base w' q c (srt zs)/\w.grownBy w' (Value.slice q zs.length c).ownBlock:=by
 rcases h.2 with⟨h1,h2⟩ | ⟨g,cap,cur,h1,h2,h3,h4,h5,h6,h7⟩
 ·have hz:zs=[]:=aCL.1 h2;subst hz;injection h1 with a b d;subst a d;refine(Tryz.slices_Sort_int_none none 0 w).mono ?_;rintro e w' ⟨rfl,rfl⟩;exact⟨rfl,by rw [show srt []=[] by simp [srt]];exact h,oT _ _⟩
 ·injection h1 with a b d;subst a d;have hH:=holds_of_blockI (ss:=zs) h3 (by rw [Nat.mul_one] at h7;exact h7);refine(Tryz.slices_Sort_int g 0 c zs w hH (aB h3) (by omega)).mono ?_;rintro e w' ⟨rfl,n,os,rfl⟩;refine⟨rfl,?_,grownBy_sortedI _⟩;have:=ownsRow_sortedI (n:=n) (os:=os) (ts:=srt zs) (qY zs) h2 h3 h4 h5 h6;unfold tG;rw [qY];exact this
theorem zO{w:World}{base:Nat}{q:Option Addr}{c:Nat}{zs:List Int}(h:tG base w q c zs)(hl:zs.length<=2000) :
  Calls Tryz.prog 80 #[.slice q zs.length c] w fun e w'=>e=.returned (.slice q (Lib.compact zs).length c)/\tG base w' q c (Lib.compact zs)/\w.grownBy w' (Value.slice q zs.length c).ownBlock:=by
 have hcl:=Lib.compact_length_le zs;rcases h.2 with⟨h1,h2⟩ | ⟨g,cap,cur,h1,h2,h3,h4,h5,h6,h7⟩
 ·have hz:zs=[]:=aCL.1 h2;subst hz;injection h1 with a b d;subst a d;have e0:Lib.compact ([]:List Int)=[]:=aCL.1 (by simpa using hcl);refine(Tryz.slices_Compact_int_empty none 0 w).mono ?_;rintro e w' ⟨rfl,rfl⟩;exact⟨by rw [e0];rfl,by rw [e0];exact h,oT _ _⟩
 ·injection h1 with a b d;subst a d;have hH:=holds_of_blockI (ss:=zs) h3 (by rw [Nat.mul_one] at h7;exact h7);refine(Tryz.slices_Compact_int g 0 c zs w hH (by omega) h4).mono ?_;rintro e w' ⟨rfl,n,rfl⟩;have he:(Lib.compact zs++List.replicate (zs.length-(Lib.compact zs).length) 0).length=zs.length:=by simp;omega
  refine⟨rfl,?_,?_⟩
  ·have hb:=heap_sortedI (n:=n) (os:=#[]) (Lib.compact zs++List.replicate (zs.length-(Lib.compact zs).length) 0).toArray h3;rw [Go.Sort.grow_empty] at hb;have ht:=take_putCellsI cur (Lib.compact zs++List.replicate (zs.length-(Lib.compact zs).length) 0) (by rw [he,h6];omega);refine⟨by simp,.inr ⟨g,c,_,rfl,h2,hb,by omega,h5,by simp [Go.Sort.putCells,h6],?_⟩⟩;rw [Nat.mul_one];have:=congrArg (List.take (Lib.compact zs).length) ht;rw [List.take_take,he,Nat.min_eq_left hcl] at this;rw [this,<- List.map_take,List.take_left]
  ·have:=grownBy_sortedI (w:=w) (g:=g) (n:=n) (os:=#[]) (Lib.compact zs++List.replicate (zs.length-(Lib.compact zs).length) 0).toArray;rw [Go.Sort.grow_empty] at this;exact this
end
section
attribute [local go_sem] aT
def eM(pk:Int)(seen:Int)(kl:Nat)(k:Int):Bool:=
 if pk=5 then bX k ||(k==3&&seen==0) ||(k==4&&seen==(kl:Int)-1)
 else if pk=9 then bX k
 else if pk=6 then eN k&&k != 6
 else eN k
theorem aE7{w:World}{b:Nat}{c f:Bool}{ah gr:Int}{A:Nat->dW}(h:CB w b c f ah gr A){d:Nat}(hd:d<41)(k:Int)(hkl:(A d).f.kl<=9223372036854775807) :
  Calls Tryz.prog 101 #[.pointer (some (aDr b 0)),.I ((d:Int)+1),.I k] w fun e w'=>e=.returned (.bool (eM (A d).f.k (A d).s (A d).f.kl k))/\wBl w w':=by
 obtain⟨⟨k0,k1,k2,k3,k4,k5⟩,k6⟩:=h.sp d hd;have hlt:=h.lt;have e1:((d:Int)+1)-1=(d:Int):=by omega
 have e2:(d:Int)<41:=by omega
 have B1:Hid (wBl w (w.alloc (.cells #[.I (A d).f.k,.I (A d).f.n,.I (A d).f.mn,.I (A d).f.mx,.slice (A d).f.rq (A d).f.rs.length (A d).f.rc,.slice (A d).f.kq (A d).f.kl (A d).f.kc,.I (A d).s] 143))):=bz9;have N1:=aE w (.cells #[.I (A d).f.k,.I (A d).f.n,.I (A d).f.mn,.I (A d).f.mx,.slice (A d).f.rq (A d).f.rs.length (A d).f.rc,.slice (A d).f.kq (A d).f.kl (A d).f.kc,.I (A d).s] 143);obtain⟨r,hr⟩:∃ r,eM (A d).f.k (A d).s (A d).f.kl k=r:=⟨_,rfl⟩;rw [hr];have HR:=aC hr;clear hr;go_enter Tryz.func101,Tryz.ntmps101;go_upto_region 2 with fail
 have m0:(w.alloc (.cells #[.I (A d).f.k,.I (A d).f.n,.I (A d).f.mn,.I (A d).f.mx,.slice (A d).f.rq (A d).f.rs.length (A d).f.rc,.slice (A d).f.kq (A d).f.kl (A d).f.kc,.I (A d).s] 143)).cell? (aDr w.heap.size 0)=some (.I (A d).f.k):=aA N1 (i:=0) rfl;have m5:(w.alloc (.cells #[.I (A d).f.k,.I (A d).f.n,.I (A d).f.mn,.I (A d).f.mx,.slice (A d).f.rq (A d).f.rs.length (A d).f.rc,.slice (A d).f.kq (A d).f.kl (A d).f.kc,.I (A d).s] 143)).cell? (aDr w.heap.size 5)=some (.slice (A d).f.kq (A d).f.kl (A d).f.kc):=aA N1 (i:=5) rfl;have m6:(w.alloc (.cells #[.I (A d).f.k,.I (A d).f.n,.I (A d).f.mn,.I (A d).f.mx,.slice (A d).f.rq (A d).f.rs.length (A d).f.rc,.slice (A d).f.kq (A d).f.kl (A d).f.kc,.I (A d).s] 143)).cell? (aDr w.heap.size 6)=some (.I (A d).s):=aA N1 (i:=6) rfl;have hlw:=aB N1;generalize (w.alloc (.cells #[.I (A d).f.k,.I (A d).f.n,.I (A d).f.mn,.I (A d).f.mx,.slice (A d).f.rq (A d).f.rs.length (A d).f.rc,.slice (A d).f.kq (A d).f.kl (A d).f.kc,.I (A d).s] 143))=W1 at B1 m0 m5 m6 hlw ⊢;clear N1 k0 k1 k2 k3 k4 k5 k6 hlt e1 e2 h hd;generalize (A d).f.k=pk at m0 HR ⊢;generalize (A d).f.kl=kl at m5 HR hkl ⊢;generalize (A d).s=se at m6 HR ⊢
 cases h5:(pk==5) with
 | true=>
  obtain rfl:pk=5:=by simpa using h5
  go_upto_region 4 with fail
  refine wx9 ?_
  repeat (go_big_quiet_step (first | exact rfl))
  refine wpQuiet_nil ?_;intro w2 hw;have B2:Hid (wBl w w2):=aJ B1.o (aP hw) lz9;clear hw B1;have RR0:r=(bX k ||(k==3&&se==0) ||(k==4&&se==(kl:Int)-1)):=by rw [<- HR.o];simp [eM]
  have HK:=aC (qK k);obtain⟨tb,htb⟩:∃ tb,bX k=tb:=⟨_,rfl⟩;rw [htb] at HK RR0;obtain⟨b1,hb1⟩:∃ b1,(se==0)=b1:=⟨_,rfl⟩;obtain⟨b2,hb2⟩:∃ b2,(se==(kl:Int)-1)=b2:=⟨_,rfl⟩;rw [hb1,hb2] at RR0;rw [hb1,hb2];have RRX:=aC RR0;clear htb hb1 hb2 m0 m5 m6 RR0;cases tb
  ·cases h3:(k==3)
   ·cases h4:(k==4)
    ·go_wp2_with (go_at_call 126;(with_reducible refine(HK.o _).mono ?_);rintro e w5 ⟨rfl,h5⟩;subst w5)
     go_ret;exact⟨by rw [RRX.o,h3,h4];rfl,B2.o⟩
    ·go_wp2_with (go_at_call 126;(with_reducible refine(HK.o _).mono ?_);rintro e w5 ⟨rfl,h5⟩;subst w5)
     go_ret;exact⟨by rw [RRX.o,h3,h4];simp,B2.o⟩
   ·obtain rfl:k=3:=by simpa using h3
    cases b1
    all_goals
     go_wp2_with (go_at_call 126;(with_reducible refine(HK.o _).mono ?_);rintro e w5 ⟨rfl,h5⟩;subst w5)
     go_ret;exact⟨by rw [RRX.o];rfl,B2.o⟩
  ·go_wp2_with (go_at_call 126;(with_reducible refine(HK.o _).mono ?_);rintro e w5 ⟨rfl,h5⟩;subst w5)
   go_ret;exact⟨by rw [RRX.o];rfl,B2.o⟩
 | false=>
  cases h9:(pk==9) with
  | true=>
   obtain rfl:pk=9:=by simpa using h9
   go_wp2_with (go_at_call 126;(with_reducible refine(qK _ _).mono ?_);rintro e w5 ⟨rfl,h5⟩;subst w5)
   go_ret;exact⟨by rw [<- HR.o];simp [eM],B1.o⟩
  | false=>
   cases h6:(pk==6) with
   | true=>
    obtain rfl:pk=6:=by simpa using h6
    obtain⟨kb,hkb⟩:∃ kb,eN k=kb:=⟨_,rfl⟩;have HK:=aC (zD k);rw [hkb] at HK;have R2:r=(kb&&k != 6):=(by rw [<- HR.o,<- hkb];simp [eM]);clear hkb
    cases kb with
    | true=>
     go_wp2_with (go_at_call 127;(with_reducible refine(HK.o _).mono ?_);rintro e w5 ⟨rfl,h5⟩;subst w5)
     go_ret;exact⟨by rw [R2,aCP];rfl,B1.o⟩
    | false=>
     go_wp2_with (go_at_call 127;(with_reducible refine(HK.o _).mono ?_);rintro e w5 ⟨rfl,h5⟩;subst w5)
     go_ret;exact⟨by rw [R2,Bool.false_and];rfl,B1.o⟩
   | false=>
    have R2:eN k=r:=(by rw [<- HR.o];simp at h5 h9 h6;simp [eM,h5,h9,h6]);go_wp2_with (go_at_call 127;(with_reducible refine(zD _ _).mono ?_);rintro e w5 ⟨rfl,h5⟩;subst w5)
    go_ret;exact⟨by rw [<- R2];rfl,B1.o⟩
end
section
attribute [local go_sem] aT
def inB(A:Nat->dW)(d:Nat)(num:Int):Bool:=(List.range d).any fun i=>(A i).f.k==7&&(A i).f.n==num
theorem oS(A:Nat->dW)(d:Nat)(num:Int):inB A (d+1) num=(inB A d num ||((A d).f.k==7&&(A d).f.n==num)):=by
 unfold inB;rw [List.range_succ,List.any_append];simp
theorem bS9{A:Nat->dW}{d e:Nat}{num:Int}(h:inB A d num=true)(hde:d<=e):inB A e num=true:=by
 unfold inB at *;rw [List.any_eq_true] at *;obtain⟨x,hx,h⟩:=h;exact⟨x,by rw [List.mem_range] at *;omega,h⟩
theorem aE8{w:World}{b:Nat}{c f:Bool}{ah gr:Int}{A:Nat->dW}(h:CB w b c f ah gr A){d:Nat}(hd:d<=41)(num:Int) :
  Calls Tryz.prog 104 #[.pointer (some (aDr b 0)),.I (d:Int),.I num] w fun e w'=>e=.returned (.bool (!inB A d num&&decide (num<=gr)))/\wBl w w':=by
 have H:=aC h;have hlt:=h.lt;have e2:(d:Int)<=41:=by omega
 obtain⟨r,hr⟩:∃ r,(!inB A d num&&decide (num<=gr))=r:=⟨_,rfl⟩;rw [hr];have HR:=aC hr;clear h hr;go_enter Tryz.func104,Tryz.ntmps104;go_wp2;go_loopw [15] (fun i wr=>∃ j:Nat,j<=d/\i=.I (j:Int)/\inB A j num=false/\wBl w wr) (fun i _=>d-(intOf i).toNat)
 case atStart=>exact⟨0,r9 _,rfl,rfl,Below.refl _ _⟩
 case round=>
  obtain⟨j,hj,rfl,hin,hb⟩:=hrel;have HI:=aC hin;have HB:=aC hb;have H1:Hid (CB wr b c f ah gr A):=H.o.kept hb;clear hin hb hlt;have hlt:=H1.o.lt;by_cases hjl:j<d
  ·have e0:(j:Int)<(d:Int):=by omega
   obtain⟨⟨k0,k1,k2,k3,k4,k5⟩,k6⟩:=H1.o.sp j (by omega);have B2:Hid (wBl w (wr.alloc (.cells #[.I (A j).f.k,.I (A j).f.n,.I (A j).f.mn,.I (A j).f.mx,.slice (A j).f.rq (A j).f.rs.length (A j).f.rc,.slice (A j).f.kq (A j).f.kl (A j).f.kc,.I (A j).s] 143))):=HB.o.alloc HB.o.size _;have N2:=aE wr (.cells #[.I (A j).f.k,.I (A j).f.n,.I (A j).f.mn,.I (A j).f.mx,.slice (A j).f.rq (A j).f.rs.length (A j).f.rc,.slice (A j).f.kq (A j).f.kl (A j).f.kc,.I (A j).s] 143);have m0:(wr.alloc (.cells #[.I (A j).f.k,.I (A j).f.n,.I (A j).f.mn,.I (A j).f.mx,.slice (A j).f.rq (A j).f.rs.length (A j).f.rc,.slice (A j).f.kq (A j).f.kl (A j).f.kc,.I (A j).s] 143)).cell? (aDr wr.heap.size 0)=some (.I (A j).f.k):=aA N2 (i:=0) rfl;have m1:(wr.alloc (.cells #[.I (A j).f.k,.I (A j).f.n,.I (A j).f.mn,.I (A j).f.mx,.slice (A j).f.rq (A j).f.rs.length (A j).f.rc,.slice (A j).f.kq (A j).f.kl (A j).f.kc,.I (A j).s] 143)).cell? (aDr wr.heap.size 1)=some (.I (A j).f.n):=aA N2 (i:=1) rfl;have HS:=aC (oS A j num);clear N2;go_upto_region 4 with fail
   generalize (wr.alloc (.cells #[.I (A j).f.k,.I (A j).f.n,.I (A j).f.mn,.I (A j).f.mx,.slice (A j).f.rq (A j).f.rs.length (A j).f.rc,.slice (A j).f.kq (A j).f.kl (A j).f.kc,.I (A j).s] 143))=W2 at B2 m0 m1 ⊢;cases h7:((A j).f.k==7)
   ·have HN:Hid (inB A (j+1) num=false):=(by rw [HS.o,HI.o,h7];rfl);clear HS;go_wp2;go_roundw
    case rel=>exact⟨j+1,by omega,by go_num,HN.o,B2.o⟩
    case measure=>simp only [intOf];omega
   ·cases hn:((A j).f.n==num)
    ·have HN:Hid (inB A (j+1) num=false):=(by rw [HS.o,HI.o,h7,hn];rfl);clear HS;go_wp2;go_roundw
     case rel=>exact⟨j+1,by omega,by go_num,HN.o,B2.o⟩
     case measure=>simp only [intOf];omega
    ·have HN:Hid (inB A d num=true):=bS9 (d:=j+1) (by rw [HS.o,HI.o,h7,hn];rfl) (by omega);clear HS;go_wp2;go_ret;exact⟨by rw [<- HR.o,HN.o];rfl,B2.o⟩
  ·have e0:¬ (j:Int)<(d:Int):=by omega
   obtain rfl:j=d:=by omega
   have k3:=H1.o.c3;go_wp2;go_ret;exact⟨by rw [<- HR.o,HI.o];rfl,HB.o⟩
theorem CB.frz{W:World}{b:Nat}{c f:Bool}{ah gr:Int}{A:Nat->dW}(h:CB W b c f ah gr A)(j:Nat):W.frozen? (aDr b j)=false:=by
 obtain⟨cur,hc⟩:=h.blk;exact aG hc j
theorem rE{W:World}{k b j:Nat}{f:Fl}{u:Value}(h:BoxN W k f)(hk:k≠b):BoxN (W.setCell (aDr b j) u) k f:=(((Fr.refl (fun z=>z=b) W).setCell (p:=(aDr b j)) rfl u).block _ (aB h) hk).trans h
theorem wT{w:World}{b:Nat}{c f:Bool}{ah gr:Int}{A:Nat->dW}(h:CB w b c f ah gr A){d:Nat}(hd:d+1<41)(x:Fl)(ha:0<=ah/\ah<=1000000)(hg:0<=gr/\gr<=1000000)(hs:0<=(A d).s/\(A d).s<=1000000) :
  Calls Tryz.prog 105 #[.pointer (some (aDr b 0)),.I ((d:Int)+1),.agg (nDf x)] w fun e w'=>e=.returned (.tuple #[])/\CB w' b c f (ah+1) (gr+(if x.k=7 then 1 else 0)) (pQ (pQ A d ⟨(A d).f,(A d).s+1⟩) (d+1) ⟨x,0⟩)/\Fr (fun z=>z=b) w w':=by
 have H:=aC h;have hlt:=h.lt;have B1:Hid (wBl w (w.alloc (.cells (nDf x) 25))):=bz9;have N1:Hid (BoxN (w.alloc (.cells (nDf x) 25)) w.heap.size x):=aE w _;have H1:Hid (CB (w.alloc (.cells (nDf x) 25)) b c f ah gr A):=h.kept B1.o;have F1:Hid (Fr (fun z=>z=b) w (w.alloc (.cells (nDf x) 25))):=Fr.of_below B1.o;have hne:w.heap.size≠b:=by omega
 clear h H;obtain⟨g2,hg2⟩:∃ g2,gr+(if x.k=7 then 1 else 0)=g2:=⟨_,rfl⟩;rw [hg2];have HG:=aC hg2;clear hg2;go_enter Tryz.func105,Tryz.ntmps105;go_upto_region 1 with fail
 generalize (w.alloc (.cells (nDf x) 25))=w1 at B1 N1 H1 F1 ⊢;have c2:=H1.o.c2;have f2:=H1.o.frz 2;have lb:=H1.o.lt;have H2:Hid (CB (w1.setCell (aDr b 2) (.I (ah+1))) b c f (ah+1) gr A):=H1.o.setAh _;have N2:Hid (BoxN (w1.setCell (aDr b 2) (.I (ah+1))) w.heap.size x):=rE N1.o hne;have F2:Hid (Fr (fun z=>z=b) w (w1.setCell (aDr b 2) (.I (ah+1)))):=F1.o.setCell (p:=(aDr b 2)) rfl _;clear B1 N1 H1 F1;go_upto_region 2 with fail
 generalize (w1.setCell (aDr b 2) (.I (ah+1)))=w2 at H2 N2 F2 ⊢;clear c2 f2 lb hlt;obtain⟨c0,-⟩:=N2.o.six;have c3:=H2.o.c3;have f3:=H2.o.frz 3;have lb:=H2.o.lt;have e1:((d:Int)+1)-1=(d:Int):=by omega
 have e2:(d:Int)<41:=by omega
 have e3:(d:Int)+1<41:=by omega
 by_cases hk:x.k=7
 ·have hkb:(x.k==7)=true:=by simpa using hk
  have E2:=HG.o;rw [if_pos hk] at E2;subst E2;have H3:Hid (CB (w2.setCell (aDr b 3) (.I (gr+1))) b c f (ah+1) (gr+1) A):=H2.o.setGr _;have N3:Hid (BoxN (w2.setCell (aDr b 3) (.I (gr+1))) w.heap.size x):=rE N2.o hne;have F3:Hid (Fr (fun z=>z=b) w (w2.setCell (aDr b 3) (.I (gr+1)))):=F2.o.setCell (p:=(aDr b 3)) rfl _;clear H2 N2 F2 hk;go_upto_region 4 with fail
  generalize (w2.setCell (aDr b 3) (.I (gr+1)))=w3 at H3 N3 F3 ⊢;clear c0 c3 f3 lb;have p6:=(H3.o.sp d (by omega)).2;have lb:=H3.o.lt;have f6:=H3.o.frz (4+d*7+6);have H5:=aC ((H3.o.setSeen (d:=d) (by omega) ((A d).s+1)).kept ((Below.refl _ _).drew));have N5:Hid (BoxN (w3.setCell ⟨b,4+d*7+6,none⟩ (.I ((A d).s+1))).drew w.heap.size x):=rE N3.o hne;have F5:Hid (Fr (fun z=>z=b) w (w3.setCell ⟨b,4+d*7+6,none⟩ (.I ((A d).s+1))).drew):=(F3.o.setCell (p:=⟨b,4+d*7+6,none⟩) rfl _).trans (Fr.of_below ((Below.refl _ _).drew));clear H3 N3 F3
  go_region
  go_upto_region 5 with fail
  generalize (w3.setCell ⟨b,4+d*7+6,none⟩ (.I ((A d).s+1))).drew=w5 at H5 N5 F5 ⊢;clear p6 f6 lb;have lb:=H5.o.lt;have ln:=aB N5.o;obtain⟨n0,n1,n2,n3,n4,n5⟩:=N5.o.six;simp only [n7] at n1 n2 n3 n4 n5;have fr:=fun j=>H5.o.frz j;obtain⟨⟨q0,q1,q2,q3,q4,q5⟩,q6⟩:=H5.o.sp (d+1) (by omega);have H7:=aC ((H5.o.setSpot (d:=d+1) (by omega) ⟨x,0⟩).kept ((Below.refl _ _).drew));have F7:Hid (Fr (fun z=>z=b) w (lE w5 b (4+(d+1)*7) ⟨x,0⟩).drew):=(F5.o.trans (aJ0 _ _ _ _)).trans (Fr.of_below ((Below.refl _ _).drew));unfold lE at H7 F7;clear H5 F5
  go_region
  go_wp2
  go_end0
  exact⟨rfl,H7.o,F7.o⟩
 ·have hkb:(x.k==7)=false:=by simpa using hk
  have E2:=HG.o;rw [if_neg hk,Int.add_zero] at E2;subst E2;have H3:=H2;have N3:=N2;have F3:=F2;clear H2 N2 F2 hk;go_upto_region 4 with fail
  clear c0 c3 f3 lb;have p6:=(H3.o.sp d (by omega)).2;have lb:=H3.o.lt;have f6:=H3.o.frz (4+d*7+6);have H5:=aC ((H3.o.setSeen (d:=d) (by omega) ((A d).s+1)).kept ((Below.refl _ _).drew));have N5:Hid (BoxN (w2.setCell ⟨b,4+d*7+6,none⟩ (.I ((A d).s+1))).drew w.heap.size x):=rE N3.o hne;have F5:Hid (Fr (fun z=>z=b) w (w2.setCell ⟨b,4+d*7+6,none⟩ (.I ((A d).s+1))).drew):=(F3.o.setCell (p:=⟨b,4+d*7+6,none⟩) rfl _).trans (Fr.of_below ((Below.refl _ _).drew));clear H3 N3 F3
  go_region
  go_upto_region 5 with fail
  generalize (w2.setCell ⟨b,4+d*7+6,none⟩ (.I ((A d).s+1))).drew=w5 at H5 N5 F5 ⊢;clear p6 f6 lb;have lb:=H5.o.lt;have ln:=aB N5.o;obtain⟨n0,n1,n2,n3,n4,n5⟩:=N5.o.six;simp only [n7] at n1 n2 n3 n4 n5;have fr:=fun j=>H5.o.frz j;obtain⟨⟨q0,q1,q2,q3,q4,q5⟩,q6⟩:=H5.o.sp (d+1) (by omega);have H7:=aC ((H5.o.setSpot (d:=d+1) (by omega) ⟨x,0⟩).kept ((Below.refl _ _).drew));have F7:Hid (Fr (fun z=>z=b) w (lE w5 b (4+(d+1)*7) ⟨x,0⟩).drew):=(F5.o.trans (aJ0 _ _ _ _)).trans (Fr.of_below ((Below.refl _ _).drew));unfold lE at H7 F7;clear H5 F5
  go_region
  go_wp2
  go_end0
  exact⟨rfl,H7.o,F7.o⟩
end
end Go.Proofs.YtdgfpiekjigfnaaGreatDoor
