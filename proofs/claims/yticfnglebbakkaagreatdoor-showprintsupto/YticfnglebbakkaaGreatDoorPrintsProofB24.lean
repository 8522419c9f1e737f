/-
  Parts of the proof.
-/
import Derived.Test.YticfnglebbakkaaGreatDoorPrintsProofB23
import Derived.Test.YticfnglebbakkaaGreatDoorPrintsProofB10
import Derived.Test.YticfnglebbakkaaGreatDoorPrintsProofB19
import Derived.Test.YticfnglebbakkaaGreatDoorPrintsProofB16
import Derived.Test.YticfnglebbakkaaGreatDoorPrintsProofB22
import Derived.Test.YticfnglebbakkaaGreatDoorPrintsProofB0
import Derived.Test.YticfnglebbakkaaGreatDoorPrintsProofB17
set_option maxRecDepth 100000
set_option maxHeartbeats 8000000
namespace Go.Proofs.YticfnglebbakkaaGreatDoor
open Go Go.RowKit
structure RX(w:World)(F:Fl)(d:Nat)(v7 v11:Int)(b8 b9 b10:Bool)(m:Md)(W:World):Prop where
 pb:W.heap[w.heap.size]?=some (.cells #[.int .i64 F.k,.int .i64 F.n,.int .i64 F.mn,.int .i64 F.mx,.slice F.rq F.rs.length F.rc,.slice F.kq F.kl F.kc,.int .i64 ((d:Int)+1),.int .i64 v7,.bool b8,.bool b9,.bool b10,.int .i64 v11] 94 (0,0))
 md:W.heap[w.heap.size+1]?=some (.cells #[.bool m.c,.bool m.f] 27 (0,0))
 bel:Below w.heap.size w W
 arg:ArgR W (.slice F.rq F.rs.length F.rc) F.rs
theorem RX.kept{w:World}{F:Fl}{d:Nat}{v7 v11:Int}{b8 b9 b10:Bool}{m:Md}{W W':World}(h:RX w F d v7 v11 b8 b9 b10 m W)(hb:Below W.heap.size W W'):RX w F d v7 v11 b8 b9 b10 m W':=
 ⟨(hb.block _ (aC h.pb)).trans h.pb,(hb.block _ (aC h.md)).trans h.md,aG h.bel hb lz9,h.arg.kept hb⟩
theorem xL(j:Nat):List.replicate (2 * j) (32:UInt8) ++ [32,32]=List.replicate (2 * (j+1)) 32:=by
 rw [show ([32,32]:List UInt8)=List.replicate 2 32 from rfl,List.replicate_append_replicate,Nat.mul_add]
theorem aA9{w:World}(m:Md)(F:Fl){d:Nat}(hd:d<=40)(v7 v11:Int)(b8 b9 b10:Bool)(hA:ArgR w (.slice F.rq F.rs.length F.rc) F.rs)(hF:Fit F.rs)(hN:Nrt m.c m.f F)(hf:F.rs.length<=1048576) :
  Calls Tryz.prog 46 #[.agg #[.int .i64 F.k,.int .i64 F.n,.int .i64 F.mn,.int .i64 F.mx,.slice F.rq F.rs.length F.rc,.slice F.kq F.kl F.kc,.int .i64 ((d:Int)+1),.int .i64 v7,.bool b8,.bool b9,.bool b10,.int .i64 v11],.agg #[.bool m.c,.bool m.f]] w
   fun e w'=>e=.returned (.string (txt (eP m.c d F)))/\Below w.heap.size w w':=by
 have L1:Hid (RX w F d v7 v11 b8 b9 b10 m ((w.alloc (.cells #[.int .i64 F.k,.int .i64 F.n,.int .i64 F.mn,.int .i64 F.mx,.slice F.rq F.rs.length F.rc,.slice F.kq F.kl F.kc,.int .i64 ((d:Int)+1),.int .i64 v7,.bool b8,.bool b9,.bool b10,.int .i64 v11] 94)).alloc (.cells #[.bool m.c,.bool m.f] 27))):=by
  refine aB ?_
  have N1:=aF w (.cells #[.int .i64 F.k,.int .i64 F.n,.int .i64 F.mn,.int .i64 F.mx,.slice F.rq F.rs.length F.rc,.slice F.kq F.kl F.kc,.int .i64 ((d:Int)+1),.int .i64 v7,.bool b8,.bool b9,.bool b10,.int .i64 v11] 94)
  have N2:=aF (w.alloc (.cells #[.int .i64 F.k,.int .i64 F.n,.int .i64 F.mn,.int .i64 F.mx,.slice F.rq F.rs.length F.rc,.slice F.kq F.kl F.kc,.int .i64 ((d:Int)+1),.int .i64 v7,.bool b8,.bool b9,.bool b10,.int .i64 v11] 94)) (.cells #[.bool m.c,.bool m.f] 27)
  rw [World.size_alloc] at N2
  have B:=((Below.refl w.heap.size w).alloc lz9 (.cells #[.int .i64 F.k,.int .i64 F.n,.int .i64 F.mn,.int .i64 F.mx,.slice F.rq F.rs.length F.rc,.slice F.kq F.kl F.kc,.int .i64 ((d:Int)+1),.int .i64 v7,.bool b8,.bool b9,.bool b10,.int .i64 v11] 94)).alloc (by simp) (.cells #[.bool m.c,.bool m.f] 27)
  exact⟨(Below.heap_alloc _ _ _ (by simp)).trans N1,N2,B,hA.kept B⟩
 obtain⟨O,hO⟩:∃ O,eP m.c d F=O:=⟨_,rfl⟩
 have HO:=aB hO
 rw [hO]
 have HN:=aB hN
 have CS:Hid (F.k=2->∀ W,RX w F d v7 v11 b8 b9 b10 m W->Calls Tryz.prog 21 #[.slice F.rq F.rs.length F.rc,.agg #[.bool m.c,.bool m.f]] W fun e w'=>e=.returned (.tuple #[.string (txt (dA m.c F.rs)),.int .i64 0])/\Below W.heap.size W w'):=fun e W hW=>oB m hW.arg hF (by omega) (hN.ok.set e).1
 clear hA hF hN hf hO
 go_enter Tryz.func46,Tryz.ntmps46
 go_upto_region 1 with fail
 generalize ((w.alloc (.cells #[.int .i64 F.k,.int .i64 F.n,.int .i64 F.mn,.int .i64 F.mx,.slice F.rq F.rs.length F.rc,.slice F.kq F.kl F.kc,.int .i64 ((d:Int)+1),.int .i64 v7,.bool b8,.bool b9,.bool b10,.int .i64 v11] 94)).alloc (.cells #[.bool m.c,.bool m.f] 27))=w1 at L1 ⊢
 go_wp2
 go_loopw [5,6] (fun s i wr=>∃ j:Nat,j<=d/\i=.int .i64 ((j:Int)+1)/\s=.string (txt (List.replicate (2 * j) 32))/\RX w F d v7 v11 b8 b9 b10 m wr) (fun _ i _=>d+1 - (intOf i).toNat)
 case atStart=>exact⟨0,Nat.zero_le _,rfl,rfl,L1.out⟩
 case round=>
  obtain⟨j,hj,rfl,rfl,hB⟩:=hrel
  have K:=aB hB
  clear hB
  have p6:=aA K.out.pb (i:=6) rfl
  have l1:=aC K.out.pb
  have zs:(txt (List.replicate (2 * j) 32)).size<=80:=by rw [aD];simp;omega
  by_cases hlt:j < d
  ·have A1:txt (List.replicate (2 * j) 32) ++ (⟨#[32,32]⟩:ByteArray)=txt (List.replicate (2 * j) 32 ++ [32,32]):=aI _ [32,32]
   rw [xL] at A1
   obtain⟨S2,hS2⟩:∃ S2,List.replicate (2 * (j+1)) (32:UInt8)=S2:=⟨_,rfl⟩
   have NX:=aB hS2
   rw [hS2] at A1
   clear hS2
   generalize List.replicate (2 * j) (32:UInt8)=S at A1 zs ⊢
   have hwr:IntKind.wrap .i64 ((j:Int)+1+1)=(j:Int)+1+1:=wrap_small _ (by omega) (by omega)
   have i1:(j:Int)+1 < (d:Int)+1:=by omega
   go_wp2
   all_goals first |(exfalso;rename_i hh;simp only [aD] at hh;omega) | skip
   go_roundw
   case rel=>exact⟨j+1,by omega,by go_num,by rw [NX.out],K.out⟩
   case measure=>simp [intOf];omega
  ·obtain rfl:j=d:=by omega
   have EL:Hid (O=List.replicate (2 * j) 32 ++ eO m.c F.k F.n F.mn F.mx F.rs ++ [10]):=by
    refine aB ?_
    rw [<- HO.out]
    rfl
   generalize List.replicate (2 * j) (32:UInt8)=S at zs EL ⊢
   have i1:¬ (j:Int)+1 < (j:Int)+1:=by omega
   have p0:=aA K.out.pb (i:=0) rfl
   have p1:=aA K.out.pb (i:=1) rfl
   have p2:=aA K.out.pb (i:=2) rfl
   have p3:=aA K.out.pb (i:=3) rfl
   have p4:=aA K.out.pb (i:=4) rfl
   have p5:=aA K.out.pb (i:=5) rfl
   have B6:Hid (Below wr.heap.size wr (wr.alloc (.cells #[.int .i64 F.k,.int .i64 F.n,.int .i64 F.mn,.int .i64 F.mx,.slice F.rq F.rs.length F.rc,.slice F.kq F.kl F.kc] 25))):=bz9
   have X6:Hid (BoxN (wr.alloc (.cells #[.int .i64 F.k,.int .i64 F.n,.int .i64 F.mn,.int .i64 F.mx,.slice F.rq F.rs.length F.rc,.slice F.kq F.kl F.kc] 25)) wr.heap.size F):=aF wr _
   have K6:=aB (K.out.kept B6.out)
   go_upto_region 7 with fail
   clear p0 p1 p2 p3 p4 p5 p6
   generalize (wr.alloc (.cells #[.int .i64 F.k,.int .i64 F.n,.int .i64 F.mn,.int .i64 F.mx,.slice F.rq F.rs.length F.rc,.slice F.kq F.kl F.kc] 25))=w6 at B6 X6 K6 ⊢
   generalize wr.heap.size=bn at B6 X6 ⊢
   obtain⟨n0,n1,n2,n3,n4,n5⟩:=X6.out.six
   simp only [Nat.zero_add] at n1 n2 n3 n4 n5
   have a0:=aA K6.out.md (i:=0) rfl
   have a1:=aA K6.out.md (i:=1) rfl
   have hk9:F.k=1\/F.k=2\/F.k=3\/F.k=4\/F.k=5\/F.k=6\/F.k=7\/F.k=8\/F.k=9:=by have:=HN.out.k;omega
   clear L1 HO
   rcases hk9 with e | e | e | e | e | e | e | e | e
   ·rw [e] at EL n0
    have E:Hid (O=S ++ [101,109,112,116,121,10]):=by refine aB ?_;rw [EL.out];simp [eO]
    clear EL CS e HN
    have A1:txt S ++ (⟨#[101,109,112,116,121,10]⟩:ByteArray)=txt (S ++ [101,109,112,116,121,10]):=aI _ [101,109,112,116,121,10]
    rw [<- E.out] at A1
    go_wp2
    all_goals first |(exfalso;rename_i hh;simp only [aD] at hh;omega) | skip
    go_ret
    exact⟨rfl,K6.out.bel⟩
   ·have C2:=aB (CS.out e)
    have hS:=(HN.out.ok.set e).1
    have L1:=gM hS
    have L2:=kJ (txt (dA m.c F.rs))
    rw [aD] at L2
    have SH:=aB (fun W=>xP (txt (dA m.c F.rs)) W (by rw [aD];omega))
    have l3:(dT (txt (dA m.c F.rs))).length<=112000000:=by omega
    rw [e] at EL n0
    have E:Hid (O=S ++ [115,101,116,32] ++ dT (txt (dA m.c F.rs)) ++ [10]):=by refine aB ?_;rw [EL.out];simp [eO]
    clear EL CS e HN hS L1 L2
    generalize dT (txt (dA m.c F.rs))=D at SH l3 E
    have z2:(txt D).size<=112000000:=by rw [aD];exact l3
    rw [aD] at zs
    have A1:txt S ++ (⟨#[115,101,116,32]⟩:ByteArray)=txt (S ++ [115,101,116,32]):=aI _ [115,101,116,32]
    have A2:txt (S ++ [115,101,116,32]) ++ txt D=txt (S ++ [115,101,116,32] ++ D):=aI _ _
    have A3:txt (S ++ [115,101,116,32] ++ D) ++ (⟨#[10]⟩:ByteArray)=txt (S ++ [115,101,116,32] ++ D ++ [10]):=aI _ [10]
    have z0:(txt S).size<=80:=by rw [aD];exact zs
    have z3:(txt (S ++ [115,101,116,32])).size<=90:=by rw [aD];simp;omega
    have z4:(txt (S ++ [115,101,116,32] ++ D)).size<=112000095:=by rw [aD];simp;omega
    rw [<- E.out] at A3
    generalize S ++ [115,101,116,32] ++ D=P2 at A2 A3 z4
    generalize S ++ [115,101,116,32]=P1 at A1 A2 z3
    go_wp2_with first
     |(go_at_call 21;refine(C2.out _ K6.out).mono ?_;rintro e w7 ⟨rfl,h7⟩;have K7:=aB (K6.out.kept h7);clear h7)
     |(go_at_call 96;refine(SH.out _).mono ?_;rintro e w8 ⟨rfl,h8⟩;have K8:=aB (K7.out.kept h8);clear h8)
    all_goals first |(exfalso;rename_i hh;simp only [aD] at hh;omega) | skip
    go_ret
    exact⟨rfl,K8.out.bel⟩
   ·rw [e] at EL n0
    have E:Hid (O=S ++ [98,101,103,105,110,10]):=by refine aB ?_;rw [EL.out];simp [eO]
    clear EL CS e HN
    have A1:txt S ++ (⟨#[98,101,103,105,110,10]⟩:ByteArray)=txt (S ++ [98,101,103,105,110,10]):=aI _ [98,101,103,105,110,10]
    rw [<- E.out] at A1
    go_wp2
    all_goals first |(exfalso;rename_i hh;simp only [aD] at hh;omega) | skip
    go_ret
    exact⟨rfl,K6.out.bel⟩
   ·rw [e] at EL n0
    have E:Hid (O=S ++ [101,110,100,10]):=by refine aB ?_;rw [EL.out];simp [eO]
    clear EL CS e HN
    have A1:txt S ++ (⟨#[101,110,100,10]⟩:ByteArray)=txt (S ++ [101,110,100,10]):=aI _ [101,110,100,10]
    rw [<- E.out] at A1
    go_wp2
    all_goals first |(exfalso;rename_i hh;simp only [aD] at hh;omega) | skip
    go_ret
    exact⟨rfl,K6.out.bel⟩
   ·rw [e] at EL n0
    have E:Hid (O=S ++ [99,97,116,10]):=by refine aB ?_;rw [EL.out];simp [eO]
    clear EL CS e HN
    have A1:txt S ++ (⟨#[99,97,116,10]⟩:ByteArray)=txt (S ++ [99,97,116,10]):=aI _ [99,97,116,10]
    rw [<- E.out] at A1
    go_wp2
    all_goals first |(exfalso;rename_i hh;simp only [aD] at hh;omega) | skip
    go_ret
    exact⟨rfl,K6.out.bel⟩
   ·rw [e] at EL n0
    have E:Hid (O=S ++ [97,108,116,10]):=by refine aB ?_;rw [EL.out];simp [eO]
    clear EL CS e HN
    have A1:txt S ++ (⟨#[97,108,116,10]⟩:ByteArray)=txt (S ++ [97,108,116,10]):=aI _ [97,108,116,10]
    rw [<- E.out] at A1
    go_wp2
    all_goals first |(exfalso;rename_i hh;simp only [aD] at hh;omega) | skip
    go_ret
    exact⟨rfl,K6.out.bel⟩
   ·have hb:=HN.out.ok.grp e
    have IT:=aB (fun W=>cY (n:=F.n) hb.1 (by omega) W)
    have l3:=cW hb.1 (show F.n<=255 by omega)
    rw [e] at EL n0
    have E:Hid (O=S ++ [103,114,111,117,112,32] ++ bB F.n.toNat ++ [10]):=by refine aB ?_;rw [EL.out];simp [eO]
    clear EL CS e HN hb
    generalize bB F.n.toNat=D at IT l3 E
    have z2:(txt D).size<=3:=by rw [aD];exact l3
    rw [aD] at zs
    have A1:txt S ++ (⟨#[103,114,111,117,112,32]⟩:ByteArray)=txt (S ++ [103,114,111,117,112,32]):=aI _ [103,114,111,117,112,32]
    have A2:txt (S ++ [103,114,111,117,112,32]) ++ txt D=txt (S ++ [103,114,111,117,112,32] ++ D):=aI _ _
    have A3:txt (S ++ [103,114,111,117,112,32] ++ D) ++ (⟨#[10]⟩:ByteArray)=txt (S ++ [103,114,111,117,112,32] ++ D ++ [10]):=aI _ [10]
    have z0:(txt S).size<=80:=by rw [aD];exact zs
    have z3:(txt (S ++ [103,114,111,117,112,32])).size<=90:=by rw [aD];simp;omega
    have z4:(txt (S ++ [103,114,111,117,112,32] ++ D)).size<=95:=by rw [aD];simp;omega
    rw [<- E.out] at A3
    generalize S ++ [103,114,111,117,112,32] ++ D=P2 at A2 A3 z4
    generalize S ++ [103,114,111,117,112,32]=P1 at A1 A2 z3
    go_wp2_with (go_at_call 94;refine(IT.out _).mono ?_;rintro e w7 ⟨rfl,h7⟩;have K7:=aB (K6.out.kept h7);clear h7)
    all_goals first |(exfalso;rename_i hh;simp only [aD] at hh;omega) | skip
    go_ret
    exact⟨rfl,K7.out.bel⟩
   ·have hb:=HN.out.ok.back e
    have IT:=aB (fun W=>cY (n:=F.n) hb.1 (by omega) W)
    have l3:=cW hb.1 (show F.n<=255 by omega)
    rw [e] at EL n0
    have E:Hid (O=S ++ [98,97,99,107,32] ++ bB F.n.toNat ++ [10]):=by refine aB ?_;rw [EL.out];simp [eO]
    clear EL CS e HN hb
    generalize bB F.n.toNat=D at IT l3 E
    have z2:(txt D).size<=3:=by rw [aD];exact l3
    rw [aD] at zs
    have A1:txt S ++ (⟨#[98,97,99,107,32]⟩:ByteArray)=txt (S ++ [98,97,99,107,32]):=aI _ [98,97,99,107,32]
    have A2:txt (S ++ [98,97,99,107,32]) ++ txt D=txt (S ++ [98,97,99,107,32] ++ D):=aI _ _
    have A3:txt (S ++ [98,97,99,107,32] ++ D) ++ (⟨#[10]⟩:ByteArray)=txt (S ++ [98,97,99,107,32] ++ D ++ [10]):=aI _ [10]
    have z0:(txt S).size<=80:=by rw [aD];exact zs
    have z3:(txt (S ++ [98,97,99,107,32])).size<=90:=by rw [aD];simp;omega
    have z4:(txt (S ++ [98,97,99,107,32] ++ D)).size<=95:=by rw [aD];simp;omega
    rw [<- E.out] at A3
    generalize S ++ [98,97,99,107,32] ++ D=P2 at A2 A3 z4
    generalize S ++ [98,97,99,107,32]=P1 at A1 A2 z3
    go_wp2_with (go_at_call 94;refine(IT.out _).mono ?_;rintro e w7 ⟨rfl,h7⟩;have K7:=aB (K6.out.kept h7);clear h7)
    all_goals first |(exfalso;rename_i hh;simp only [aD] at hh;omega) | skip
    go_ret
    exact⟨rfl,K7.out.bel⟩
   ·have hb0:=HN.out.ok.rep e
    have hb:(0<=F.mn/\F.mn<=255)/\(F.mx=-1\/(F.mn<=F.mx/\F.mx<=255)):=by simpa [dL] using hb0
    have IT:=aB (fun W=>cY (n:=F.mn) hb.1.1 hb.1.2 W)
    have l3:=cW hb.1.1 hb.1.2
    rw [e] at EL n0
    rw [aD] at zs
    have z0:(txt S).size<=80:=by rw [aD];exact zs
    by_cases h1:F.mx=-1
    ·have E:Hid (O=S ++ [114,101,112,32] ++ bB F.mn.toNat ++ [32] ++ [45,10]):=by refine aB ?_;rw [EL.out];simp [eO,h1]
     have q1:(F.mx==-1)=true:=by simpa using h1
     clear EL CS e HN hb hb0 h1
     generalize bB F.mn.toNat=D at IT l3 E
     have z2:(txt D).size<=3:=by rw [aD];exact l3
     have A1:txt S ++ (⟨#[114,101,112,32]⟩:ByteArray)=txt (S ++ [114,101,112,32]):=aI _ [114,101,112,32]
     have A2:txt (S ++ [114,101,112,32]) ++ txt D=txt (S ++ [114,101,112,32] ++ D):=aI _ _
     have A3:txt (S ++ [114,101,112,32] ++ D) ++ (⟨#[32]⟩:ByteArray)=txt (S ++ [114,101,112,32] ++ D ++ [32]):=aI _ [32]
     have A4:txt (S ++ [114,101,112,32] ++ D ++ [32]) ++ (⟨#[45,10]⟩:ByteArray)=txt (S ++ [114,101,112,32] ++ D ++ [32] ++ [45,10]):=aI _ [45,10]
     have z3:(txt (S ++ [114,101,112,32])).size<=90:=by rw [aD];simp;omega
     have z4:(txt (S ++ [114,101,112,32] ++ D)).size<=95:=by rw [aD];simp;omega
     have z5:(txt (S ++ [114,101,112,32] ++ D ++ [32])).size<=99:=by rw [aD];simp;omega
     rw [<- E.out] at A4
     generalize S ++ [114,101,112,32] ++ D ++ [32]=P3 at A3 A4 z5
     generalize S ++ [114,101,112,32] ++ D=P2 at A2 A3 z4
     generalize S ++ [114,101,112,32]=P1 at A1 A2 z3
     go_upto_region 26 with (go_at_call 94;refine(IT.out _).mono ?_;rintro e w7 ⟨rfl,h7⟩;have K7:=aB (K6.out.kept h7);have X7:=aB (show BoxN w7 bn F from (h7.block _ (aC X6.out)).trans X6.out);clear h7)
     all_goals first |(exfalso;rename_i hh;simp only [aD] at hh;omega) | skip
     clear n0 n1 n2 n3 n4 n5 a0 a1
     obtain⟨n0,n1,n2,n3,n4,n5⟩:=X7.out.six
     simp only [Nat.zero_add] at n1 n2 n3 n4 n5
     go_wp2
     all_goals first |(exfalso;rename_i hh;simp only [aD] at hh;omega) | skip
     go_ret
     exact⟨rfl,K7.out.bel⟩
    ·have hx:=hb.2.resolve_left h1
     have IU:=aB (fun W=>cY (n:=F.mx) (by omega) hx.2 W)
     have l4:=cW (n:=F.mx) (by omega) hx.2
     have E:Hid (O=S ++ [114,101,112,32] ++ bB F.mn.toNat ++ [32] ++ bB F.mx.toNat ++ [10]):=by refine aB ?_;rw [EL.out];simp [eO,h1]
     have q1:(F.mx==-1)=false:=by simpa using h1
     clear EL CS e HN hb hb0 h1 hx
     generalize bB F.mn.toNat=D at IT l3 E
     generalize bB F.mx.toNat=D' at IU l4 E
     have z2:(txt D).size<=3:=by rw [aD];exact l3
     have z2':(txt D').size<=3:=by rw [aD];exact l4
     have A1:txt S ++ (⟨#[114,101,112,32]⟩:ByteArray)=txt (S ++ [114,101,112,32]):=aI _ [114,101,112,32]
     have A2:txt (S ++ [114,101,112,32]) ++ txt D=txt (S ++ [114,101,112,32] ++ D):=aI _ _
     have A3:txt (S ++ [114,101,112,32] ++ D) ++ (⟨#[32]⟩:ByteArray)=txt (S ++ [114,101,112,32] ++ D ++ [32]):=aI _ [32]
     have A4:txt (S ++ [114,101,112,32] ++ D ++ [32]) ++ txt D'=txt (S ++ [114,101,112,32] ++ D ++ [32] ++ D'):=aI _ _
     have A5:txt (S ++ [114,101,112,32] ++ D ++ [32] ++ D') ++ (⟨#[10]⟩:ByteArray)=txt (S ++ [114,101,112,32] ++ D ++ [32] ++ D' ++ [10]):=aI _ [10]
     have z3:(txt (S ++ [114,101,112,32])).size<=90:=by rw [aD];simp;omega
     have z4:(txt (S ++ [114,101,112,32] ++ D)).size<=95:=by rw [aD];simp;omega
     have z5:(txt (S ++ [114,101,112,32] ++ D ++ [32])).size<=99:=by rw [aD];simp;omega
     have z6:(txt (S ++ [114,101,112,32] ++ D ++ [32] ++ D')).size<=105:=by rw [aD];simp;omega
     rw [<- E.out] at A5
     generalize S ++ [114,101,112,32] ++ D ++ [32] ++ D'=P4 at A4 A5 z6
     generalize S ++ [114,101,112,32] ++ D ++ [32]=P3 at A3 A4 z5
     generalize S ++ [114,101,112,32] ++ D=P2 at A2 A3 z4
     generalize S ++ [114,101,112,32]=P1 at A1 A2 z3
     go_upto_region 26 with (go_at_call 94;refine(IT.out _).mono ?_;rintro e w7 ⟨rfl,h7⟩;have K7:=aB (K6.out.kept h7);have X7:=aB (show BoxN w7 bn F from (h7.block _ (aC X6.out)).trans X6.out);clear h7)
     all_goals first |(exfalso;rename_i hh;simp only [aD] at hh;omega) | skip
     clear n0 n1 n2 n3 n4 n5 a0 a1
     obtain⟨n0,n1,n2,n3,n4,n5⟩:=X7.out.six
     simp only [Nat.zero_add] at n1 n2 n3 n4 n5
     go_wp2_with (go_at_call 94;refine(IU.out _).mono ?_;rintro e w8 ⟨rfl,h8⟩;have K8:=aB (K7.out.kept h8);clear h8)
     all_goals first |(exfalso;rename_i hh;simp only [aD] at hh;omega) | skip
     go_ret
     exact⟨rfl,K8.out.bel⟩
theorem vF{w:World}{t:Tr}(m:Md)(hT:TB w t)(hf:∀ x∈pp [] t,x.2.f.rs.length<=1048576) :
  Calls Tryz.prog 19 #[.agg #[.int .i64 t.f.k,.int .i64 t.f.n,.int .i64 t.f.mn,.int .i64 t.f.mx,.slice t.f.rq t.f.rs.length t.f.rc,.slice t.f.kq t.f.kl t.f.kc],.agg #[.bool m.c,.bool m.f]] w fun e w'=>e=.returned (.tuple #[.string (txt (dW m.c m.f t).1),.int .i64 (dW m.c m.f t).2])/\Below w.heap.size w w':=by
 have L1:=aB (TX.new m hT)
 have RT:=aB (fun W (hW:TX w t m W)=>uA m.c m.f hW.ta (fun x hx=>by have:=hf x hx;omega))
 have HF:=aB hf
 obtain⟨out,ho⟩:∃ o,dW m.c m.f t=o:=⟨_,rfl⟩
 rw [ho]
 unfold dW at ho
 obtain⟨r,hr⟩:∃ r,aS m.c m.f 0 0 (pp [] t)=r:=⟨_,rfl⟩
 have HR:=aB hr
 rw [hr] at ho RT
 clear hT hf hr
 go_enter Tryz.func19,Tryz.ntmps19
 go_upto_region 1 with fail
 generalize ((w.alloc (.cells #[.int .i64 t.f.k,.int .i64 t.f.n,.int .i64 t.f.mn,.int .i64 t.f.mx,.slice t.f.rq t.f.rs.length t.f.rc,.slice t.f.kq t.f.kl t.f.kc] 25)).alloc (.cells #[.bool m.c,.bool m.f] 27))=w1 at L1 ⊢
 obtain⟨n0,n1,n2,n3,n4,n5⟩:=L1.out.nd.six
 simp only [Nat.zero_add] at n1 n2 n3 n4 n5
 have a0:=aA L1.out.md (i:=0) rfl
 have a1:=aA L1.out.md (i:=1) rfl
 go_upto_region 2 with (go_at_call 44;refine(RT.out _ L1.out).mono ?_;rintro e w2 ⟨rfl,h2⟩;have L2:=aB (L1.out.kept h2);clear h2)
 clear n0 n1 n2 n3 n4 n5 a0 a1
 by_cases h0:r=0
 ·subst h0
  rw [if_neg (by simp)] at ho
  subst ho
  have NR:=aB (xZ HR.out)
  have OK:=aB (tE HR.out)
  have hln:=gU HR.out
  have LA:=aB (mL (w:=w2) 2000 (by omega) L2.out.ta)
  have HZM:Hid ((gD 2000 t).map (·.1)=pp [] t):=by refine aB ?_;rw [gC,List.take_of_length_le hln]
  have hzl:(gD 2000 t).length<=2000:=by have:=jP 2000 t;omega
  clear RT
  generalize gD 2000 t=Z at LA HZM hzl
  obtain⟨n0,n1,n2,n3,n4,n5⟩:=L2.out.nd.six
  simp only [Nat.zero_add] at n1 n2 n3 n4 n5
  have DL:Hid (∀ j,(cN m.c ((pp [] t).take j)).length<=224000200000):=fun j=>by
   have h1:=mR (c:=m.c) (f:=m.f) ((pp [] t).take j) (fun x hx=>OK.out x (List.mem_of_mem_take hx))
   have h2:((pp [] t).take j).length<=2000:=by rw [List.length_take];omega
   have h3:112000100 * ((pp [] t).take j).length<=112000100 * 2000:=Nat.mul_le_mul_left _ h2
   omega
  go_upto_region 7 with (go_at_call 43;refine(LA.out).mono ?_;rintro e w5 ⟨q5,k5,rfl,h51,h52⟩;have Z5:=aB h51;have L5:=aB (L2.out.kept h52);clear h51 h52)
  clear n0 n1 n2 n3 n4 n5 LA
  go_loopw [8,9] (fun s i wr=>∃ j:Nat,j<=Z.length/\i=.int .i64 (j:Int)/\s=.string (txt (cN m.c ((pp [] t).take j)))/\TX w t m wr/\Below w5.heap.size w5 wr) (fun _ i _=>Z.length - (intOf i).toNat)
  case atStart=>exact⟨0,Nat.zero_le _,rfl,rfl,L5.out,Below.refl _ _⟩
  case round=>
   obtain⟨j,hj,rfl,rfl,hB,hC⟩:=hrel
   have K:=aB hB
   have C:=aB hC
   clear hB hC
   obtain⟨A,hA⟩:∃ A,cN m.c ((pp [] t).take j)=A:=⟨_,rfl⟩
   have HA:=aB hA
   have hAl:A.length<=224000200000:=by rw [<- hA];exact DL.out j
   rw [hA]
   clear hA
   by_cases hlt:j < Z.length
   ·obtain⟨⟨x,o⟩,hx⟩:∃ z,Z[j]?=some z:=⟨_,List.getElem?_eq_getElem hlt⟩
    have hxp:(pp [] t)[j]?=some x:=by rw [<- HZM.out,List.getElem?_map,hx];rfl
    have inx:x∈pp [] t:=List.mem_of_getElem? hxp
    obtain⟨ga,cz,hq⟩:=aJ Z5.out (by omega)
    injection hq with hq1 _ hq2
    subst hq1 hq2
    have YA:ZR w2.heap.size wr (.slice (some ⟨ga,0,none⟩) Z.length k5) Z:=aO Z5.out (Fr.of_below (S:=fun _=>False) C.out) (fun _ _ z=>z)
    have x0:wr.cell? ⟨ga,j * 12,none⟩=some (.int .i64 x.2.f.k):=YA.cells hx (j:=0) rfl
    have x1:wr.cell? ⟨ga,j * 12+1,none⟩=some (.int .i64 x.2.f.n):=YA.cells hx (j:=1) rfl
    have x2:wr.cell? ⟨ga,j * 12+2,none⟩=some (.int .i64 x.2.f.mn):=YA.cells hx (j:=2) rfl
    have x3:wr.cell? ⟨ga,j * 12+3,none⟩=some (.int .i64 x.2.f.mx):=YA.cells hx (j:=3) rfl
    have x4:wr.cell? ⟨ga,j * 12+4,none⟩=some (.slice x.2.f.rq x.2.f.rs.length x.2.f.rc):=YA.cells hx (j:=4) rfl
    have x5:wr.cell? ⟨ga,j * 12+5,none⟩=some (.slice x.2.f.kq x.2.f.kl x.2.f.kc):=YA.cells hx (j:=5) rfl
    have x6:wr.cell? ⟨ga,j * 12+6,none⟩=some (.int .i64 ((x.1.length:Int)+1)):=YA.cells hx (j:=6) rfl
    have x7:wr.cell? ⟨ga,j * 12+7,none⟩=some (.int .i64 (arP x.1)):=YA.cells hx (j:=7) rfl
    have x8:wr.cell? ⟨ga,j * 12+8,none⟩=some (.bool (fiP x.1)):=YA.cells hx (j:=8) rfl
    have x9:wr.cell? ⟨ga,j * 12+9,none⟩=some (.bool (laP x.1)):=YA.cells hx (j:=9) rfl
    have x10:wr.cell? ⟨ga,j * 12+10,none⟩=some (.bool (brP x.1)):=YA.cells hx (j:=10) rfl
    have x11:wr.cell? ⟨ga,j * 12+11,none⟩=some (.int .i64 (o:Int)):=YA.cells hx (j:=11) rfl
    have hga:ga < wr.heap.size:=(aH YA rfl).2.1
    have a0:=aA K.out.md (i:=0) rfl
    have a1:=aA K.out.md (i:=1) rfl
    have i0:(0:Int)<=(j:Int):=by omega
    have i1:(j:Int) < (Z.length:Int):=by omega
    have hwr:IntKind.wrap .i64 ((j:Int)+1)=(j:Int)+1:=wrap_small _ (by omega) (by omega)
    have TT:=(K.out.drew.ta.at inx).node
    have RC:=aB (aA9 m x.2.f (OK.out x inx).2 (arP x.1) (o:Int) (fiP x.1) (laP x.1) (brP x.1) TT.r TT.fit (NR.out x inx) (HF.out x inx))
    have NX:Hid (cN m.c ((pp [] t).take (j+1))=A ++ eP m.c x.1.length x.2.f):=by
     refine aB ?_
     rw [List.take_add_one,hxp]
     show cN m.c ((pp [] t).take j ++ [x])=_
     rw [mS,HA.out]
    have hLl:(eP m.c x.1.length x.2.f).length<=112000100:=qV (OK.out x inx).1 (OK.out x inx).2
    clear YA TT hx hxp HA
    generalize eP m.c x.1.length x.2.f=D at RC NX hLl
    have z1:(txt A).size<=224000200000:=by rw [aD];exact hAl
    have z2:(txt D).size<=112000100:=by rw [aD];exact hLl
    have A1:txt A ++ txt D=txt (A ++ D):=aI _ _
    generalize A ++ D=P at A1 NX
    go_upto_region 9 with fail
    go_region_with (go_at_call 46;refine(RC.out).mono ?_;rintro e w6 ⟨rfl,h6⟩;have K6:=aB (K.out.drew.kept h6);have C6:=aB (aG C.out.drew h6 lz9);clear h6)
    all_goals first |(exfalso;rename_i hh;simp only [aD] at hh;omega) | skip
    all_goals go_wp2
    all_goals first |(exfalso;rename_i hh;simp only [aD] at hh;omega) | skip
    all_goals (
     go_roundw
     case rel=>exact⟨j+1,by omega,by go_num,by rw [NX.out],K6.out,C6.out⟩
     case measure=>simp [intOf];omega)
   ·have hz:(pp [] t).length=Z.length:=by rw [<- HZM.out,List.length_map]
    obtain rfl:j=Z.length:=by omega
    rw [<- hz,List.take_length] at HA
    have i1:¬ (Z.length:Int) < (Z.length:Int):=by omega
    go_wp2
    go_ret2
    exact⟨by rw [HA.out];rfl,K.out.bel⟩
 ·rw [if_pos h0] at ho
  subst ho
  have q:(r != 0)=true:=by simpa using h0
  clear RT
  go_wp2
  go_ret2
  exact⟨rfl,L2.out.bel⟩
theorem NB.foot{W:World}{t:Tr}(h:NB W t):yU (fun k=>k < W.heap.size) t:=by
 refine⟨fun a e hz=>?_,fun a e hz=>?_⟩
 ·rcases h.r with⟨p,cap,-,e2,-⟩ | ⟨g,off,cap,e2,hg,-⟩
  ·exact absurd e2 hz
  ·injection e2 with e3
   rw [e] at e3
   cases e3
   exact hg
 ·rcases h.k with⟨p,cap,-,e2,-⟩ | ⟨g,off,cap,e2,hg,-⟩
  ·exact absurd e2 hz
  ·injection e2 with e3
   rw [e] at e3
   cases e3
   exact hg
theorem TB.foot{W:World}{t:Tr}(h:TB W t):Foot (fun k=>k < W.heap.size) t:=eZ (fun _=>NB.foot) t h
theorem NB.ckN{N:Nat->Prop}{W W':World}{t:Tr}(h:NB W t)(hf:yU N t)(hc:CKeep N W W'):NB W' t:=by
 refine⟨?_,?_,h.fit,h.len⟩
 ·rcases h.r with q | ⟨g,off,cap,e,hg,h1,h2,h3⟩
  ·exact .inl q
  ·injection e with e1 e2 e3
   refine .inr ⟨g,off,cap,by rw [e1,e3],Nat.lt_of_lt_of_le hg hc.size,h1,h2,fun i x hx=>?_⟩
   have hN:N g:=hf.1 _ e1 (fun z=>by rw [z] at hx;simp at hx)
   exact⟨cC hc (p:=⟨g,off+2 * i,none⟩) hN (h3 i x hx).1,cC hc (p:=⟨g,off+2 * i+1,none⟩) hN (h3 i x hx).2⟩
 ·rcases h.k with q | ⟨g,off,cap,e,hg,h1,h2,h3⟩
  ·exact .inl q
  ·injection e with e1 e2 e3
   refine .inr ⟨g,off,cap,by rw [e1,e2,e3],Nat.lt_of_lt_of_le hg hc.size,h1,h2,fun i x hx=>(h3 i x hx).ck hc (hf.2 _ e1 (fun z=>by rw [z] at hx;simp at hx))⟩
theorem TB.ckN{N:Nat->Prop}{W W':World}{t:Tr}(h:TB W t)(hf:Foot N t)(hc:CKeep N W W'):TB W' t:=kW (fun _ a b=>NB.ckN a b hc) t h hf
abbrev zFl:Fl:=⟨0,0,0,0,[],none,0,none,0,0⟩
structure CI(w1:World)(b bz:Nat)(t:Tr)(rv:Value)(nk:List Tr)(v:Value)(W:World):Prop where
 bx:BoxN W b t.f
 rz:BoxN W bz zFl
 rr:RR w1.heap.size W rv t.f.rs
 row:W.ownsRow w1.heap.size 25 6 v nk.length (cS nk)
 new:∀ u∈nk,TB W u/\Foot (fun k=>w1.heap.size<=k/\v.ownBlock≠some k) u
 bel:Below w1.heap.size w1 W
theorem CI.kept{w1:World}{b bz:Nat}{t:Tr}{rv:Value}{nk:List Tr}{v:Value}{W W':World}(h:CI w1 b bz t rv nk v W)(hb:Below W.heap.size W W'):CI w1 b bz t rv nk v W':=
 ⟨(hb.block _ (aC h.bx)).trans h.bx,(hb.block _ (aC h.rz)).trans h.rz,aO h.rr (Fr.of_below (S:=fun _=>False) hb) (fun _ _ q=>q),aO h.row (Fr.of_below (S:=fun _=>False) hb) (fun _ _ q=>q),fun u hu=>⟨(h.new u hu).1.kept hb,(h.new u hu).2⟩,aG h.bel hb lz9⟩
theorem CI.snoc{w1:World}{b bz:Nat}{t:Tr}{rv:Value}{nk:List Tr}{v v':Value}{W W5 W6 W7:World}{u:Tr}(h:CI w1 b bz t rv nk v W)(hbw:b < w1.heap.size)(hbz:bz < w1.heap.size)(h5:Below W.heap.size W W5)(hu:TB W5 u)(hf:Foot (fun k=>W.heap.size<=k) u)(h6:Below W5.heap.size W5 W6)
  (ho:W7.ownsRow w1.heap.size 25 6 v' (nk.length+1) (cS nk ++ u.f.cells)) (hg:W6.grownBy W7 v.ownBlock) (hv:v'.ownBlock=v.ownBlock\/v'.ownBlock=some W6.heap.size):CI w1 b bz t rv (nk ++ [u]) v' W7:=by
 have B6:Below W.heap.size W W6:=aG h5 h6 lz9
 have h':=h.kept B6
 have F:Fr (fun k=>v.ownBlock=some k) W6 W7:=(Fr.refl _ _).grown hg (fun k hk=>hk)
 have hlo:∀ k,v.ownBlock=some k->w1.heap.size<=k:=fun k hk=>(aH h.row hk).1
 have hlt:∀ k,v.ownBlock=some k->k < W.heap.size:=fun k hk=>(aH h.row hk).2.1
 have box:∀ {k:Nat} {f:Fl},k < w1.heap.size->BoxN W6 k f->BoxN W7 k f:=fun {k f} hk hx=>(F.block k (aC hx) (fun q=>by have:=hlo k q;omega)).trans hx
 refine⟨box hbw h'.bx,box hbz h'.rz,?_,?_,fun x hx=>?_,uT h'.bel lz9 h'.row hg⟩
 ·exact aO h'.rr F (fun k hk q=>iS h'.rr h'.row (by decide) hk q)
 ·rw [List.length_append,nR,show cS [u]=u.f.cells by simp [cS]]
  exact ho
 ·have fresh:∀ k,k < W6.heap.size->v.ownBlock≠some k->v'.ownBlock≠some k:=fun k hk hn q=>by
   rcases hv with e | e
   ·exact hn (e.symm.trans q)
   ·rw [e] at q;have:=Option.some.inj q;omega
  rcases List.mem_append.1 hx with hx | hx
  ·obtain⟨a1,a2⟩:=h'.new x hx
   have a3:Foot (fun k=>k < W6.heap.size/\(w1.heap.size<=k/\v.ownBlock≠some k)) x:=kW (fun _ p q=>⟨fun a e z=>⟨p.1 a e z,q.1 a e z⟩,fun a e z=>⟨p.2 a e z,q.2 a e z⟩⟩) x a1.foot a2
   exact⟨a1.ckN a3 (F.ckeep (fun k q p=>p.2.2 q)),a3.mono fun k q=>⟨q.2.1,fresh k q.1 q.2.2⟩⟩
  ·obtain rfl:=List.mem_singleton.1 hx
   have a1:=hu.kept h6
   have a3:Foot (fun k=>k < W6.heap.size/\W.heap.size<=k) x:=kW (fun _ p q=>⟨fun a e z=>⟨p.1 a e z,q.1 a e z⟩,fun a e z=>⟨p.2 a e z,q.2 a e z⟩⟩) x a1.foot hf
   have hs:=h.bel.size
   exact⟨a1.ckN a3 (F.ckeep (fun k q p=>by have:=hlt k q;omega)),a3.mono fun k q=>⟨by omega,fresh k q.1 (fun z=>by have:=hlt k z;omega)⟩⟩
theorem CI.tree{w1:World}{b bz:Nat}{t:Tr}{nk:List Tr}{rq kq:Option Addr}{rc kc:Nat}{W W':World}(h:CI w1 b bz t (.slice rq t.f.rs.length rc) nk (.slice kq nk.length kc) W)(hbw:b < w1.heap.size)(hbz:bz < w1.heap.size)(hF:Fit t.f.rs)(hl:t.f.rs.length+3<=8796093022208)
  (hf:Fr (fun k=>k=b\/k=bz) W W') (w0:Nat) (hw0:w0<=w1.heap.size):TB W' (.mk ⟨t.f.k,t.f.n,t.f.mn,t.f.mx,t.f.rs,rq,rc,kq,nk.length,kc⟩ nk)/\Foot (fun k=>w0<=k) (.mk ⟨t.f.k,t.f.n,t.f.mn,t.f.mx,t.f.rs,rq,rc,kq,nk.length,kc⟩ nk):=by
 have rr:RR w1.heap.size W' (.slice rq t.f.rs.length rc) t.f.rs:=aO h.rr hf (fun k hk q=>by have:=(aH h.rr hk).1;rcases q with rfl | rfl <;> omega)
 have row:W'.ownsRow w1.heap.size 25 6 (.slice kq nk.length kc) nk.length (cS nk):=aO h.row hf (fun k hk q=>by have:=(aH h.row hk).1;rcases q with rfl | rfl <;> omega)
 refine⟨(aX _).2 ⟨⟨rr.arg,aA8 row,hF,hl⟩,(bD _).2 fun u hu=>?_⟩,(aX _).2 ⟨⟨fun a e z=>?_,fun a e z=>?_⟩,(bD _).2 fun u hu=>?_⟩⟩
 ·exact(h.new u hu).1.ckN (h.new u hu).2 (hf.ckeep (fun k q p=>by rcases q with rfl | rfl <;> omega))
 ·have:=(aH rr (g:=a.block) (by rw [show rq=some a from e];rfl)).1;omega
 ·have:=(aH row (g:=a.block) (by rw [show kq=some a from e];rfl)).1;omega
 ·exact(h.new u hu).2.mono fun k q=>by omega
theorem oA{R:Ending->World->Prop}{a:Act}{W:World}{b:Nat}{f:Fl}(h:Six W b 0 f)(ha:a.tmps[2]?.getD undef=.pointer (some ⟨b,0,none⟩))(hd:a.defers=[])(hR:R (.returned (.agg #[.int .i64 f.k,.int .i64 f.n,.int .i64 f.mn,.int .i64 f.mx,.slice f.rq f.rs.length f.rc,.slice f.kq f.kl f.kc])) W):bodyPost Tryz.prog Tryz.f17 R .ret a W:=by
 obtain⟨z0,z1,z2,z3,z4,z5⟩:=h
 simp only [Nat.zero_add] at z1 z2 z3 z4 z5
 refine bodyPost_ret (v:=.agg #[.int .i64 f.k,.int .i64 f.n,.int .i64 f.mn,.int .i64 f.mx,.slice f.rq f.rs.length f.rc,.slice f.kq f.kl f.kc]) ?_ hd hR
 simp [results,Tryz.results17,go_sem,ha,z0,z1,z2,z3,z4,z5]
def aK6(w:World)(x:Er)(e:Ending)(w':World):Prop:=∃ t',e=.returned (.agg #[.int .i64 t'.f.k,.int .i64 t'.f.n,.int .i64 t'.f.mn,.int .i64 t'.f.mx,.slice t'.f.rq t'.f.rs.length t'.f.rc,.slice t'.f.kq t'.f.kl t'.f.kc])/\TB w' t'/\er t'=x/\Foot (fun k=>w.heap.size<=k) t'/\Below w.heap.size w w'
theorem aE7:∀ (m:Nat) (t:Tr) (w:World),t.sz<=m->t.sz<=1000000->TB w t->Calls Tryz.prog 17 #[.agg #[.int .i64 t.f.k,.int .i64 t.f.n,.int .i64 t.f.mn,.int .i64 t.f.mx,.slice t.f.rq t.f.rs.length t.f.rc,.slice t.f.kq t.f.kl t.f.kc]] w (aK6 w (er t)):=by
 intro m
 induction m with
 | zero=>intro t w hm;exact absurd (kI t) (by omega)
 | succ m ih=>
  intro t w hm hsz hta
  have IH:=aB ih
  have HM:=aB hm
  have HTA:=aB hta
  have HKL:=aB hta.node.kl
  have hkn:t.ks.length<=1000000:=by have:=uK t.ks;rw [lE] at hsz;omega
  have hln:=hta.node.len
  have HSZ:=aB hsz
  obtain⟨t0,hi,hz0,hz1,hz2⟩:=aQ bS
  obtain⟨s0,ji,jz0,jz1,jz2⟩:=aQ vC
  have B0:Hid (Below w.heap.size w ((w.alloc (.cells #[.int .i64 t.f.k,.int .i64 t.f.n,.int .i64 t.f.mn,.int .i64 t.f.mx,.slice t.f.rq t.f.rs.length t.f.rc,.slice t.f.kq t.f.kl t.f.kc] 25)).alloc (.cells #[.int .i64 0,.int .i64 0,.int .i64 0,.int .i64 0,.slice none 0 0,.slice none 0 0] 25))):=(bz9).alloc (by simp) _
  have N0:Hid (BoxN ((w.alloc (.cells #[.int .i64 t.f.k,.int .i64 t.f.n,.int .i64 t.f.mn,.int .i64 t.f.mx,.slice t.f.rq t.f.rs.length t.f.rc,.slice t.f.kq t.f.kl t.f.kc] 25)).alloc (.cells #[.int .i64 0,.int .i64 0,.int .i64 0,.int .i64 0,.slice none 0 0,.slice none 0 0] 25)) w.heap.size t.f):=(Below.heap_alloc _ _ _ (by simp)).trans (aF w _)
  have R0:Hid (BoxN ((w.alloc (.cells #[.int .i64 t.f.k,.int .i64 t.f.n,.int .i64 t.f.mn,.int .i64 t.f.mx,.slice t.f.rq t.f.rs.length t.f.rc,.slice t.f.kq t.f.kl t.f.kc] 25)).alloc (.cells #[.int .i64 0,.int .i64 0,.int .i64 0,.int .i64 0,.slice none 0 0,.slice none 0 0] 25)) (w.heap.size+1) zFl):=aB (by
   have:=aF (w.alloc (.cells #[.int .i64 t.f.k,.int .i64 t.f.n,.int .i64 t.f.mn,.int .i64 t.f.mx,.slice t.f.rq t.f.rs.length t.f.rc,.slice t.f.kq t.f.kl t.f.kc] 25)) (.cells #[.int .i64 0,.int .i64 0,.int .i64 0,.int .i64 0,.slice none 0 0,.slice none 0 0] 25)
   rwa [World.size_alloc] at this)
  clear ih hm hta hsz
  go_enter Tryz.func17,Tryz.ntmps17
  go_upto_region 1 with fail
  have hsw1:((w.alloc (.cells #[.int .i64 t.f.k,.int .i64 t.f.n,.int .i64 t.f.mn,.int .i64 t.f.mx,.slice t.f.rq t.f.rs.length t.f.rc,.slice t.f.kq t.f.kl t.f.kc] 25)).alloc (.cells #[.int .i64 0,.int .i64 0,.int .i64 0,.int .i64 0,.slice none 0 0,.slice none 0 0] 25)).heap.size=w.heap.size+2:=by simp
  generalize ((w.alloc (.cells #[.int .i64 t.f.k,.int .i64 t.f.n,.int .i64 t.f.mn,.int .i64 t.f.mx,.slice t.f.rq t.f.rs.length t.f.rc,.slice t.f.kq t.f.kl t.f.kc] 25)).alloc (.cells #[.int .i64 0,.int .i64 0,.int .i64 0,.int .i64 0,.slice none 0 0,.slice none 0 0] 25))=w1 at B0 N0 R0 hsw1 ⊢
  have T1:=aB (HTA.out.kept B0.out)
  obtain⟨n0,n1,n2,n3,n4,n5⟩:=N0.out.six
  simp only [Nat.zero_add] at n1 n2 n3 n4 n5
  cases hrq:t.f.rq with
  | none=>
   have hr0:t.f.rs=[]/\t.f.rc=0:=by
    rcases HTA.out.node.r with⟨p,cap,e,e2,e3⟩ | ⟨g,off,cap,e,_⟩
    ·rw [hrq] at e
     injection e with e4 e5 e6
     exact⟨e2,e6.trans (e3 e4.symm)⟩
    ·rw [hrq] at e
     injection e with e4
     cases e4
   rw [hrq,hr0.1,hr0.2] at n4
   have HR0:=aB hr0
   clear hr0
   have SV:(.slice none 0 0:Value)=.slice none t.f.rs.length 0:=by rw [HR0.out.1];rfl
   have OV:w1.ownsRow w1.heap.size 48 2 (.slice none t.f.rs.length 0) t.f.rs.length (aK t.f.rs):=by rw [HR0.out.1];exact World.ownsRow_nil _ _ _ _
   have HSV:=aB SV
   have O2:Hid (RR w1.heap.size w1 (.slice none t.f.rs.length 0) t.f.rs):=OV
   have B2:Hid (Below w1.heap.size w1 w1):=Below.refl _ _
   clear SV OV
   go_upto_region 3 with (at_builtin;refine wpList_append_own_none rfl _ _ 22 rfl w1.heap.size 48 t0 2 aR hi (.slice none t.f.rs.length 0) t.f.rs.length (aK t.f.rs) HSV.out O2.out rfl ?_)
   have C0:Hid (CI w1 w.heap.size (w.heap.size+1) t (.slice none t.f.rs.length 0) [] (.slice none 0 0) w1):=⟨(B2.out.block _ (by omega)).trans N0.out,(B2.out.block _ (by omega)).trans R0.out,O2.out,World.ownsRow_nil _ _ _ _,fun u hu=>(by cases hu),B2.out⟩
   clear n0 n1 n2 n3 n4 n5
   go_wp2
   go_loopw [4,5] (fun s i wr=>∃ (j:Nat) (nk:List Tr) (kq:Option Addr) (kc:Nat),j<=t.ks.length/\i=.int .i64 (j:Int)/\s=.slice kq nk.length kc/\nk.map er=(t.ks.take j).map er/\CI w1 w.heap.size (w.heap.size+1) t (.slice none t.f.rs.length 0) nk (.slice kq nk.length kc) wr) (fun _ i _=>t.ks.length - (intOf i).toNat)
   case atStart=>exact⟨0,[],none,0,Nat.zero_le _,rfl,rfl,rfl,C0.out⟩
   case round=>
    obtain⟨j,nk,kq,kc,hj,rfl,rfl,hmap,hC⟩:=hrel
    have K:=aB hC
    have HMP:=aB hmap
    have hnl:nk.length<=1000000:=by have:=congrArg List.length hmap;rw [List.length_map,List.length_map,List.length_take] at this;omega
    have BW:Hid (Below w.heap.size w wr):=aG B0.out K.out.bel (by omega)
    obtain⟨n0,n1,n2,n3,n4,n5⟩:=K.out.bx.six
    simp only [Nat.zero_add] at n1 n2 n3 n4 n5
    have l1:=aC K.out.bx
    clear hmap hC
    by_cases hlt:j < t.ks.length
    ·obtain⟨u,hu⟩:∃ u,t.ks[j]?=some u:=⟨_,List.getElem?_eq_getElem hlt⟩
     have inu:u∈t.ks:=List.mem_of_getElem? hu
     obtain⟨qk,capk,e1,hm1,hcp1,hx1⟩:=HTA.out.node.k.slice
     injection e1 with e11 e12 e13
     obtain⟨g,o,eq,hg,six⟩:=hx1 j u hu
     rw [e11,HKL.out,eq] at n5
     obtain⟨c0,c1,c2',c3,c4,c5⟩:=six.ck (CK.of_below BW.out) hg
     have hgr:g < wr.heap.size:=Nat.lt_of_lt_of_le hg BW.out.size
     have i0:(0:Int)<=(j:Int):=by omega
     have i1:(j:Int) < (t.ks.length:Int):=by omega
     have hwr:IntKind.wrap .i64 ((j:Int)+1)=(j:Int)+1:=wrap_small _ (by omega) (by omega)
     have CU:=aB (IH.out u wr (by have:=dX inu;have:=HM.out;omega) (by have:=dX inu;have:=HSZ.out;omega) ((HTA.out.kid inu).kept BW.out))
     have NX:Hid (∀ u',er u'=er u->(nk ++ [u']).map er=(t.ks.take (j+1)).map er):=fun u' he=>by rw [List.take_add_one,hu,List.map_append,List.map_append,HMP.out];simp [he]
     clear six hu e11 e12 e13 eq hx1 hm1 hcp1
     go_upto_region 8 with (go_at_call 17;refine(CU.out).mono ?_;rintro e w5 ⟨u',rfl,h51,h52,h53,h54⟩;have T5:=aB h51;have E5:=aB h52;have F5:=aB h53;have B5:=aB h54;clear h51 h52 h53 h54)
     have N6:Hid (BoxN (w5.alloc (.cells #[.int .i64 u'.f.k,.int .i64 u'.f.n,.int .i64 u'.f.mn,.int .i64 u'.f.mx,.slice u'.f.rq u'.f.rs.length u'.f.rc,.slice u'.f.kq u'.f.kl u'.f.kc] 25)) w5.heap.size u'.f):=aF w5 _
     have B6:Hid (Below w5.heap.size w5 (w5.alloc (.cells #[.int .i64 u'.f.k,.int .i64 u'.f.n,.int .i64 u'.f.mn,.int .i64 u'.f.mx,.slice u'.f.rq u'.f.rs.length u'.f.rc,.slice u'.f.kq u'.f.kl u'.f.kc] 25))):=bz9
     clear n0 n1 n2 n3 n4 n5 c0 c1 c2' c3 c4 c5
     generalize hz5:w5.heap.size=z5 at N6 B6 ⊢
     generalize (w5.alloc (.cells #[.int .i64 u'.f.k,.int .i64 u'.f.n,.int .i64 u'.f.mn,.int .i64 u'.f.mx,.slice u'.f.rq u'.f.rs.length u'.f.rc,.slice u'.f.kq u'.f.kl u'.f.kc] 25))=w6 at N6 B6 ⊢
     obtain⟨n0,n1,n2,n3,n4,n5⟩:=N6.out.six
     simp only [Nat.zero_add] at n1 n2 n3 n4 n5
     have B7:Hid (Below w6.heap.size w6 (w6.alloc (.cells #[.int .i64 u'.f.k,.int .i64 u'.f.n,.int .i64 u'.f.mn,.int .i64 u'.f.mx,.slice u'.f.rq u'.f.rs.length u'.f.rc,.slice u'.f.kq u'.f.kl u'.f.kc] 25))):=bz9
     have N7:=aB (qG (aF w6 (.cells #[.int .i64 u'.f.k,.int .i64 u'.f.n,.int .i64 u'.f.mn,.int .i64 u'.f.mx,.slice u'.f.rq u'.f.rs.length u'.f.rc,.slice u'.f.kq u'.f.kl u'.f.kc] 25)))
     have K7:=aB (((K.out.kept B5.out).kept (by rw [hz5];exact B6.out)).kept B7.out)
     have B67:Hid (Below w5.heap.size w5 (w6.alloc (.cells #[.int .i64 u'.f.k,.int .i64 u'.f.n,.int .i64 u'.f.mn,.int .i64 u'.f.mx,.slice u'.f.rq u'.f.rs.length u'.f.rc,.slice u'.f.kq u'.f.kl u'.f.kc] 25))):=aG (by rw [hz5];exact B6.out) B7.out lz9
     go_wp2_with (at_builtin;refine wpList_append_own_at _ rfl _ _ 23 rfl w1.heap.size 25 s0 (.agg #[.int .i64 0,.int .i64 0,.int .i64 0,.int .i64 0,.slice none 0 0,.slice none 0 0]) 6 80 nT ji jz0 jz1 jz2 rfl (by decide) (.slice kq nk.length kc) nk.length (cS nk) rfl K7.out.row ⟨w6.heap.size,0,none⟩ 1 1 u'.f.cells rfl rfl N7.out (fun v hv=>by simp [Fl.cells] at hv;rcases hv with rfl | rfl | rfl | rfl | rfl | rfl <;> rfl) (by unfold maxLen;omega) (by omega) K7.out.bel.size ?_;intro v' w8 hown' hgrow _ hblk;obtain⟨q8,c8,rfl⟩:=aL hown';have K8:=aB (K.out.snoc (by omega) (by omega) B5.out T5.out F5.out B67.out hown' hgrow hblk);clear hown' hgrow hblk)
     go_roundw
     case rel=>exact⟨j+1,nk ++ [u'],q8,c8,by omega,by go_num,by rw [List.length_append];rfl,NX.out u' E5.out,by rw [List.length_append];exact K8.out⟩
     case measure=>simp [intOf];omega
    ·obtain rfl:j=t.ks.length:=by omega
     rw [List.take_length] at HMP
     rw [HKL.out] at n5
     have i1:¬ (t.ks.length:Int) < (t.ks.length:Int):=by omega
     have fb:=fun z=>bE K.out.bx z
     have hbz:w.heap.size+1 < wr.heap.size:=aC K.out.rz
     have BX1:Hid (BoxN (wr.setCell ⟨w.heap.size,4,none⟩ (.slice none t.f.rs.length 0)) w.heap.size ⟨t.f.k,t.f.n,t.f.mn,t.f.mx,t.f.rs,none,0,t.f.kq,t.f.kl,t.f.kc⟩):=aU K.out.bx 4 _
     have F1:Hid (Fr (fun z=>z=w.heap.size) wr (wr.setCell ⟨w.heap.size,4,none⟩ (.slice none t.f.rs.length 0))):=(Fr.refl (fun z=>z=w.heap.size) wr).setCell (p:=⟨w.heap.size,4,none⟩) rfl _
     go_upto_region 10 with fail
     clear n0 n1 n2 n3 n4 n5 fb
     generalize (wr.setCell ⟨w.heap.size,4,none⟩ (.slice none t.f.rs.length 0))=w10 at BX1 F1 ⊢
     obtain⟨n0,n1,n2,n3,n4,n5⟩:=BX1.out.six
     simp only [Nat.zero_add] at n1 n2 n3 n4 n5
     have fb:=fun z=>bE BX1.out z
     have BX2:Hid (BoxN (w10.setCell ⟨w.heap.size,5,none⟩ (.slice kq nk.length kc)) w.heap.size ⟨t.f.k,t.f.n,t.f.mn,t.f.mx,t.f.rs,none,0,kq,nk.length,kc⟩):=aU BX1.out 5 _
     have F2:Hid (Fr (fun z=>z=w.heap.size) wr (w10.setCell ⟨w.heap.size,5,none⟩ (.slice kq nk.length kc))):=F1.out.setCell (p:=⟨w.heap.size,5,none⟩) rfl _
     go_upto_region 11 with fail
     clear n0 n1 n2 n3 n4 n5 fb
     generalize (w10.setCell ⟨w.heap.size,5,none⟩ (.slice kq nk.length kc))=w11 at BX2 F2 ⊢
     have RS:BoxN w11 (w.heap.size+1) zFl:=(F2.out.block _ hbz (by omega)).trans K.out.rz
     obtain⟨n0,n1,n2,n3,n4,n5⟩:=BX2.out.six
     simp only [Nat.zero_add] at n1 n2 n3 n4 n5
     obtain⟨r0,r1,r2,r3,r4,r5⟩:=RS.six
     simp only [Nat.zero_add] at r1 r2 r3 r4 r5
     have rz:=fun z=>bE RS z
     have FP:=pA w11 (w.heap.size+1) 0 ⟨t.f.k,t.f.n,t.f.mn,t.f.mx,t.f.rs,none,0,kq,nk.length,kc⟩
     have FA:Fr (fun k=>k=w.heap.size\/k=w.heap.size+1) wr (iP w11 (w.heap.size+1) 0 ⟨t.f.k,t.f.n,t.f.mn,t.f.mx,t.f.rs,none,0,kq,nk.length,kc⟩):=(F2.out.mono fun k hk=>.inl hk).trans (FP.mono fun k hk=>.inr hk)
     have TR:=aB (K.out.tree (by omega) (by omega) HTA.out.node.fit hln FA w.heap.size (by omega))
     have BE:Hid (Below w.heap.size w (iP w11 (w.heap.size+1) 0 ⟨t.f.k,t.f.n,t.f.mn,t.f.mx,t.f.rs,none,0,kq,nk.length,kc⟩)):=cL BW.out FA lz9 (fun k e=>by omega)
     have X9:=aB (mC (g:=⟨t.f.k,t.f.n,t.f.mn,t.f.mx,t.f.rs,none,0,kq,nk.length,kc⟩) RS.six)
     have XE:=aB (show er (.mk ⟨t.f.k,t.f.n,t.f.mn,t.f.mx,t.f.rs,none,0,kq,nk.length,kc⟩ nk)=er t by
      rw [iI,iI t]
      show Er.mk t.f.k t.f.n t.f.mn t.f.mx t.f.rs (nk.map er)=_
      rw [HMP.out])
     have PST:Hid (aK6 w (er t) (.returned (.agg #[.int .i64 t.f.k,.int .i64 t.f.n,.int .i64 t.f.mn,.int .i64 t.f.mx,.slice none t.f.rs.length 0,.slice kq nk.length kc])) (iP w11 (w.heap.size+1) 0 ⟨t.f.k,t.f.n,t.f.mn,t.f.mx,t.f.rs,none,0,kq,nk.length,kc⟩)):=⟨_,rfl,TR.out.1,XE.out,TR.out.2,BE.out⟩
     unfold iP at X9 PST
     clear RS FP FA TR BE XE K
     go_wp2
     refine oA X9.out rfl rfl ?_
     exact PST.out
  | some ad=>
   rw [hrq] at n4
   have HG:=aB (T1.out.node.r)
   rw [hrq] at HG
   go_upto_region 3 with (at_builtin;refine wpList_append_own_at _ rfl _ _ 22 rfl w1.heap.size 48 t0 (.agg #[.int .i64 0,.int .i64 0]) 2 16 aR hi hz0 hz1 hz2 rfl (by decide) (.slice none 0 0) 0 [] rfl (World.ownsRow_nil _ _ _ _) ad t.f.rs.length t.f.rc (aK t.f.rs) rfl (by rw [cA]) HG.out.news (fP t.f.rs) (by unfold maxLen;omega) (by omega) lz9 ?_;rw [Nat.zero_add,List.nil_append];intro v' w2 hown' hgrow _ hblk;obtain⟨q2,c2,rfl⟩:=aL hown';have O2:Hid (RR w1.heap.size w2 (.slice q2 t.f.rs.length c2) t.f.rs):=hown';have B2:Hid (Below w1.heap.size w1 w2):=uT (Below.refl _ _) lz9 (World.ownsRow_nil (base:=w1.heap.size) w1 48 2) hgrow;clear hown' hgrow hblk)
   have C0:Hid (CI w1 w.heap.size (w.heap.size+1) t (.slice q2 t.f.rs.length c2) [] (.slice none 0 0) w2):=⟨(B2.out.block _ (by omega)).trans N0.out,(B2.out.block _ (by omega)).trans R0.out,O2.out,World.ownsRow_nil _ _ _ _,fun u hu=>(by cases hu),B2.out⟩
   clear n0 n1 n2 n3 n4 n5
   go_wp2
   go_loopw [4,5] (fun s i wr=>∃ (j:Nat) (nk:List Tr) (kq:Option Addr) (kc:Nat),j<=t.ks.length/\i=.int .i64 (j:Int)/\s=.slice kq nk.length kc/\nk.map er=(t.ks.take j).map er/\CI w1 w.heap.size (w.heap.size+1) t (.slice q2 t.f.rs.length c2) nk (.slice kq nk.length kc) wr) (fun _ i _=>t.ks.length - (intOf i).toNat)
   case atStart=>exact⟨0,[],none,0,Nat.zero_le _,rfl,rfl,rfl,C0.out⟩
   case round=>
    obtain⟨j,nk,kq,kc,hj,rfl,rfl,hmap,hC⟩:=hrel
    have K:=aB hC
    have HMP:=aB hmap
    have hnl:nk.length<=1000000:=by have:=congrArg List.length hmap;rw [List.length_map,List.length_map,List.length_take] at this;omega
    have BW:Hid (Below w.heap.size w wr):=aG B0.out K.out.bel (by omega)
    obtain⟨n0,n1,n2,n3,n4,n5⟩:=K.out.bx.six
    simp only [Nat.zero_add] at n1 n2 n3 n4 n5
    have l1:=aC K.out.bx
    clear hmap hC
    by_cases hlt:j < t.ks.length
    ·obtain⟨u,hu⟩:∃ u,t.ks[j]?=some u:=⟨_,List.getElem?_eq_getElem hlt⟩
     have inu:u∈t.ks:=List.mem_of_getElem? hu
     obtain⟨qk,capk,e1,hm1,hcp1,hx1⟩:=HTA.out.node.k.slice
     injection e1 with e11 e12 e13
     obtain⟨g,o,eq,hg,six⟩:=hx1 j u hu
     rw [e11,HKL.out,eq] at n5
     obtain⟨c0,c1,c2',c3,c4,c5⟩:=six.ck (CK.of_below BW.out) hg
     have hgr:g < wr.heap.size:=Nat.lt_of_lt_of_le hg BW.out.size
     have i0:(0:Int)<=(j:Int):=by omega
     have i1:(j:Int) < (t.ks.length:Int):=by omega
     have hwr:IntKind.wrap .i64 ((j:Int)+1)=(j:Int)+1:=wrap_small _ (by omega) (by omega)
     have CU:=aB (IH.out u wr (by have:=dX inu;have:=HM.out;omega) (by have:=dX inu;have:=HSZ.out;omega) ((HTA.out.kid inu).kept BW.out))
     have NX:Hid (∀ u',er u'=er u->(nk ++ [u']).map er=(t.ks.take (j+1)).map er):=fun u' he=>by rw [List.take_add_one,hu,List.map_append,List.map_append,HMP.out];simp [he]
     clear six hu e11 e12 e13 eq hx1 hm1 hcp1
     go_upto_region 8 with (go_at_call 17;refine(CU.out).mono ?_;rintro e w5 ⟨u',rfl,h51,h52,h53,h54⟩;have T5:=aB h51;have E5:=aB h52;have F5:=aB h53;have B5:=aB h54;clear h51 h52 h53 h54)
     have N6:Hid (BoxN (w5.alloc (.cells #[.int .i64 u'.f.k,.int .i64 u'.f.n,.int .i64 u'.f.mn,.int .i64 u'.f.mx,.slice u'.f.rq u'.f.rs.length u'.f.rc,.slice u'.f.kq u'.f.kl u'.f.kc] 25)) w5.heap.size u'.f):=aF w5 _
     have B6:Hid (Below w5.heap.size w5 (w5.alloc (.cells #[.int .i64 u'.f.k,.int .i64 u'.f.n,.int .i64 u'.f.mn,.int .i64 u'.f.mx,.slice u'.f.rq u'.f.rs.length u'.f.rc,.slice u'.f.kq u'.f.kl u'.f.kc] 25))):=bz9
     clear n0 n1 n2 n3 n4 n5 c0 c1 c2' c3 c4 c5
     generalize hz5:w5.heap.size=z5 at N6 B6 ⊢
     generalize (w5.alloc (.cells #[.int .i64 u'.f.k,.int .i64 u'.f.n,.int .i64 u'.f.mn,.int .i64 u'.f.mx,.slice u'.f.rq u'.f.rs.length u'.f.rc,.slice u'.f.kq u'.f.kl u'.f.kc] 25))=w6 at N6 B6 ⊢
     obtain⟨n0,n1,n2,n3,n4,n5⟩:=N6.out.six
     simp only [Nat.zero_add] at n1 n2 n3 n4 n5
     have B7:Hid (Below w6.heap.size w6 (w6.alloc (.cells #[.int .i64 u'.f.k,.int .i64 u'.f.n,.int .i64 u'.f.mn,.int .i64 u'.f.mx,.slice u'.f.rq u'.f.rs.length u'.f.rc,.slice u'.f.kq u'.f.kl u'.f.kc] 25))):=bz9
     have N7:=aB (qG (aF w6 (.cells #[.int .i64 u'.f.k,.int .i64 u'.f.n,.int .i64 u'.f.mn,.int .i64 u'.f.mx,.slice u'.f.rq u'.f.rs.length u'.f.rc,.slice u'.f.kq u'.f.kl u'.f.kc] 25)))
     have K7:=aB (((K.out.kept B5.out).kept (by rw [hz5];exact B6.out)).kept B7.out)
     have B67:Hid (Below w5.heap.size w5 (w6.alloc (.cells #[.int .i64 u'.f.k,.int .i64 u'.f.n,.int .i64 u'.f.mn,.int .i64 u'.f.mx,.slice u'.f.rq u'.f.rs.length u'.f.rc,.slice u'.f.kq u'.f.kl u'.f.kc] 25))):=aG (by rw [hz5];exact B6.out) B7.out lz9
     go_wp2_with (at_builtin;refine wpList_append_own_at _ rfl _ _ 23 rfl w1.heap.size 25 s0 (.agg #[.int .i64 0,.int .i64 0,.int .i64 0,.int .i64 0,.slice none 0 0,.slice none 0 0]) 6 80 nT ji jz0 jz1 jz2 rfl (by decide) (.slice kq nk.length kc) nk.length (cS nk) rfl K7.out.row ⟨w6.heap.size,0,none⟩ 1 1 u'.f.cells rfl rfl N7.out (fun v hv=>by simp [Fl.cells] at hv;rcases hv with rfl | rfl | rfl | rfl | rfl | rfl <;> rfl) (by unfold maxLen;omega) (by omega) K7.out.bel.size ?_;intro v' w8 hown' hgrow _ hblk;obtain⟨q8,c8,rfl⟩:=aL hown';have K8:=aB (K.out.snoc (by omega) (by omega) B5.out T5.out F5.out B67.out hown' hgrow hblk);clear hown' hgrow hblk)
     go_roundw
     case rel=>exact⟨j+1,nk ++ [u'],q8,c8,by omega,by go_num,by rw [List.length_append];rfl,NX.out u' E5.out,by rw [List.length_append];exact K8.out⟩
     case measure=>simp [intOf];omega
    ·obtain rfl:j=t.ks.length:=by omega
     rw [List.take_length] at HMP
     rw [HKL.out] at n5
     have i1:¬ (t.ks.length:Int) < (t.ks.length:Int):=by omega
     have fb:=fun z=>bE K.out.bx z
     have hbz:w.heap.size+1 < wr.heap.size:=aC K.out.rz
     have BX1:Hid (BoxN (wr.setCell ⟨w.heap.size,4,none⟩ (.slice q2 t.f.rs.length c2)) w.heap.size ⟨t.f.k,t.f.n,t.f.mn,t.f.mx,t.f.rs,q2,c2,t.f.kq,t.f.kl,t.f.kc⟩):=aU K.out.bx 4 _
     have F1:Hid (Fr (fun z=>z=w.heap.size) wr (wr.setCell ⟨w.heap.size,4,none⟩ (.slice q2 t.f.rs.length c2))):=(Fr.refl (fun z=>z=w.heap.size) wr).setCell (p:=⟨w.heap.size,4,none⟩) rfl _
     go_upto_region 10 with fail
     clear n0 n1 n2 n3 n4 n5 fb
     generalize (wr.setCell ⟨w.heap.size,4,none⟩ (.slice q2 t.f.rs.length c2))=w10 at BX1 F1 ⊢
     obtain⟨n0,n1,n2,n3,n4,n5⟩:=BX1.out.six
     simp only [Nat.zero_add] at n1 n2 n3 n4 n5
     have fb:=fun z=>bE BX1.out z
     have BX2:Hid (BoxN (w10.setCell ⟨w.heap.size,5,none⟩ (.slice kq nk.length kc)) w.heap.size ⟨t.f.k,t.f.n,t.f.mn,t.f.mx,t.f.rs,q2,c2,kq,nk.length,kc⟩):=aU BX1.out 5 _
     have F2:Hid (Fr (fun z=>z=w.heap.size) wr (w10.setCell ⟨w.heap.size,5,none⟩ (.slice kq nk.length kc))):=F1.out.setCell (p:=⟨w.heap.size,5,none⟩) rfl _
     go_upto_region 11 with fail
     clear n0 n1 n2 n3 n4 n5 fb
     generalize (w10.setCell ⟨w.heap.size,5,none⟩ (.slice kq nk.length kc))=w11 at BX2 F2 ⊢
     have RS:BoxN w11 (w.heap.size+1) zFl:=(F2.out.block _ hbz (by omega)).trans K.out.rz
     obtain⟨n0,n1,n2,n3,n4,n5⟩:=BX2.out.six
     simp only [Nat.zero_add] at n1 n2 n3 n4 n5
     obtain⟨r0,r1,r2,r3,r4,r5⟩:=RS.six
     simp only [Nat.zero_add] at r1 r2 r3 r4 r5
     have rz:=fun z=>bE RS z
     have FP:=pA w11 (w.heap.size+1) 0 ⟨t.f.k,t.f.n,t.f.mn,t.f.mx,t.f.rs,q2,c2,kq,nk.length,kc⟩
     have FA:Fr (fun k=>k=w.heap.size\/k=w.heap.size+1) wr (iP w11 (w.heap.size+1) 0 ⟨t.f.k,t.f.n,t.f.mn,t.f.mx,t.f.rs,q2,c2,kq,nk.length,kc⟩):=(F2.out.mono fun k hk=>.inl hk).trans (FP.mono fun k hk=>.inr hk)
     have TR:=aB (K.out.tree (by omega) (by omega) HTA.out.node.fit hln FA w.heap.size (by omega))
     have BE:Hid (Below w.heap.size w (iP w11 (w.heap.size+1) 0 ⟨t.f.k,t.f.n,t.f.mn,t.f.mx,t.f.rs,q2,c2,kq,nk.length,kc⟩)):=cL BW.out FA lz9 (fun k e=>by omega)
     have X9:=aB (mC (g:=⟨t.f.k,t.f.n,t.f.mn,t.f.mx,t.f.rs,q2,c2,kq,nk.length,kc⟩) RS.six)
     have XE:=aB (show er (.mk ⟨t.f.k,t.f.n,t.f.mn,t.f.mx,t.f.rs,q2,c2,kq,nk.length,kc⟩ nk)=er t by
      rw [iI,iI t]
      show Er.mk t.f.k t.f.n t.f.mn t.f.mx t.f.rs (nk.map er)=_
      rw [HMP.out])
     have PST:Hid (aK6 w (er t) (.returned (.agg #[.int .i64 t.f.k,.int .i64 t.f.n,.int .i64 t.f.mn,.int .i64 t.f.mx,.slice q2 t.f.rs.length c2,.slice kq nk.length kc])) (iP w11 (w.heap.size+1) 0 ⟨t.f.k,t.f.n,t.f.mn,t.f.mx,t.f.rs,q2,c2,kq,nk.length,kc⟩)):=⟨_,rfl,TR.out.1,XE.out,TR.out.2,BE.out⟩
     unfold iP at X9 PST
     clear RS FP FA TR BE XE K
     go_wp2
     refine oA X9.out rfl rfl ?_
     exact PST.out
abbrev Sg:=Int × Int × Int × Int × List (Int × Int) × Nat
def sig(t:Tr):Sg:=(t.f.k,t.f.n,t.f.mn,t.f.mx,t.f.rs,t.ks.length)
def sgs(l:List El):List Sg:=l.map fun x=>sig x.2
theorem fE(a b:List El):sgs (a ++ b)=sgs a ++ sgs b:=by simp [sgs]
theorem xB{a b:Tr}(h:er a=er b):sig a=sig b:=by
 obtain⟨h1,h2,h3,h4,h5,h6⟩:=(mQ a b).1 h
 have:=congrArg List.length h6
 rw [List.length_map,List.length_map] at this
 unfold sig
 rw [h1,h2,h3,h4,h5,this]
theorem aA3(a:Tr):∀ (b:Tr) (p q:Way) (X Y:List Sg),sgs (pp p a) ++ X=sgs (pp q b) ++ Y->er a=er b/\X=Y:=by
 refine Tr.ind (P:=fun a=>∀ (b:Tr) (p q:Way) (X Y:List Sg),sgs (pp p a) ++ X=sgs (pp q b) ++ Y->er a=er b/\X=Y) (fun a ih b p q X Y h=>?_) a
 have key:∀ (ks js:List Tr) (i i':Nat) (X Y:List Sg),(∀ u∈ks,u∈a.ks)->ks.length=js.length->sgs (pps a p i ks) ++ X=sgs (pps b q i' js) ++ Y->ks.map er=js.map er/\X=Y:=by
  intro ks
  induction ks with
  | nil=>
   intro js i i' X Y _ hl h
   cases js with
   | nil=>rw [aV,aV] at h;exact⟨rfl,h⟩
   | cons v js=>cases hl
  | cons u ks ihk=>
   intro js i i' X Y hm hl h
   cases js with
   | nil=>cases hl
   | cons v js=>
    rw [aT,aT,fE,fE,List.append_assoc,List.append_assoc] at h
    obtain⟨h1,h2⟩:=ih u (hm u List.mem_cons_self) v _ _ _ _ h
    obtain⟨h3,h4⟩:=ihk js _ _ X Y (fun z hz=>hm z (List.mem_cons_of_mem _ hz)) (by simpa using hl) h2
    rw [List.map_cons,List.map_cons,h1,h3]
    exact⟨rfl,h4⟩
 rw [bQ,bQ] at h
 simp only [sgs,List.map_cons,List.cons_append] at h
 injection h with h1 h2
 obtain⟨h5,h6⟩:=key a.ks b.ks 0 0 X Y (fun _ z=>z) (congrArg (fun s:Sg=>s.2.2.2.2.2) h1) h2
 refine⟨(mQ a b).2 ⟨congrArg (fun s:Sg=>s.1) h1,congrArg (fun s:Sg=>s.2.1) h1,congrArg (fun s:Sg=>s.2.2.1) h1,congrArg (fun s:Sg=>s.2.2.2.1) h1,congrArg (fun s:Sg=>s.2.2.2.2.1) h1,h5⟩,h6⟩
theorem aH8(a:Tr):∀ (b:Tr) (p q:Way),er a=er b->sgs (pp p a)=sgs (pp q b):=by
 refine Tr.ind (P:=fun a=>∀ (b:Tr) (p q:Way),er a=er b->sgs (pp p a)=sgs (pp q b)) (fun a ih b p q h=>?_) a
 have hs:=xB h
 obtain⟨-,-,-,-,-,h6⟩:=(mQ a b).1 h
 have key:∀ (ks js:List Tr) (i i':Nat),(∀ u∈ks,u∈a.ks)->ks.map er=js.map er->sgs (pps a p i ks)=sgs (pps b q i' js):=by
  intro ks
  induction ks with
  | nil=>
   intro js i i' _ hl
   cases js with
   | nil=>rw [aV,aV]
   | cons v js=>cases hl
  | cons u ks ihk=>
   intro js i i' hm hl
   cases js with
   | nil=>cases hl
   | cons v js=>
    rw [List.map_cons,List.map_cons] at hl
    injection hl with h1 h2
    rw [aT,aT,fE,fE,ih u (hm u List.mem_cons_self) v _ _ h1,ihk js _ _ (fun z hz=>hm z (List.mem_cons_of_mem _ hz)) h2]
 rw [bQ,bQ]
 have:=key a.ks b.ks 0 0 (fun _ z=>z) h6
 simp only [sgs,List.map_cons] at this ⊢
 rw [hs,this]
theorem lY(a b:Tr):lF (er a) (er b)=true ↔ sgs (pp [] a)=sgs (pp [] b):=by
 rw [nX]
 refine⟨aH8 a b [] [],fun h=>(aA3 a b [] [] [] [] (by rw [h])).1⟩
theorem aA2(a b:Tr)(h:sgs (pp [] a)=sgs (pp [] b)):(pp [] a).length=(pp [] b).length:=by
 have:=congrArg List.length h
 simpa [sgs] using this
noncomputable def rsB (a b:Tr):Bool:=!decide (2000 < (pp [] a).length) && !decide (2000 < (pp [] b).length) && lF (er a) (er b)
theorem xG{a b:Tr}(h:iZ a≠iZ b\/2000 < iZ a):rsB a b=false:=by
 unfold rsB iZ at *
 cases hs:lF (er a) (er b) with
 | false=>rw [Bool.and_false]
 | true=>
  have hl:=aA2 a b ((lY a b).1 hs)
  rw [decide_eq_true (show 2000 < (pp [] a).length by omega)]
  rfl
theorem aI1{a b:Tr}(h1:iZ a=iZ b)(h2:¬ 2000 < iZ a):rsB a b=lF (er a) (er b)/\(pp [] a).length<=2000/\(pp [] b).length<=2000:=by
 unfold rsB iZ at *
 have l1:(pp [] a).length<=2000:=by omega
 have l2:(pp [] b).length<=2000:=by omega
 rw [decide_eq_false (by omega),decide_eq_false (by omega)]
 exact⟨rfl,l1,l2⟩
theorem aI0{w:World}{a b:Tr}(ha:TB w a)(hb:TB w b):Calls Tryz.prog 20 #[.agg #[.int .i64 a.f.k,.int .i64 a.f.n,.int .i64 a.f.mn,.int .i64 a.f.mx,.slice a.f.rq a.f.rs.length a.f.rc,.slice a.f.kq a.f.kl a.f.kc],.agg #[.int .i64 b.f.k,.int .i64 b.f.n,.int .i64 b.f.mn,.int .i64 b.f.mx,.slice b.f.rq b.f.rs.length b.f.rc,.slice b.f.kq b.f.kl b.f.kc]] w fun e w'=>e=.returned (.bool (rsB a b))/\Below w.heap.size w w':=by
 have B1:Hid (Below w.heap.size w ((w.alloc (.cells #[.int .i64 a.f.k,.int .i64 a.f.n,.int .i64 a.f.mn,.int .i64 a.f.mx,.slice a.f.rq a.f.rs.length a.f.rc,.slice a.f.kq a.f.kl a.f.kc] 25)).alloc (.cells #[.int .i64 b.f.k,.int .i64 b.f.n,.int .i64 b.f.mn,.int .i64 b.f.mx,.slice b.f.rq b.f.rs.length b.f.rc,.slice b.f.kq b.f.kl b.f.kc] 25))):=(bz9).alloc (by simp) _
 have NA1:Hid (BoxN ((w.alloc (.cells #[.int .i64 a.f.k,.int .i64 a.f.n,.int .i64 a.f.mn,.int .i64 a.f.mx,.slice a.f.rq a.f.rs.length a.f.rc,.slice a.f.kq a.f.kl a.f.kc] 25)).alloc (.cells #[.int .i64 b.f.k,.int .i64 b.f.n,.int .i64 b.f.mn,.int .i64 b.f.mx,.slice b.f.rq b.f.rs.length b.f.rc,.slice b.f.kq b.f.kl b.f.kc] 25)) w.heap.size a.f):=(Below.heap_alloc _ _ _ (by simp)).trans (aF w _)
 have NB1:Hid (BoxN ((w.alloc (.cells #[.int .i64 a.f.k,.int .i64 a.f.n,.int .i64 a.f.mn,.int .i64 a.f.mx,.slice a.f.rq a.f.rs.length a.f.rc,.slice a.f.kq a.f.kl a.f.kc] 25)).alloc (.cells #[.int .i64 b.f.k,.int .i64 b.f.n,.int .i64 b.f.mn,.int .i64 b.f.mx,.slice b.f.rq b.f.rs.length b.f.rc,.slice b.f.kq b.f.kl b.f.kc] 25)) (w.heap.size+1) b.f):=(by
  have:=aF (w.alloc (.cells #[.int .i64 a.f.k,.int .i64 a.f.n,.int .i64 a.f.mn,.int .i64 a.f.mx,.slice a.f.rq a.f.rs.length a.f.rc,.slice a.f.kq a.f.kl a.f.kc] 25)) (.cells #[.int .i64 b.f.k,.int .i64 b.f.n,.int .i64 b.f.mn,.int .i64 b.f.mx,.slice b.f.rq b.f.rs.length b.f.rc,.slice b.f.kq b.f.kl b.f.kc] 25)
  rwa [World.size_alloc] at this)
 have HA:=aB ha
 have HB:=aB hb
 obtain⟨R,hR⟩:∃ R,rsB a b=R:=⟨_,rfl⟩
 rw [hR]
 have HR:=aB hR
 clear ha hb hR
 go_enter Tryz.func20,Tryz.ntmps20
 go_upto_region 1 with fail
 generalize ((w.alloc (.cells #[.int .i64 a.f.k,.int .i64 a.f.n,.int .i64 a.f.mn,.int .i64 a.f.mx,.slice a.f.rq a.f.rs.length a.f.rc,.slice a.f.kq a.f.kl a.f.kc] 25)).alloc (.cells #[.int .i64 b.f.k,.int .i64 b.f.n,.int .i64 b.f.mn,.int .i64 b.f.mx,.slice b.f.rq b.f.rs.length b.f.rc,.slice b.f.kq b.f.kl b.f.kc] 25))=W1 at B1 NA1 NB1 ⊢
 generalize w.heap.size+1=bb at NB1 ⊢
 obtain⟨c0,c1,c2,c3,c4,c5⟩:=NA1.out.six
 simp only [Nat.zero_add] at c1 c2 c3 c4 c5
 have LA:=aB (mL (w:=W1) 2001 (by omega) (HA.out.kept B1.out))
 have hza:=kS a
 have HMA:=aB (gC 2001 a)
 generalize gD 2001 a=ZA at LA hza HMA
 have HZA:=aB hza
 clear hza
 go_upto_region 2 with (go_at_call 43;refine(LA.out).mono ?_;rintro e w5 ⟨q5,k5,rfl,h51,h52⟩;have Z5:=aB h51;have B5:=aB h52;clear h51 h52)
 clear c0 c1 c2 c3 c4 c5 LA
 obtain⟨c0,c1,c2,c3,c4,c5⟩:=(show BoxN w5 bb b.f from (B5.out.block _ (aC NB1.out)).trans NB1.out).six
 simp only [Nat.zero_add] at c1 c2 c3 c4 c5
 have B6:=aB (aG B1.out B5.out lz9)
 have LB:=aB (mL (w:=w5) 2001 (by omega) (HB.out.kept B6.out))
 have hzb:=kS b
 have HMB:=aB (gC 2001 b)
 generalize gD 2001 b=ZB at LB hzb HMB
 have HZB:=aB hzb
 clear hzb
 go_upto_region 3 with (go_at_call 43;refine(LB.out).mono ?_;rintro e w7 ⟨q7,k7,rfl,h51,h52⟩;have Z7:=aB h51;have B7:=aB h52;clear h51 h52)
 have Y7:Hid (ZR W1.heap.size w7 (.slice q5 ZA.length k5) ZA):=aO Z5.out (Fr.of_below (S:=fun _=>False) B7.out) (fun _ _ z=>z)
 have B8:=aB (aG B6.out B7.out lz9)
 have hua:iZ a<=2001:=Nat.min_le_right _ _
 have hub:iZ b<=2001:=Nat.min_le_right _ _
 have hal:ZA.length<=2001:=by rw [HZA.out];exact hua
 have hbl:ZB.length<=2001:=by rw [HZB.out];exact hub
 clear c0 c1 c2 c3 c4 c5 LB B1 B5 B6 B7 Z5 NA1 NB1 hua hub
 by_cases hne:ZA.length=ZB.length
 ·have e0:((ZA.length:Int) != (ZB.length:Int))=false:=by simp;omega
  by_cases hbig:2000 < ZA.length
  ·have e1:(2000:Int) < (ZA.length:Int):=by omega
   have HF:=aB (HR.out.symm.trans (xG (.inr (by rw [<- HZA.out];exact hbig))))
   clear hne hbig
   go_wp2
   go_ret
   exact⟨by rw [HF.out];rfl,B8.out⟩
  ·have e1:¬ (2000:Int) < (ZA.length:Int):=by omega
   obtain⟨h1,h2,h3⟩:=aI1 (a:=a) (b:=b) (by rw [<- HZA.out,<- HZB.out];exact hne) (by rw [<- HZA.out];exact hbig)
   have HQ:=aB (HR.out.symm.trans h1)
   have HEA:=aB (show ZA.map (·.1)=pp [] a by rw [HMA.out,List.take_of_length_le (by omega)])
   have HEB:=aB (show ZB.map (·.1)=pp [] b by rw [HMB.out,List.take_of_length_le (by omega)])
   have HNE:=aB hne
   clear h1 h2 h3 hbig HMA HMB HZA HZB
   go_upto_region 6 with fail
   go_loopw [7] (fun i wr=>∃ j:Nat,j<=ZA.length/\i=.int .i64 (j:Int)/\Below w7.heap.size w7 wr/\(sgs (pp [] a)).take j=(sgs (pp [] b)).take j) (fun i _=>ZA.length - (intOf i).toNat)
   case atStart=>exact⟨0,Nat.zero_le _,rfl,Below.refl _ _,rfl⟩
   case round=>
    obtain⟨j,hj,rfl,hbw,hsg⟩:=hrel
    have HBW:=aB hbw
    have HSG:=aB hsg
    clear hbw hsg
    by_cases hjl:j < ZA.length
    ·have i0:(j:Int) < (ZA.length:Int):=by omega
     have i1:(j:Int) < (ZB.length:Int):=by omega
     obtain⟨x,hx⟩:∃ x,ZA[j]?=some x:=⟨_,List.getElem?_eq_getElem hjl⟩
     obtain⟨y,hy⟩:∃ y,ZB[j]?=some y:=⟨_,List.getElem?_eq_getElem (by omega)⟩
     obtain⟨ga,ca,hqa⟩:=aJ Y7.out (by omega)
     obtain⟨gb,cb,hqb⟩:=aJ Z7.out (by omega)
     injection hqa with hqa1 _ hqa2
     injection hqb with hqb1 _ hqb2
     subst hqa1 hqa2 hqb1 hqb2
     have YA:ZR W1.heap.size wr (.slice (some ⟨ga,0,none⟩) ZA.length k5) ZA:=aO Y7.out (Fr.of_below (S:=fun _=>False) HBW.out) (fun _ _ z=>z)
     have YB:ZR w5.heap.size wr (.slice (some ⟨gb,0,none⟩) ZB.length k7) ZB:=aO Z7.out (Fr.of_below (S:=fun _=>False) HBW.out) (fun _ _ z=>z)
     have x0:wr.cell? ⟨ga,j * 12,none⟩=some (.int .i64 x.1.2.f.k):=YA.cells hx (j:=0) rfl
     have x1:wr.cell? ⟨ga,j * 12+1,none⟩=some (.int .i64 x.1.2.f.n):=YA.cells hx (j:=1) rfl
     have x2:wr.cell? ⟨ga,j * 12+2,none⟩=some (.int .i64 x.1.2.f.mn):=YA.cells hx (j:=2) rfl
     have x3:wr.cell? ⟨ga,j * 12+3,none⟩=some (.int .i64 x.1.2.f.mx):=YA.cells hx (j:=3) rfl
     have x4:wr.cell? ⟨ga,j * 12+4,none⟩=some (.slice x.1.2.f.rq x.1.2.f.rs.length x.1.2.f.rc):=YA.cells hx (j:=4) rfl
     have x5:wr.cell? ⟨ga,j * 12+5,none⟩=some (.slice x.1.2.f.kq x.1.2.f.kl x.1.2.f.kc):=YA.cells hx (j:=5) rfl
     have y0:wr.cell? ⟨gb,j * 12,none⟩=some (.int .i64 y.1.2.f.k):=YB.cells hy (j:=0) rfl
     have y1:wr.cell? ⟨gb,j * 12+1,none⟩=some (.int .i64 y.1.2.f.n):=YB.cells hy (j:=1) rfl
     have y2:wr.cell? ⟨gb,j * 12+2,none⟩=some (.int .i64 y.1.2.f.mn):=YB.cells hy (j:=2) rfl
     have y3:wr.cell? ⟨gb,j * 12+3,none⟩=some (.int .i64 y.1.2.f.mx):=YB.cells hy (j:=3) rfl
     have y4:wr.cell? ⟨gb,j * 12+4,none⟩=some (.slice y.1.2.f.rq y.1.2.f.rs.length y.1.2.f.rc):=YB.cells hy (j:=4) rfl
     have y5:wr.cell? ⟨gb,j * 12+5,none⟩=some (.slice y.1.2.f.kq y.1.2.f.kl y.1.2.f.kc):=YB.cells hy (j:=5) rfl
     have hxa:(pp [] a)[j]?=some x.1:=by rw [<- HEA.out,List.getElem?_map,hx];rfl
     have hyb:(pp [] b)[j]?=some y.1:=by rw [<- HEB.out,List.getElem?_map,hy];rfl
     have lga:ga < wr.heap.size:=(aH YA (g:=ga) rfl).2.1
     have lgb:gb < wr.heap.size:=(aH YB (g:=gb) rfl).2.1
     have BW:=aG B8.out HBW.out lz9
     have TX:=(HA.out.at (List.mem_of_getElem? hxa)).node.ck (CK.of_below BW)
     have TY:=(HB.out.at (List.mem_of_getElem? hyb)).node.ck (CK.of_below BW)
     have klx:=TX.kl
     have kly:=TY.kl
     have SN:Hid (sig x.1.2=sig y.1.2->(sgs (pp [] a)).take (j+1)=(sgs (pp [] b)).take (j+1)):=fun h=>(by
      rw [List.take_add_one,List.take_add_one,HSG.out]
      simp only [sgs,List.getElem?_map,hxa,hyb,Option.map_some]
      rw [h])
     have SD:Hid (sig x.1.2≠sig y.1.2->R=false):=fun h=>(by
      rw [HQ.out]
      cases hs:lF (er a) (er b) with
      | false=>rfl
      | true=>
       exfalso
       have:=(lY a b).1 hs
       have h2:=congrArg (fun l=>l[j]?) this
       simp only [sgs,List.getElem?_map,hxa,hyb,Option.map_some] at h2
       injection h2 with h2
       exact h h2)
     have SG:=aB (show sig x.1.2=sig y.1.2 ↔ x.1.2.f.k=y.1.2.f.k/\x.1.2.f.n=y.1.2.f.n/\x.1.2.f.mn=y.1.2.f.mn/\x.1.2.f.mx=y.1.2.f.mx/\x.1.2.f.rs=y.1.2.f.rs/\x.1.2.f.kl=y.1.2.f.kl by
      unfold sig
      rw [klx,kly]
      simp [Prod.ext_iff])
     obtain⟨⟨wa,ta⟩,oa⟩:=x
     obtain⟨⟨wb,tb⟩,ob⟩:=y
     dsimp only at *
     have TX':=aB TX
     have TY':=aB TY
     clear hx hy hxa hyb YA YB TX TY klx kly BW
     go_upto_region 10 with fail
     have K2:Below wr.heap.size wr ((wr.alloc (.cells #[.int .i64 ta.f.k,.int .i64 ta.f.n,.int .i64 ta.f.mn,.int .i64 ta.f.mx,.slice ta.f.rq ta.f.rs.length ta.f.rc,.slice ta.f.kq ta.f.kl ta.f.kc] 25)).alloc (.cells #[.int .i64 tb.f.k,.int .i64 tb.f.n,.int .i64 tb.f.mn,.int .i64 tb.f.mx,.slice tb.f.rq tb.f.rs.length tb.f.rc,.slice tb.f.kq tb.f.kl tb.f.kc] 25)):=(bz9).alloc (by simp) _
     have N8:Hid (BoxN ((wr.alloc (.cells #[.int .i64 ta.f.k,.int .i64 ta.f.n,.int .i64 ta.f.mn,.int .i64 ta.f.mx,.slice ta.f.rq ta.f.rs.length ta.f.rc,.slice ta.f.kq ta.f.kl ta.f.kc] 25)).alloc (.cells #[.int .i64 tb.f.k,.int .i64 tb.f.n,.int .i64 tb.f.mn,.int .i64 tb.f.mx,.slice tb.f.rq tb.f.rs.length tb.f.rc,.slice tb.f.kq tb.f.kl tb.f.kc] 25)) wr.heap.size ta.f):=(Below.heap_alloc _ _ _ (by simp)).trans (aF wr _)
     have N9:Hid (BoxN ((wr.alloc (.cells #[.int .i64 ta.f.k,.int .i64 ta.f.n,.int .i64 ta.f.mn,.int .i64 ta.f.mx,.slice ta.f.rq ta.f.rs.length ta.f.rc,.slice ta.f.kq ta.f.kl ta.f.kc] 25)).alloc (.cells #[.int .i64 tb.f.k,.int .i64 tb.f.n,.int .i64 tb.f.mn,.int .i64 tb.f.mx,.slice tb.f.rq tb.f.rs.length tb.f.rc,.slice tb.f.kq tb.f.kl tb.f.kc] 25)) (wr.heap.size+1) tb.f):=(by
      have:=aF (wr.alloc (.cells #[.int .i64 ta.f.k,.int .i64 ta.f.n,.int .i64 ta.f.mn,.int .i64 ta.f.mx,.slice ta.f.rq ta.f.rs.length ta.f.rc,.slice ta.f.kq ta.f.kl ta.f.kc] 25)) (.cells #[.int .i64 tb.f.k,.int .i64 tb.f.n,.int .i64 tb.f.mn,.int .i64 tb.f.mx,.slice tb.f.rq tb.f.rs.length tb.f.rc,.slice tb.f.kq tb.f.kl tb.f.kc] 25)
      rwa [World.size_alloc] at this)
     have AK:=aB (lR (TX'.out.ck (CK.of_below K2)).r (TY'.out.ck (CK.of_below K2)).r)
     have HK2:=aB K2
     clear K2
     generalize ((wr.alloc (.cells #[.int .i64 ta.f.k,.int .i64 ta.f.n,.int .i64 ta.f.mn,.int .i64 ta.f.mx,.slice ta.f.rq ta.f.rs.length ta.f.rc,.slice ta.f.kq ta.f.kl ta.f.kc] 25)).alloc (.cells #[.int .i64 tb.f.k,.int .i64 tb.f.n,.int .i64 tb.f.mn,.int .i64 tb.f.mx,.slice tb.f.rq tb.f.rs.length tb.f.rc,.slice tb.f.kq tb.f.kl tb.f.kc] 25))=W2 at N8 N9 AK HK2 ⊢
     generalize wr.heap.size+1=b9 at N9 ⊢
     obtain⟨b8,hb8⟩:∃ b8,wr.heap.size=b8:=⟨_,rfl⟩
     rw [hb8] at N8 ⊢
     clear hb8
     have a4:W2.cell? ⟨b8,4,none⟩=some (.slice ta.f.rq ta.f.rs.length ta.f.rc):=N8.out.six.2.2.2.2.1
     have d4:W2.cell? ⟨b9,4,none⟩=some (.slice tb.f.rq tb.f.rs.length tb.f.rc):=N9.out.six.2.2.2.2.1
     obtain⟨rr,hrr⟩:∃ rr,decide (ta.f.rs=tb.f.rs)=rr:=⟨_,rfl⟩
     rw [hrr] at AK
     have HRR:=aB hrr
     clear hrr x0 x1 x2 x3 x4 x5 y0 y1 y2 y3 y4 y5
     go_upto_region 11 with (go_at_call 22;(with_reducible refine(AK.out).mono ?_);rintro e W3 ⟨rfl,h3⟩;have B3:=aB h3;have N8':=aB ((h3.block _ (aC N8.out)).trans N8.out);have N9':=aB ((h3.block _ (aC N9.out)).trans N9.out);clear h3)
     have HB4:=aB (aG HBW.out (aG HK2.out B3.out lz9) (by have:=HBW.out.size;omega))
     obtain⟨x0,x1,x2,x3,x4,x5⟩:=(show BoxN W3 b8 ta.f from N8'.out).six
     obtain⟨y0,y1,y2,y3,y4,y5⟩:=(show BoxN W3 b9 tb.f from N9'.out).six
     simp only [Nat.zero_add] at x1 x2 x3 x4 x5 y1 y2 y3 y4 y5
     clear a4 d4 N8 N9 AK HK2 B3 N8' N9'
     obtain⟨S,hS⟩:∃ S:Bool,(S=true ↔ sig ta=sig tb):=by
      by_cases h:sig ta=sig tb
      ·exact⟨true,⟨fun _=>h,fun _=>rfl⟩⟩
      ·exact⟨false,⟨fun z=>(by cases z),fun z=>absurd z h⟩⟩
     have HSS:=aB hS
     clear hS
     go_cut [84] (fun u wx=>u=.bool (!S)/\wx=W3)
     case first=>
      by_cases hk:ta.f.k=tb.f.k
      case neg=>
       have ek:(ta.f.k != tb.f.k)=true:=by simpa using hk
       have HF:=aB (show S=false from Bool.eq_false_iff.2 fun z0=>(fun z=>hk ((SG.out.1 z).1)) (HSS.out.1 z0))
       clear hk
       go_wp2
       go_meet
       exact⟨by rw [HF.out];rfl,rfl⟩
      have ek:(ta.f.k != tb.f.k)=false:=by simpa using hk
      have Hk9:=aB hk
      clear hk
      by_cases hn:ta.f.n=tb.f.n
      case neg=>
       have en:(ta.f.n != tb.f.n)=true:=by simpa using hn
       have HF:=aB (show S=false from Bool.eq_false_iff.2 fun z0=>(fun z=>hn ((SG.out.1 z).2.1)) (HSS.out.1 z0))
       clear hn
       go_wp2
       go_meet
       exact⟨by rw [HF.out];rfl,rfl⟩
      have en:(ta.f.n != tb.f.n)=false:=by simpa using hn
      have Hn9:=aB hn
      clear hn
      by_cases hm:ta.f.mn=tb.f.mn
      case neg=>
       have em:(ta.f.mn != tb.f.mn)=true:=by simpa using hm
       have HF:=aB (show S=false from Bool.eq_false_iff.2 fun z0=>(fun z=>hm ((SG.out.1 z).2.2.1)) (HSS.out.1 z0))
       clear hm
       go_wp2
       go_meet
       exact⟨by rw [HF.out];rfl,rfl⟩
      have em:(ta.f.mn != tb.f.mn)=false:=by simpa using hm
      have Hm9:=aB hm
      clear hm
      by_cases hx:ta.f.mx=tb.f.mx
      case neg=>
       have ex:(ta.f.mx != tb.f.mx)=true:=by simpa using hx
       have HF:=aB (show S=false from Bool.eq_false_iff.2 fun z0=>(fun z=>hx ((SG.out.1 z).2.2.2.1)) (HSS.out.1 z0))
       clear hx
       go_wp2
       go_meet
       exact⟨by rw [HF.out];rfl,rfl⟩
      have ex:(ta.f.mx != tb.f.mx)=false:=by simpa using hx
      have Hx9:=aB hx
      clear hx
      cases rr with
      | false=>
       have HF:=aB (show S=false from Bool.eq_false_iff.2 fun z0=>(fun z=>(of_decide_eq_false HRR.out) ((SG.out.1 z).2.2.2.2.1)) (HSS.out.1 z0))
       go_wp2
       go_meet
       exact⟨by rw [HF.out];rfl,rfl⟩
      | true=>
       by_cases hl:ta.f.kl=tb.f.kl
       ·have el:((ta.f.kl:Int) != (tb.f.kl:Int))=false:=by simp;omega
        have HF:=aB (show S=true from HSS.out.2 (SG.out.2 ⟨Hk9.out,Hn9.out,Hm9.out,Hx9.out,of_decide_eq_true HRR.out,hl⟩))
        clear hl
        go_wp2
        go_meet
        exact⟨by rw [HF.out];rfl,rfl⟩
       ·have el:((ta.f.kl:Int) != (tb.f.kl:Int))=true:=by simp;omega
        have HF:=aB (show S=false from Bool.eq_false_iff.2 fun z0=>(fun z=>hl ((SG.out.1 z).2.2.2.2.2)) (HSS.out.1 z0))
        clear hl
        go_wp2
        go_meet
        exact⟨by rw [HF.out];rfl,rfl⟩
     case rest=>
      obtain⟨rfl,hW⟩:=hcut
      subst hW
      cases S with
      | true=>
       have HN:=aB (SN.out (HSS.out.1 rfl))
       go_wp2
       go_roundw
       case rel=>exact⟨j+1,by omega,by go_num,HB4.out,HN.out⟩
       case measure=>simp only [intOf];omega
      | false=>
       have HF:=aB (SD.out fun z=>by have:=HSS.out.2 z;cases this)
       go_wp2
       go_ret
       exact⟨by rw [HF.out];rfl,aG B8.out HB4.out lz9⟩
    ·have i0:¬ (j:Int) < (ZA.length:Int):=by omega
     have HF:=aB (show R=true by
      rw [HQ.out]
      refine(lY a b).2 ?_
      have h:=HSG.out
      have la:(sgs (pp [] a)).length=ZA.length:=by rw [<- HEA.out];simp [sgs]
      have lb:(sgs (pp [] b)).length=ZB.length:=by rw [<- HEB.out];simp [sgs]
      have:=HNE.out
      rwa [List.take_of_length_le (by omega),List.take_of_length_le (by omega)] at h)
     go_wp2
     go_ret
     exact⟨by rw [HF.out];rfl,aG B8.out HBW.out lz9⟩
 ·have e0:((ZA.length:Int) != (ZB.length:Int))=true:=by simp;omega
  have HF:=aB (HR.out.symm.trans (xG (.inl (by rw [<- HZA.out,<- HZB.out];exact hne))))
  clear hne
  go_wp2
  go_ret
  exact⟨by rw [HF.out];rfl,B8.out⟩
def wsg(x:El):List (Sg × Nat) × Sg:=(x.1.map fun z=>(sig z.1,z.2),sig x.2)
theorem aH3(a:Tr):∀ (b:Tr) (p q:Way),(p.map fun z=>(sig z.1,z.2))=(q.map fun z=>(sig z.1,z.2))->er a=er b->(pp p a).map wsg=(pp q b).map wsg:=by
 refine Tr.ind (P:=fun a=>∀ (b:Tr) (p q:Way),(p.map fun z=>(sig z.1,z.2))=(q.map fun z=>(sig z.1,z.2))->er a=er b->(pp p a).map wsg=(pp q b).map wsg) (fun a ih b p q hp h=>?_) a
 have hs:=xB h
 obtain⟨-,-,-,-,-,h6⟩:=(mQ a b).1 h
 have key:∀ (ks js:List Tr) (i:Nat),(∀ u∈ks,u∈a.ks)->ks.map er=js.map er->(pps a p i ks).map wsg=(pps b q i js).map wsg:=by
  intro ks
  induction ks with
  | nil=>
   intro js i _ hl
   cases js with
   | nil=>rw [aV,aV]
   | cons v js=>cases hl
  | cons u ks ihk=>
   intro js i hm hl
   cases js with
   | nil=>cases hl
   | cons v js=>
    rw [List.map_cons,List.map_cons] at hl
    injection hl with h1 h2
    rw [aT,aT,List.map_append,List.map_append,ih u (hm u List.mem_cons_self) v ((a,i) :: p) ((b,i) :: q) (by rw [List.map_cons,List.map_cons,hp,hs]) h1,ihk js _ (fun z hz=>hm z (List.mem_cons_of_mem _ hz)) h2]
 rw [bQ,bQ,List.map_cons,List.map_cons,key a.ks b.ks 0 (fun _ z=>z) h6]
 congr 1
 unfold wsg
 rw [hp,hs]
theorem oL{n:Int}:∀ {p q:Way},(p.map fun z=>(sig z.1,z.2))=(q.map fun z=>(sig z.1,z.2))->dP p n=dP q n
 | [],[],_=>rfl
 | [],_ :: _,h=>by cases h
 | _ :: _,[],h=>by cases h
 | x :: p,y :: q,h=>by
  rw [List.map_cons,List.map_cons] at h
  injection h with h1 h2
  have ih:=oL (n:=n) h2
  have hk:x.1.f.k=y.1.f.k:=congrArg (fun z:Sg × Nat=>z.1.1) h1
  have hn:x.1.f.n=y.1.f.n:=congrArg (fun z:Sg × Nat=>z.1.2.1) h1
  unfold dP at ih ⊢
  rw [List.any_cons,List.any_cons,ih,hk,hn]
theorem qC{k:Int}{p q:Way}(h:(p.map fun z=>(sig z.1,z.2))=(q.map fun z=>(sig z.1,z.2))):bR p k=bR q k:=by
 cases p with
 | nil=>
  cases q with
  | nil=>rfl
  | cons y q=>cases h
 | cons x p=>
  cases q with
  | nil=>cases h
  | cons y q=>
   rw [List.map_cons,List.map_cons] at h
   injection h with h1 h2
   obtain⟨a,i⟩:=x
   obtain⟨b,j⟩:=y
   have hk:a.f.k=b.f.k:=congrArg (fun z:Sg × Nat=>z.1.1) h1
   have hl:a.ks.length=b.ks.length:=congrArg (fun z:Sg × Nat=>z.1.2.2.2.2.2) h1
   have hi:i=j:=congrArg (fun z:Sg × Nat=>z.2) h1
   unfold bR
   simp only
   rw [hk,hl,hi]
theorem tH{c f:Bool}{x y:El}{i g:Nat}(h:wsg x=wsg y):bI c f x.1 x.2 i g=bI c f y.1 y.2 i g:=by
 have hp:(x.1.map fun z=>(sig z.1,z.2))=(y.1.map fun z=>(sig z.1,z.2)):=congrArg (fun z:List (Sg × Nat) × Sg=>z.1) h
 have hs:sig x.2=sig y.2:=congrArg (fun z:List (Sg × Nat) × Sg=>z.2) h
 have hl:x.1.length=y.1.length:=by have:=congrArg List.length hp;rwa [List.length_map,List.length_map] at this
 have k1:x.2.f.k=y.2.f.k:=congrArg (fun z:Sg=>z.1) hs
 have k2:x.2.f.n=y.2.f.n:=congrArg (fun z:Sg=>z.2.1) hs
 have k3:x.2.f.mn=y.2.f.mn:=congrArg (fun z:Sg=>z.2.2.1) hs
 have k4:x.2.f.mx=y.2.f.mx:=congrArg (fun z:Sg=>z.2.2.2.1) hs
 have k5:x.2.f.rs=y.2.f.rs:=congrArg (fun z:Sg=>z.2.2.2.2.1) hs
 have k6:x.2.ks.length=y.2.ks.length:=congrArg (fun z:Sg=>z.2.2.2.2.2) hs
 have hf:aP c f ((g:Int)+1) x.2.f=aP c f ((g:Int)+1) y.2.f:=by
  unfold aP
  rw [k1,k2,k3,k4,k5]
 unfold bI
 rw [qC hp,oL hp,hf,hl,k1,k2,k6]
theorem lG{c f:Bool}:∀ {l m:List El} (i g:Nat),l.map wsg=m.map wsg->aS c f i g l=aS c f i g m
 | [],[],_,_,_=>rfl
 | [],_ :: _,_,_,h=>by cases h
 | _ :: _,[],_,_,h=>by cases h
 | x :: l,y :: m,i,g,h=>by
  rw [List.map_cons,List.map_cons] at h
  injection h with h1 h2
  have hk:x.2.f.k=y.2.f.k:=congrArg (fun z:List (Sg × Nat) × Sg=>z.2.1) h1
  simp only [aS]
  rw [tH h1,hk,lG _ _ h2]
theorem rH{c f:Bool}{a b:Tr}(h:er a=er b):aS c f 0 0 (pp [] a)=aS c f 0 0 (pp [] b):=lG 0 0 (aH3 a b [] [] rfl h)
end Go.Proofs.YticfnglebbakkaaGreatDoor
