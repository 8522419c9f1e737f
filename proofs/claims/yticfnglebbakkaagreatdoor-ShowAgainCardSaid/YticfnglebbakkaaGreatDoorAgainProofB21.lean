/-
  Parts of the proof.
-/
import Derived.Test.YticfnglebbakkaaGreatDoorAgainProofB20
set_option maxRecDepth 100000
set_option maxHeartbeats 8000000
namespace Go.Proofs.YticfnglebbakkaaGreatDoor
open Go Go.RowKit
theorem zY{base:Nat}{N:Nat->Prop}{W:World}{n:Nat}{x:Ps}{v:Value}(h:PV base N W (.grp n x) v)(hb:base<=W.heap.size)
  (nd:∀ W v,PV base N W (.grp n x) v->base<=W.heap.size->Calls Tryz.prog 73 #[v] W (gI base W (.grp n x))):Calls Tryz.prog 32 #[v] W (gY base W (.grp n x)):=by
 have HV:=aC h
 cases h with
 | grp _ _ vk hk=>
  obtain⟨Tk,uk,rfl⟩:=hk.shape
  clear hk
  have ta0:=rE (.agg #[.int .i64 (n:Int),.iface Tk uk])
  have ta1:=aO9 (.agg #[.int .i64 (n:Int),.iface Tk uk])
  have B2:Hid (Below W.heap.size W ((W.alloc bC).alloc (.cells #[.int .i64 (n:Int),.iface Tk uk] 136))):=(bz9).alloc (by simp) _
  have Z2:Hid (((W.alloc bC).alloc (.cells #[.int .i64 (n:Int),.iface Tk uk] 136)).heap[W.heap.size]?=some bC):=(Below.heap_alloc _ _ _ (by simp)).trans (aE W _)
  have M2:((W.alloc bC).alloc (.cells #[.int .i64 (n:Int),.iface Tk uk] 136)).heap[W.heap.size+1]?=some (.cells #[.int .i64 (n:Int),.iface Tk uk] 136 (0,0)):=(by
   have:=aE (W.alloc bC) (.cells #[.int .i64 (n:Int),.iface Tk uk] 136)
   rwa [World.size_alloc] at this)
  have HM2:=aC M2
  have ND:Hid (∀ W3,Below ((W.alloc bC).alloc (.cells #[.int .i64 (n:Int),.iface Tk uk] 136)).heap.size ((W.alloc bC).alloc (.cells #[.int .i64 (n:Int),.iface Tk uk] 136)) W3->Calls Tryz.prog 73 #[.iface 136 (.agg #[.int .i64 (n:Int),.iface Tk uk])] W3 (gI base W3 (.grp n x))):=fun W3 h3=>nd W3 _ ((HV.out.kept B2.out).kept h3) (Nat.le_trans (Nat.le_trans hb B2.out.size) h3.size)
  clear nd M2
  go_enter Tryz.func32,Tryz.ntmps32
  go_upto_region 7 with fail
  generalize ((W.alloc bC).alloc (.cells #[.int .i64 (n:Int),.iface Tk uk] 136))=W2 at B2 Z2 HM2 ND ⊢
  have c0:=aB HM2.out (i:=0) rfl
  have c1:=aB HM2.out (i:=1) rfl
  have lm:=aA HM2.out
  have BD:Hid (Below W2.heap.size W2 W2.drew):=(Below.refl _ _).drew
  go_region_with (go_at_call 73;(with_reducible refine(ND.out _ BD.out).mono ?_);rintro e w6 ⟨g5,ks,rfl,h51,h52,h53,h54,h55,h56⟩;have R5:=aC h51;have E5:=aC h52;have A5:=aC h53;have G5:=aC h54;have LN5:=aC h56;have BW6:=aC (aD (aD B2.out BD.out lz9) h55 lz9);have Z6:w6.heap[W.heap.size]?=some bC:=((BD.out.trans (h55.mono BD.out.size)).block _ (aA Z2.out)).trans Z2.out;have lz:=aA Z2.out;have s5:=h55.size;have s2:=B2.out.size;have r0:=aB Z6 (i:=0) rfl;have r1:=aB Z6 (i:=1) rfl;have r2:=aB Z6 (i:=2) rfl;have r3:=aB Z6 (i:=3) rfl;have r4:=aB Z6 (i:=4) rfl;have r5:=aB Z6 (i:=5) rfl;have fz:=fun z=>aQ Z6 z;have d0:=((BD.out.trans (h55.mono BD.out.size)).cell (p:=⟨W.heap.size+1,0,none⟩) lm).trans c0;have d1:=((BD.out.trans (h55.mono BD.out.size)).cell (p:=⟨W.heap.size+1,1,none⟩) lm).trans c1;have l6:W.heap.size+1 < w6.heap.size:=Nat.lt_of_lt_of_le lm (Nat.le_trans BD.out.size h55.size);clear h51 h52 h53 h54 h55 h56)
  all_goals (
   obtain⟨u5,hu5⟩:∃ u,ks=[u]:=(by
    have:=LN5.out
    match ks,this with
    | [u],_=>exact⟨u,rfl⟩)
   have TA6:=aC (show TA w6 (Tr.mk ⟨7,(n:Int),0,0,[],none,0,some ⟨g5,0,none⟩,ks.length,ks.length⟩ ks) from (aZ _).2 ⟨⟨.inl ⟨none,0,rfl,rfl,fun _=>rfl⟩,R5.out.arg lz9 (by unfold maxLen;rw [hu5];simp [Tr.f]),eK,by simp [Tr.f],⟨fun a e=>(by cases e),fun a e _=>(by cases e;exact R5.out.blk)⟩⟩,(bA _).2 fun u hu=>(A5.out u hu).1⟩)
   have FKT:=aC (show FK (fun k=>W.heap.size < k) (Tr.mk ⟨7,(n:Int),0,0,[],none,0,some ⟨g5,0,none⟩,ks.length,ks.length⟩ ks) from (aZ _).2 ⟨fun a e _=>(by cases e;have:=G5.out;have:=BD.out.size;show W.heap.size < g5;omega),(bA _).2 fun u hu=>(A5.out u hu).2.1.mono (fun k hk=>by have:=G5.out;have:=BD.out.size;omega)⟩)
   have L9:=aC (mV (bz:=W.heap.size) (f:=bare 0) TA6.out FKT.out ⟨_,Z6⟩ ⟨r0,r1,r2,r3,r4,r5⟩)
   unfold cW at L9
   have RES:Hid (∀ W9,TA W9 (Tr.mk ⟨7,(n:Int),0,0,[],none,0,some ⟨g5,0,none⟩,ks.length,ks.length⟩ ks)->Below W.heap.size W W9->gY base W (.grp n x) (.returned (.agg #[.int .i64 7,.int .i64 (n:Int),.int .i64 0,.int .i64 0,.slice none 0 0,.slice (some ⟨g5,0,none⟩) ks.length ks.length])) W9):=fun W9 h1 h2=>⟨_,rfl,h1,(by rw [gF,te];show Er.mk _ _ _ _ _ _=_;rw [show (Tr.mk ⟨7,(n:Int),0,0,[],none,0,some ⟨g5,0,none⟩,ks.length,ks.length⟩ ks).ks.map er=[te x] from E5.out];rfl),h2,FKT.out.mono (fun k hk=>by omega),(aZ _).2 ⟨fun a e=>(by cases e),(bA _).2 fun u hu=>(A5.out u hu).2.2⟩⟩
   clear hu5
   have L10:Hid (Six ((((((w6.setCell ⟨W.heap.size,0,none⟩ (.int .i64 7)).setCell ⟨W.heap.size,1,none⟩ (.int .i64 (n:Int))).setCell ⟨W.heap.size,2,none⟩ (.int .i64 0)).setCell ⟨W.heap.size,3,none⟩ (.int .i64 0)).setCell ⟨W.heap.size,4,none⟩ (.slice none 0 0)).setCell ⟨W.heap.size,5,none⟩ (.slice (some ⟨g5,0,none⟩) ks.length ks.length)) W.heap.size 0 ⟨7,(n:Int),0,0,[],none,0,some ⟨g5,0,none⟩,ks.length,ks.length⟩/\TA ((((((w6.setCell ⟨W.heap.size,0,none⟩ (.int .i64 7)).setCell ⟨W.heap.size,1,none⟩ (.int .i64 (n:Int))).setCell ⟨W.heap.size,2,none⟩ (.int .i64 0)).setCell ⟨W.heap.size,3,none⟩ (.int .i64 0)).setCell ⟨W.heap.size,4,none⟩ (.slice none 0 0)).setCell ⟨W.heap.size,5,none⟩ (.slice (some ⟨g5,0,none⟩) ks.length ks.length)) (Tr.mk ⟨7,(n:Int),0,0,[],none,0,some ⟨g5,0,none⟩,ks.length,ks.length⟩ ks)/\Fr (fun z=>z=W.heap.size) w6 ((((((w6.setCell ⟨W.heap.size,0,none⟩ (.int .i64 7)).setCell ⟨W.heap.size,1,none⟩ (.int .i64 (n:Int))).setCell ⟨W.heap.size,2,none⟩ (.int .i64 0)).setCell ⟨W.heap.size,3,none⟩ (.int .i64 0)).setCell ⟨W.heap.size,4,none⟩ (.slice none 0 0)).setCell ⟨W.heap.size,5,none⟩ (.slice (some ⟨g5,0,none⟩) ks.length ks.length))/\∃ cur,((((((w6.setCell ⟨W.heap.size,0,none⟩ (.int .i64 7)).setCell ⟨W.heap.size,1,none⟩ (.int .i64 (n:Int))).setCell ⟨W.heap.size,2,none⟩ (.int .i64 0)).setCell ⟨W.heap.size,3,none⟩ (.int .i64 0)).setCell ⟨W.heap.size,4,none⟩ (.slice none 0 0)).setCell ⟨W.heap.size,5,none⟩ (.slice (some ⟨g5,0,none⟩) ks.length ks.length)).heap[W.heap.size]?=some (.cells cur 25 (0,0))):=L9.out
   generalize ((((((w6.setCell ⟨W.heap.size,0,none⟩ (.int .i64 7)).setCell ⟨W.heap.size,1,none⟩ (.int .i64 (n:Int))).setCell ⟨W.heap.size,2,none⟩ (.int .i64 0)).setCell ⟨W.heap.size,3,none⟩ (.int .i64 0)).setCell ⟨W.heap.size,4,none⟩ (.slice none 0 0)).setCell ⟨W.heap.size,5,none⟩ (.slice (some ⟨g5,0,none⟩) ks.length ks.length))=W7 at L10 ⊢
   clear L9 r0 r1 r2 r3 r4 r5 fz
   obtain⟨k0,k1,k2,k3,k4,k5⟩:=L10.out.1
   simp only [Nat.zero_add] at k0 k1 k2 k3 k4 k5
   obtain⟨cur7,hc7⟩:=L10.out.2.2.2
   have HC7:=aC hc7
   have fz:=fun z=>aQ HC7.out z
   have l7:=aA hc7
   have L11:=aC (mV (bz:=W.heap.size) L10.out.2.1 FKT.out ⟨cur7,HC7.out⟩ L10.out.1)
   unfold cW at L11
   clear hc7
   go_wp2
   refine jY L11.out.1 rfl rfl ?_
   exact RES.out _ L11.out.2.1 (bK (bK BW6.out L10.out.2.2.1 lz9 (fun k e=>by omega)) L11.out.2.2.1 lz9 (fun k e=>by omega)))
theorem zX{base:Nat}{N:Nat->Prop}{W:World}{a b:Int}{x:Ps}{v:Value}(h:PV base N W (.rep a b x) v)(hb:base<=W.heap.size)
  (nd:∀ W v,PV base N W (.rep a b x) v->base<=W.heap.size->Calls Tryz.prog 73 #[v] W (gI base W (.rep a b x))):Calls Tryz.prog 32 #[v] W (gY base W (.rep a b x)):=by
 have HV:=aC h
 cases h with
 | rep _ _ _ vk hk=>
  obtain⟨Tk,uk,rfl⟩:=hk.shape
  clear hk
  have ta0:=rD (.agg #[.int .i64 a,.int .i64 b,.iface Tk uk])
  have ta1:=pM (.agg #[.int .i64 a,.int .i64 b,.iface Tk uk])
  have ta2:=aO8 (.agg #[.int .i64 a,.int .i64 b,.iface Tk uk])
  have B2:Hid (Below W.heap.size W ((W.alloc bC).alloc (.cells #[.int .i64 a,.int .i64 b,.iface Tk uk] 139))):=(bz9).alloc (by simp) _
  have Z2:Hid (((W.alloc bC).alloc (.cells #[.int .i64 a,.int .i64 b,.iface Tk uk] 139)).heap[W.heap.size]?=some bC):=(Below.heap_alloc _ _ _ (by simp)).trans (aE W _)
  have M2:((W.alloc bC).alloc (.cells #[.int .i64 a,.int .i64 b,.iface Tk uk] 139)).heap[W.heap.size+1]?=some (.cells #[.int .i64 a,.int .i64 b,.iface Tk uk] 139 (0,0)):=(by
   have:=aE (W.alloc bC) (.cells #[.int .i64 a,.int .i64 b,.iface Tk uk] 139)
   rwa [World.size_alloc] at this)
  have HM2:=aC M2
  have ND:Hid (∀ W3,Below ((W.alloc bC).alloc (.cells #[.int .i64 a,.int .i64 b,.iface Tk uk] 139)).heap.size ((W.alloc bC).alloc (.cells #[.int .i64 a,.int .i64 b,.iface Tk uk] 139)) W3->Calls Tryz.prog 73 #[.iface 139 (.agg #[.int .i64 a,.int .i64 b,.iface Tk uk])] W3 (gI base W3 (.rep a b x))):=fun W3 h3=>nd W3 _ ((HV.out.kept B2.out).kept h3) (Nat.le_trans (Nat.le_trans hb B2.out.size) h3.size)
  clear nd M2
  go_enter Tryz.func32,Tryz.ntmps32
  go_upto_region 10 with fail
  generalize ((W.alloc bC).alloc (.cells #[.int .i64 a,.int .i64 b,.iface Tk uk] 139))=W2 at B2 Z2 HM2 ND ⊢
  have c0:=aB HM2.out (i:=0) rfl
  have c1:=aB HM2.out (i:=1) rfl
  have c2:=aB HM2.out (i:=2) rfl
  have lm:=aA HM2.out
  have BD:Hid (Below W2.heap.size W2 W2.drew):=(Below.refl _ _).drew
  go_region_with (go_at_call 73;(with_reducible refine(ND.out _ BD.out).mono ?_);rintro e w6 ⟨g5,ks,rfl,h51,h52,h53,h54,h55,h56⟩;have R5:=aC h51;have E5:=aC h52;have A5:=aC h53;have G5:=aC h54;have LN5:=aC h56;have BW6:=aC (aD (aD B2.out BD.out lz9) h55 lz9);have Z6:w6.heap[W.heap.size]?=some bC:=((BD.out.trans (h55.mono BD.out.size)).block _ (aA Z2.out)).trans Z2.out;have lz:=aA Z2.out;have s5:=h55.size;have s2:=B2.out.size;have r0:=aB Z6 (i:=0) rfl;have r1:=aB Z6 (i:=1) rfl;have r2:=aB Z6 (i:=2) rfl;have r3:=aB Z6 (i:=3) rfl;have r4:=aB Z6 (i:=4) rfl;have r5:=aB Z6 (i:=5) rfl;have fz:=fun z=>aQ Z6 z;have d0:=((BD.out.trans (h55.mono BD.out.size)).cell (p:=⟨W.heap.size+1,0,none⟩) lm).trans c0;have d1:=((BD.out.trans (h55.mono BD.out.size)).cell (p:=⟨W.heap.size+1,1,none⟩) lm).trans c1;have d2:=((BD.out.trans (h55.mono BD.out.size)).cell (p:=⟨W.heap.size+1,2,none⟩) lm).trans c2;have l6:W.heap.size+1 < w6.heap.size:=Nat.lt_of_lt_of_le lm (Nat.le_trans BD.out.size h55.size);clear h51 h52 h53 h54 h55 h56)
  all_goals (
   obtain⟨u5,hu5⟩:∃ u,ks=[u]:=(by
    have:=LN5.out
    match ks,this with
    | [u],_=>exact⟨u,rfl⟩)
   have TA6:=aC (show TA w6 (Tr.mk ⟨9,0,a,b,[],none,0,some ⟨g5,0,none⟩,ks.length,ks.length⟩ ks) from (aZ _).2 ⟨⟨.inl ⟨none,0,rfl,rfl,fun _=>rfl⟩,R5.out.arg lz9 (by unfold maxLen;rw [hu5];simp [Tr.f]),eK,by simp [Tr.f],⟨fun a e=>(by cases e),fun a e _=>(by cases e;exact R5.out.blk)⟩⟩,(bA _).2 fun u hu=>(A5.out u hu).1⟩)
   have FKT:=aC (show FK (fun k=>W.heap.size < k) (Tr.mk ⟨9,0,a,b,[],none,0,some ⟨g5,0,none⟩,ks.length,ks.length⟩ ks) from (aZ _).2 ⟨fun a e _=>(by cases e;have:=G5.out;have:=BD.out.size;show W.heap.size < g5;omega),(bA _).2 fun u hu=>(A5.out u hu).2.1.mono (fun k hk=>by have:=G5.out;have:=BD.out.size;omega)⟩)
   have L9:=aC (mV (bz:=W.heap.size) (f:=bare 0) TA6.out FKT.out ⟨_,Z6⟩ ⟨r0,r1,r2,r3,r4,r5⟩)
   unfold cW at L9
   have RES:Hid (∀ W9,TA W9 (Tr.mk ⟨9,0,a,b,[],none,0,some ⟨g5,0,none⟩,ks.length,ks.length⟩ ks)->Below W.heap.size W W9->gY base W (.rep a b x) (.returned (.agg #[.int .i64 9,.int .i64 0,.int .i64 a,.int .i64 b,.slice none 0 0,.slice (some ⟨g5,0,none⟩) ks.length ks.length])) W9):=fun W9 h1 h2=>⟨_,rfl,h1,(by rw [gF,te];show Er.mk _ _ _ _ _ _=_;rw [show (Tr.mk ⟨9,0,a,b,[],none,0,some ⟨g5,0,none⟩,ks.length,ks.length⟩ ks).ks.map er=[te x] from E5.out];rfl),h2,FKT.out.mono (fun k hk=>by omega),(aZ _).2 ⟨fun a e=>(by cases e),(bA _).2 fun u hu=>(A5.out u hu).2.2⟩⟩
   clear hu5
   have L10:Hid (Six ((((((w6.setCell ⟨W.heap.size,0,none⟩ (.int .i64 9)).setCell ⟨W.heap.size,1,none⟩ (.int .i64 0)).setCell ⟨W.heap.size,2,none⟩ (.int .i64 a)).setCell ⟨W.heap.size,3,none⟩ (.int .i64 b)).setCell ⟨W.heap.size,4,none⟩ (.slice none 0 0)).setCell ⟨W.heap.size,5,none⟩ (.slice (some ⟨g5,0,none⟩) ks.length ks.length)) W.heap.size 0 ⟨9,0,a,b,[],none,0,some ⟨g5,0,none⟩,ks.length,ks.length⟩/\TA ((((((w6.setCell ⟨W.heap.size,0,none⟩ (.int .i64 9)).setCell ⟨W.heap.size,1,none⟩ (.int .i64 0)).setCell ⟨W.heap.size,2,none⟩ (.int .i64 a)).setCell ⟨W.heap.size,3,none⟩ (.int .i64 b)).setCell ⟨W.heap.size,4,none⟩ (.slice none 0 0)).setCell ⟨W.heap.size,5,none⟩ (.slice (some ⟨g5,0,none⟩) ks.length ks.length)) (Tr.mk ⟨9,0,a,b,[],none,0,some ⟨g5,0,none⟩,ks.length,ks.length⟩ ks)/\Fr (fun z=>z=W.heap.size) w6 ((((((w6.setCell ⟨W.heap.size,0,none⟩ (.int .i64 9)).setCell ⟨W.heap.size,1,none⟩ (.int .i64 0)).setCell ⟨W.heap.size,2,none⟩ (.int .i64 a)).setCell ⟨W.heap.size,3,none⟩ (.int .i64 b)).setCell ⟨W.heap.size,4,none⟩ (.slice none 0 0)).setCell ⟨W.heap.size,5,none⟩ (.slice (some ⟨g5,0,none⟩) ks.length ks.length))/\∃ cur,((((((w6.setCell ⟨W.heap.size,0,none⟩ (.int .i64 9)).setCell ⟨W.heap.size,1,none⟩ (.int .i64 0)).setCell ⟨W.heap.size,2,none⟩ (.int .i64 a)).setCell ⟨W.heap.size,3,none⟩ (.int .i64 b)).setCell ⟨W.heap.size,4,none⟩ (.slice none 0 0)).setCell ⟨W.heap.size,5,none⟩ (.slice (some ⟨g5,0,none⟩) ks.length ks.length)).heap[W.heap.size]?=some (.cells cur 25 (0,0))):=L9.out
   generalize ((((((w6.setCell ⟨W.heap.size,0,none⟩ (.int .i64 9)).setCell ⟨W.heap.size,1,none⟩ (.int .i64 0)).setCell ⟨W.heap.size,2,none⟩ (.int .i64 a)).setCell ⟨W.heap.size,3,none⟩ (.int .i64 b)).setCell ⟨W.heap.size,4,none⟩ (.slice none 0 0)).setCell ⟨W.heap.size,5,none⟩ (.slice (some ⟨g5,0,none⟩) ks.length ks.length))=W7 at L10 ⊢
   clear L9 r0 r1 r2 r3 r4 r5 fz
   obtain⟨k0,k1,k2,k3,k4,k5⟩:=L10.out.1
   simp only [Nat.zero_add] at k0 k1 k2 k3 k4 k5
   obtain⟨cur7,hc7⟩:=L10.out.2.2.2
   have HC7:=aC hc7
   have fz:=fun z=>aQ HC7.out z
   have l7:=aA hc7
   have L11:=aC (mV (bz:=W.heap.size) L10.out.2.1 FKT.out ⟨cur7,HC7.out⟩ L10.out.1)
   unfold cW at L11
   clear hc7
   go_wp2
   refine jY L11.out.1 rfl rfl ?_
   exact RES.out _ L11.out.2.1 (bK (bK BW6.out L10.out.2.2.1 lz9 (fun k e=>by omega)) L11.out.2.2.1 lz9 (fun k e=>by omega)))
end Go.Proofs.YticfnglebbakkaaGreatDoor
