/-
  Parts of the proof.
-/
import Derived.Test.YticfnglebbakkaaGreatDoorAgainProofB40
import Derived.Test.YticfnglebbakkaaGreatDoorAgainProofB14
import Derived.Test.YticfnglebbakkaaGreatDoorAgainProofB34
set_option maxRecDepth 100000
set_option maxHeartbeats 8000000
namespace Go.Proofs.YticfnglebbakkaaGreatDoor
open Go Go.RowKit
section
open Go Go.RowKit Go.Shelf
attribute [local go_sem] Oper.semAt_some
theorem wF{b:Nat}{W W':World}{base:Nat}{e:TypeId}{size n:Nat}{v:Value}{xs:List Value}(h:W.ownsRow base e size v n xs)(hc:Oth b W W')(he:e≠5)(hb:v.ownBlock≠some b):W'.ownsRow base e size v n xs:=by
 refine⟨h.1,?_⟩
 rcases h.2 with q | ⟨g,cap,cur,z1,z2,z3,z4⟩
 ·exact .inl q
 ·exact .inr ⟨g,cap,cur,z1,z2,hc _ _ z3 (fun e=>hb (by rw [z1];exact e)) (fun cs fz e=>by injection e with _ e2 _;exact he e2),z4⟩
theorem bE5(n:Nat)(hn:4<=n){w:World}{t:Tr}(c f:Bool)(hta:TB w t)(hG:Glb w) :
  CallsIn Fence.wide n Tryz.prog 14 #[.agg #[.int .i64 t.f.k,.int .i64 t.f.n,.int .i64 t.f.mn,.int .i64 t.f.mx,.slice t.f.rq t.f.rs.length t.f.rc,.slice t.f.kq t.f.kl t.f.kc],.agg #[.bool c,.bool f]] w fun e w'=>e=.returned (.tuple #[.string (txt (nF c f t).1),.int .i64 (nF c f t).2])/\Below w.heap.size w w':=by
 have hfn:∀ f,Fence.wide.fn f:=fun _=>trivial
 refine callsIn_of_wp_marks Tryz.func14 rfl trivial ?_ rfl
 simp only [Tryz.ntmps14,List.size_toArray,List.length_cons,List.length_nil,Nat.reduceAdd,Nat.reduceSub,Array.replicate_succ,Array.replicate_zero,List.push_toArray,List.append_toArray,List.nil_append,List.cons_append]
 refine wpIn_wide.2 ?_
 have HTA:=aC hta
 have HG:=aC hG
 have B1:Hid (Below w.heap.size w ((w.alloc (.cells #[.int .i64 t.f.k,.int .i64 t.f.n,.int .i64 t.f.mn,.int .i64 t.f.mx,.slice t.f.rq t.f.rs.length t.f.rc,.slice t.f.kq t.f.kl t.f.kc] 25)).alloc (.cells #[.bool c,.bool f] 27))):=(bz9).alloc (by simp) _
 have X1:Hid (BoxN ((w.alloc (.cells #[.int .i64 t.f.k,.int .i64 t.f.n,.int .i64 t.f.mn,.int .i64 t.f.mx,.slice t.f.rq t.f.rs.length t.f.rc,.slice t.f.kq t.f.kl t.f.kc] 25)).alloc (.cells #[.bool c,.bool f] 27)) w.heap.size t.f):=(Below.heap_alloc _ _ _ (by simp)).trans (aE w _)
 have X2:Hid (((w.alloc (.cells #[.int .i64 t.f.k,.int .i64 t.f.n,.int .i64 t.f.mn,.int .i64 t.f.mx,.slice t.f.rq t.f.rs.length t.f.rc,.slice t.f.kq t.f.kl t.f.kc] 25)).alloc (.cells #[.bool c,.bool f] 27)).heap[w.heap.size+1]?=some (.cells #[.bool c,.bool f] 27 (0,0))):=aC (by have:=aE (w.alloc (.cells #[.int .i64 t.f.k,.int .i64 t.f.n,.int .i64 t.f.mn,.int .i64 t.f.mx,.slice t.f.rq t.f.rs.length t.f.rc,.slice t.f.kq t.f.kl t.f.kc] 25)) (.cells #[.bool c,.bool f] 27);simpa using this)
 obtain⟨out,ho⟩:∃ o,nF c f t=o:=⟨_,rfl⟩
 have HO:=aC ho
 rw [ho]
 clear hta hG ho
 go_upto_region 1 with fail
 generalize ((w.alloc (.cells #[.int .i64 t.f.k,.int .i64 t.f.n,.int .i64 t.f.mn,.int .i64 t.f.mx,.slice t.f.rq t.f.rs.length t.f.rc,.slice t.f.kq t.f.kl t.f.kc] 25)).alloc (.cells #[.bool c,.bool f] 27))=w1 at B1 X1 X2 ⊢
 obtain⟨n0,n1,n2,n3,n4,n5⟩:=X1.out.six
 simp only [Nat.zero_add] at n1 n2 n3 n4 n5
 have a0:=aB X2.out (i:=0) rfl
 have a1:=aB X2.out (i:=1) rfl
 have RT:=aC (vV c f (HTA.out.kept B1.out))
 obtain⟨r,hr⟩:∃ r,bT c f 0 0 (pp [] t)=r:=⟨_,rfl⟩
 have HR:=aC hr
 rw [hr] at RT
 clear hr
 by_cases hr0:r=0
 ·subst hr0
  have OK:=aC (bJ7 HR.out)
  have HLEN:=aC (kR HR.out)
  go_upto_region 4 with (go_at_call 11;refine(RT.out).mono ?_;rintro e w2 ⟨rfl,h2⟩;have B2:=aC (aD B1.out h2 lz9);have Y1:Hid (BoxN w2 w.heap.size t.f):=(h2.block _ (aA X1.out)).trans X1.out;have Y2:Hid (w2.heap[w.heap.size+1]?=some (.cells #[.bool c,.bool f] 27 (0,0))):=(h2.block _ (aA X2.out)).trans X2.out;clear h2)
  obtain⟨m0,m1,m2,m3,m4,m5⟩:=Y1.out.six
  simp only [Nat.zero_add] at m1 m2 m3 m4 m5
  have hs2:=B2.out.size
  have B3:Hid (Below w2.heap.size w2 (w2.alloc (.cells #[.pointer none,.slice none 0 0] 54))):=bz9
  have BLN:Hid (BL 54 w.heap.size (w2.alloc (.cells #[.pointer none,.slice none 0 0] 54)) w2.heap.size [] []):=⟨.pointer none,.slice none 0 0,aE w2 _,.inl rfl,⟨rfl,.inl ⟨rfl,rfl⟩⟩,fun _=>rfl,hs2⟩
  go_upto_region 5 with fail
  have Z1:Hid (BoxN (w2.alloc (.cells #[.pointer none,.slice none 0 0] 54)) w.heap.size t.f):=(B3.out.block _ (aA Y1.out)).trans Y1.out
  have Z2:Hid ((w2.alloc (.cells #[.pointer none,.slice none 0 0] 54)).heap[w.heap.size+1]?=some (.cells #[.bool c,.bool f] 27 (0,0))):=(B3.out.block _ (aA Y2.out)).trans Y2.out
  have B4:Hid (Below w.heap.size w (w2.alloc (.cells #[.pointer none,.slice none 0 0] 54))):=aD B2.out B3.out lz9
  generalize hbl:w2.heap.size=bl at BLN ⊢
  have hblw:w.heap.size<=bl:=by omega
  generalize (w2.alloc (.cells #[.pointer none,.slice none 0 0] 54))=w3 at BLN Z1 Z2 B4 ⊢
  clear hbl B3 m0 m1 m2 m3 m4 m5 n0 n1 n2 n3 n4 n5 a0 a1
  obtain⟨z0,z1,z2,z3,z4,z5⟩:=Z1.out.six
  simp only [Nat.zero_add] at z1 z2 z3 z4 z5
  go_wp2_with (go_at_call 35;(with_reducible refine(bO9 _ _).mono ?_);rintro e w7 ⟨rfl,rfl⟩)
  have K5:Below w3.heap.size w3 (w3.alloc (.cells #[.int .i64 t.f.k,.int .i64 t.f.n,.int .i64 t.f.mn,.int .i64 t.f.mx,.slice t.f.rq t.f.rs.length t.f.rc,.slice t.f.kq t.f.kl t.f.kc] 25)):=bz9
  have L5:BoxN (w3.alloc (.cells #[.int .i64 t.f.k,.int .i64 t.f.n,.int .i64 t.f.mn,.int .i64 t.f.mx,.slice t.f.rq t.f.rs.length t.f.rc,.slice t.f.kq t.f.kl t.f.kc] 25)) w3.heap.size t.f:=aE w3 _
  have BL5:=BLN.out.kept K5
  have M5:=(K5.block _ (aA Z2.out)).trans Z2.out
  have B5:=aD B4.out K5 lz9
  have HX:=aC (⟨L5,BL5,M5,B5⟩:_/\_/\_/\_)
  have hlb:bl < w3.heap.size:=by obtain⟨p,v,h1,-⟩:=BLN.out;exact aA h1
  have hlb5:bl < (w3.alloc (.cells #[.int .i64 t.f.k,.int .i64 t.f.n,.int .i64 t.f.mn,.int .i64 t.f.mx,.slice t.f.rq t.f.rs.length t.f.rc,.slice t.f.kq t.f.kl t.f.kc] 25)).heap.size:=by simp;omega
  clear L5 BL5 M5 B5 K5
  generalize (w3.alloc (.cells #[.int .i64 t.f.k,.int .i64 t.f.n,.int .i64 t.f.mn,.int .i64 t.f.mx,.slice t.f.rq t.f.rs.length t.f.rc,.slice t.f.kq t.f.kl t.f.kc] 25))=w5 at HX hlb5 ⊢
  generalize w3.heap.size=bq at HX ⊢
  obtain⟨L5,BL5,M5,B5⟩:=HX.out
  have HLB:=aC hlb5
  clear HX hlb hlb5 z0 z1 z2 z3 z4 z5 Z1 Z2 B4 BLN Y1 Y2
  refine(wpIn_wide (n:=n)).1 ?_
  refine aQ5 hn 18 19 bq rfl rfl L5 HTA.out (CK.of_below B5) (DI w t c f (w.heap.size+1) bl) (fun _ _ _=>False) (fun pre A A' row h hg hr=>h.row B5.size hg hr) (fun _ _ _ _ _ h _ _=>h) (fun pre W h=>by have:=h.len;omega) ⟨M5,BL5,List.nil_prefix,B5⟩
   (fun s y x a' W=>∃ bx,BoxN W bx x.2/\a'={ y with tmps:=(y.tmps.setIfInBounds 8 (.int .i64 ((x.1.1.length:Int)+1))).setIfInBounds 9 (.pointer (some ⟨bx,0,none⟩)) }) ?_ ?_ ?_ ?_ (fun _ _ _ _ _ _ h _=>h.elim)
  ·rintro s y x a' _ A A' row ⟨bx,h1,h2⟩ hg hr
   exact⟨bx,cC hg hr h1,h2⟩
  ·intro l pre x V K _ _ hK
   simp only [lQ]
   gi_wp2
   exact hK _ _ (bz9) ⟨_,aE V _,rfl⟩
  ·rintro l pre x a' V0 V h ht ⟨bx,hbx,rfl⟩ hk0 hv0
   have hin:x.1∈pp [] t:=by
    have:=ht.pfx.subset (show x.1∈(pre ++ [x]).map (·.1) by simp)
    exact List.mem_of_mem_take this
   obtain⟨ok1,hd40⟩:=OK.out x.1 hin
   have okx:Okn c f x.2:=⟨fun q=>by rw [ht.ok.rs];exact ok1.set (by rw [<- ht.ok.k];exact q),fun q=>by rw [ht.ok.n];exact ok1.back (by rw [<- ht.ok.k];exact q),fun q=>by rw [ht.ok.mn,ht.ok.mx];exact ok1.rep (by rw [<- ht.ok.k];exact q),fun q=>by rw [ht.ok.n];exact ok1.grp (by rw [<- ht.ok.k];exact q)⟩
   have LE:Hid (oM c x.1.1.length x.1.2.f=List.replicate (2 * x.1.1.length) 32 ++ rP c x.2.k x.2.n x.2.mn x.2.mx x.2.rs ++ [10]):=aC (by unfold oM;rw [ht.ok.k,ht.ok.n,ht.ok.mn,ht.ok.mx,ht.ok.rs])
   have hlen:=h.len
   have hpl:pre.map (·.1) <+: pp [] t:=h.pfx.trans (List.take_prefix _ _)
   have ROOM:Hid ((gV c (pre.map (·.1))).length<=224000200000):=aC (by
    have h1:=xU (c:=c) (f:=f) (pre.map (·.1)) (fun y hy=>OK.out y (hpl.subset hy))
    rw [List.length_map] at h1
    have:112000100 * pre.length<=112000100 * 2000:=Nat.mul_le_mul_left _ hlen
    omega)
   have DL:=aC (xS okx)
   have hVs:w.heap.size<=V.heap.size:=h.bel.size
   have HH:=aC h
   have HT:=aC ht
   have HK0:=aC hk0
   have HBX:=aC hbx
   have HOK:=aC okx
   obtain⟨d,hd⟩:∃ d,x.1.1.length=d:=⟨_,rfl⟩
   have HDD:=aC hd
   rw [hd] at LE hd40
   have hw1:IntKind.wrap .i64 ((d:Int)+1 - 1)=(d:Int):=by rw [show (d:Int)+1 - 1=(d:Int) by omega];exact wrap_small _ (by omega) (by omega)
   have hw2:(d:Int)+1 - 1=(d:Int):=by omega
   have RP:=aC (Tryz.strings_Repeat ⟨#[32,32]⟩ d V (by omega) (by show 2 * d<=140737488355328;omega))
   rw [show (⟨#[32,32]⟩:ByteArray).data.toList=[32,32] from rfl,bA9] at RP
   simp only [lQ]
   rw [hd]
   clear h ht hk0 hbx okx hin ok1 hpl hd
   gi_wp2
   obtain⟨pB,vB,hbl,-⟩:=HH.out.bld
   have NB:=aC (show bx≠bl from fun e=>by subst e;have:=HBX.out;unfold BoxN at this;rw [hbl] at this;cases this)
   have NM:=aC (show w.heap.size+1≠bl from fun e=>by have:=HH.out.md;rw [e,hbl] at this;cases this)
   have HBL:=aC hbl
   clear hbl
   refine⟨(fun z=>by cases z),(CallsIn.inRound l (callsIn_wide.2 (RP.out))).mono ?_⟩
   rintro e V1 ⟨rfl,h1⟩
   have P1:=aC (PrPost.start HH.out.bld h1 hVs)
   have W1:=aC (iF bt0 P1.out.1 (List.replicate (2 * d) 32) (by have:=ROOM.out;simp;omega) (Nat.le_trans hVs P1.out.2.1.size))
   clear h1
   gi_wp2
   refine⟨(fun z=>by cases z),(CallsIn.inRound l (callsIn_wide.2 (W1.out))).mono ?_⟩
   rintro e V2 ⟨rfl,h2⟩
   have P2:=aC (PrPost.trans P1.out h2)
   have X2:Hid (BoxN V2 bx x.2):=P2.out.2.2 _ _ HBX.out (fun e=>by injection e with e;exact NB.out e) (fun cs fz e=>by cases e)
   have M2:Hid (V2.heap[w.heap.size+1]?=some (.cells #[.bool c,.bool f] 27 (0,0))):=P2.out.2.2 _ _ HH.out.md (fun e=>by injection e with e;exact NM.out e) (fun cs fz e=>by cases e)
   obtain⟨k0,k1,k2,k3,k4,k5⟩:=X2.out.six
   simp only [Nat.zero_add] at k1 k2 k3 k4 k5
   have y0:=aB M2.out (i:=0) rfl
   have y1:=aB M2.out (i:=1) rfl
   have DS:=aC (xV x.2 c f (RR.arg (wF HT.out.ok.rr P2.out.2.2 (by decide) (aK HT.out.ok.rr HBL.out (by decide)))) HOK.out (HG.out.kept (HH.out.bel.trans P2.out.2.1)))
   clear h2
   gi_wp2
   refine⟨(fun z=>by cases z),(CallsIn.inRound l (callsIn_wide.2 (DS.out))).mono ?_⟩
   rintro e V3 ⟨rfl,h3⟩
   have P3:=aC (PrPost.then P2.out h3 hVs)
   have W3:=aC (iF bt0 P3.out.1 (rP c x.2.k x.2.n x.2.mn x.2.mx x.2.rs) (by have:=ROOM.out;have:=DL.out;simp;omega) (Nat.le_trans hVs P3.out.2.1.size))
   clear h3 k0 k1 k2 k3 k4 k5 y0 y1
   gi_wp2
   refine⟨(fun z=>by cases z),(CallsIn.inRound l (callsIn_wide.2 (W3.out))).mono ?_⟩
   rintro e V4 ⟨rfl,h4⟩
   have P4:=aC (PrPost.trans P3.out h4)
   have W4:=aC (uZ bt0 P4.out.1 10 (by have:=ROOM.out;have:=DL.out;simp;omega) (Nat.le_trans hVs P4.out.2.1.size))
   clear h4
   gi_wp2
   refine⟨(fun z=>by cases z),(CallsIn.inRound l (callsIn_wide.2 (W4.out))).mono ?_⟩
   rintro e V5 ⟨rfl,h5⟩
   have P5:=aC (PrPost.trans P4.out h5)
   clear h5
   gi_wp2
   refine⟨aK3 P5.out.2.2 P5.out.2.1.size HBL.out,HK0.out.trans (bJ5 P5.out.2.2 P5.out.2.1.size HLB.out),⟨P5.out.2.2 _ _ HH.out.md (fun e=>by injection e with e;exact NM.out e) (fun cs fz e=>by cases e),?_,HT.out.pfx,HH.out.bel.trans P5.out.2.1⟩⟩
   have:=P5.out.1
   rw [List.map_append,List.map_cons,List.map_nil,aB3,HDD.out,LE.out]
   simpa using this
  ·rintro D xs V hD hxs h hK
   have he:xs.map (·.1)=pp [] t:=by rw [hxs,List.take_of_length_le HLEN.out]
   have SG:=aC (vI h.bld)
   rw [he] at SG
   obtain⟨pB,vB,hbl,-⟩:=h.bld
   have ND:=aC (show D≠bl from fun e=>by subst e;rw [hbl] at hK;cases hK)
   have HB:=aC h.bel
   have HK:=aC hK
   have HD:=aC hD
   have E:Hid (out=(gV c (pp [] t),0)):=aC (by rw [<- HO.out];unfold nF;rw [if_neg (by rw [HR.out];simp)])
   clear h hK hD hbl he hxs
   simp only [dZ]
   go_wp2_with (go_at_call 25;refine(SG.out).mono ?_;rintro e V6 ⟨rfl,h6,o6⟩;have B6:=aC (HB.out.trans h6);have D6:Hid (V6.heap[D]?=some (.deferred (some []))):=o6 _ _ HK.out (fun e=>by injection e with e;exact ND.out e) (fun cs fz e=>by cases e);clear h6 o6)
   refine⟨by simp,.inl ⟨_,_,rfl,run_takeDeferred D6.out,?_⟩⟩
   exact⟨.tuple #[.string (txt out.1),.int .i64 out.2],by simp [results,Tryz.results14,go_sem,E.out],rfl,jR _ B6.out (Nat.le_trans B5.size HD.out)⟩
 ·have E:Hid (out=([],r)):=by
   refine aC ?_
   rw [<- HO.out]
   unfold nF
   rw [HR.out,if_pos hr0]
  have q0:(r != 0)=true:=by simpa using hr0
  have q1:(r==0)=false:=by simpa using hr0
  clear hr0
  go_wp2_with (go_at_call 11;refine(RT.out).mono ?_;rintro e w2 ⟨rfl,h2⟩;have B2:=aC (aD B1.out h2 lz9);clear h2)
  exact⟨.tuple #[.string (txt out.1),.int .i64 out.2],by simp [results,Tryz.results14,go_sem,E.out,txt],rfl,B2.out⟩
theorem aV8{w:World}{t:Tr}(c f:Bool)(hta:TB w t)(hG:Glb w) :
  Calls Tryz.prog 14 #[.agg #[.int .i64 t.f.k,.int .i64 t.f.n,.int .i64 t.f.mn,.int .i64 t.f.mx,.slice t.f.rq t.f.rs.length t.f.rc,.slice t.f.kq t.f.kl t.f.kc],.agg #[.bool c,.bool f]] w fun e w'=>e=.returned (.tuple #[.string (txt (nF c f t).1),.int .i64 (nF c f t).2])/\Below w.heap.size w w':=callsIn_wide.1 (bE5 4 (by decide) c f hta hG)
end
theorem uT(W:World)(lo hi:Int):ArgR (W.alloc (.cells #[.int .i64 lo,.int .i64 hi] 48)) (.slice (some ⟨W.heap.size,0,none⟩) 1 1) [(lo,hi)]:=by
 refine .inr ⟨W.heap.size,0,1,rfl,by simp,by simp,by unfold maxLen;omega,fun i r hr=>?_⟩
 match i,hr with
 | 0,hr=>
  simp at hr
  subst hr
  exact⟨aB (aE W _) rfl,aB (aE W _) rfl⟩
 | i+1,hr=>simp at hr
theorem uF{c:Bool}{a b:Int}(h:a<=b)(h0:0<=a)(h1:b < 128):IsC [(a,b)] (fun x=>In [(a,b)] x/\aU c x):=by
 refine⟨⟨fun r hr=>by simp at hr;subst hr;exact h,by simp⟩,fun r hr=>by simp at hr;subst hr;simp only;omega,fun x=>⟨fun q=>⟨q,?_⟩,fun q=>q.1⟩⟩
 rw [gT] at q
 simp only at q
 unfold aU top
 cases c <;> simp <;> omega
def exT(s:Nat):Tr:=.mk ⟨5,0,0,0,[],none,0,some ⟨s+2,0,none⟩,2,2⟩ [.mk ⟨3,0,0,0,[],none,0,none,0,0⟩ [],.mk ⟨9,0,2,5,[],none,0,some ⟨s+1,0,none⟩,1,1⟩ [.mk ⟨2,0,0,0,[(97,97)],some ⟨s,0,none⟩,1,none,0,0⟩ []]]
def exE:Er:=.mk 5 0 0 0 [] [.mk 3 0 0 0 [] [],.mk 9 0 2 5 [] [.mk 2 0 0 0 [(97,97)] []]]
theorem bH5(s:Nat):er (exT s)=exE:=by simp [exT,exE,er,ers]
def exP:Ps:=.row [.lf 3 0 [],.rep 2 5 (.lf 2 0 [(97,97)])]
theorem xK(s:Nat):bT false false 0 0 (pp [] (exT s))=0:=by
 refine vY (x:=exP) (by rw [bH5];simp [exE,exP,te,tes]) ?_ ?_ ?_ (by simp [exP,Ps.dp,eQ]) (by simp [exP,Ps.sz,eP])
 ·simp only [exP,wf,wfs,yN]
  refine⟨by simp,fun i x hx=>?_,by simp [eG]⟩
  match i,hx with
  | 0,hx=>simp at hx;subst hx;simp [cD,Ps.kd]
  | 1,hx=>simp at hx;subst hx;simp [cD,Ps.kd]
  | i+2,hx=>simp at hx
 ·intro q hq
  simp only [exP,pfl,bS,List.append_nil,List.cons_append,List.nil_append,List.mem_cons,List.not_mem_nil,or_false] at hq
  rcases hq with rfl | rfl | rfl
  ·exact⟨fun q=>absurd q (by decide),fun _=>rfl,fun q=>absurd q (by decide),fun _=>rfl⟩
  ·exact⟨fun _=>⟨⟨uF (by decide) (by decide) (by decide),fun q=>by cases q⟩,rfl⟩,fun q=>absurd rfl q,fun q=>absurd q (by decide),fun _=>rfl⟩
  ·rfl
 ·simp only [exP,pfl,bS,List.append_nil,List.cons_append,List.nil_append]
  refine⟨fun q=>absurd q (by decide),⟨fun q=>absurd q (by decide),rfl⟩⟩
theorem bH6:cM false [(97,97)]=[97]:=by kernel_rfl
theorem aU7:prE false exE=[94,97,92,123,50,44,53,92,125]:=by
 simp [exE,prE,cY,fT,bH6,dG,eS]
theorem bP3:lI (txt [97])=[97]:=by decide +kernel
theorem bN8(s:Nat):(pp [] (exT s)).map (fun x=>(x.1.length,x.2.f.k,x.2.f.n,x.2.f.mn,x.2.f.mx,x.2.f.rs))=[(0,5,0,0,0,[]),(1,3,0,0,0,[]),(1,9,0,2,5,[]),(2,2,0,0,0,[(97,97)])]:=by
 simp [exT,fU,bY,bU,Tr.f,Tr.ks]
theorem aV7(c:Bool)(L:List El):gV c L=(L.map (fun x=>(x.1.length,x.2.f.k,x.2.f.n,x.2.f.mn,x.2.f.mx,x.2.f.rs))).flatMap fun y=>List.replicate (2 * y.1) 32 ++ rP c y.2.1 y.2.2.1 y.2.2.2.1 y.2.2.2.2.1 y.2.2.2.2.2 ++ [10]:=by
 unfold gV oM
 rw [List.flatMap_map]
theorem bD8(s:Nat):gV false (pp [] (exT s))=[99,97,116,10,32,32,98,101,103,105,110,10,32,32,114,101,112,32,50,32,53,10,32,32,32,32,115,101,116,32,97,10]:=by
 rw [aV7,bN8]
 simp [rP,bH6,bP3,eS,List.replicate]
theorem aU8(s:Nat):mO false false (exT s)=([94,97,92,123,50,44,53,92,125],0):=by
 unfold mO
 rw [if_neg (by rw [xK];simp),bH5,aU7,if_neg (by decide)]
theorem aU9(s:Nat):nF false false (exT s)=([99,97,116,10,32,32,98,101,103,105,110,10,32,32,114,101,112,32,50,32,53,10,32,32,32,32,115,101,116,32,97,10],0):=by
 unfold nF
 rw [if_neg (by rw [xK];simp),bD8]
theorem bN7{W:World}{s:Nat}(h0:W.heap[s]?=some (.cells #[.int .i64 97,.int .i64 97] 48 (0,0)))(h1:W.heap[s+1]?=some (.cells #[.int .i64 2,.int .i64 0,.int .i64 0,.int .i64 0,.slice (some ⟨s,0,none⟩) 1 1,.slice none 0 0] 25 (0,0)))
  (h2:W.heap[s+2]?=some (.cells #[.int .i64 3,.int .i64 0,.int .i64 0,.int .i64 0,.slice none 0 0,.slice none 0 0,.int .i64 9,.int .i64 0,.int .i64 2,.int .i64 5,.slice none 0 0,.slice (some ⟨s+1,0,none⟩) 1 1] 25 (0,0))):TB W (exT s):=by
 have r0:ArgR W (.slice none 0 0) []:=.inl ⟨none,0,rfl,rfl,fun _=>rfl⟩
 have k0:ArgK W (.slice none 0 0) []:=.inl ⟨none,0,rfl,rfl,fun _=>rfl⟩
 have f0:Fit []:=fun r hr=>by cases hr
 have leaf:∀ (k n mn mx:Int),NB W (.mk ⟨k,n,mn,mx,[],none,0,none,0,0⟩ []):=fun k n mn mx=>⟨r0,k0,f0,by simp [Tr.f]⟩
 have set:NB W (.mk ⟨2,0,0,0,[(97,97)],some ⟨s,0,none⟩,1,none,0,0⟩ []):=by
  refine⟨.inr ⟨s,0,1,rfl,aA h0,by simp [Tr.f],by unfold maxLen;omega,fun i r hr=>?_⟩,k0,fun r hr=>by simp [Tr.f] at hr;subst hr;simp,by simp [Tr.f]⟩
  ·match i,hr with
   | 0,hr=>
    simp [Tr.f] at hr
    subst hr
    exact⟨aB h0 rfl,aB h0 rfl⟩
   | i+1,hr=>simp [Tr.f] at hr
 have rep:NB W (.mk ⟨9,0,2,5,[],none,0,some ⟨s+1,0,none⟩,1,1⟩ [.mk ⟨2,0,0,0,[(97,97)],some ⟨s,0,none⟩,1,none,0,0⟩ []]):=by
  refine⟨r0,.inr ⟨s+1,0,1,rfl,aA h1,by simp [Tr.ks],by unfold maxLen;omega,fun i t ht=>?_⟩,f0,by simp [Tr.f]⟩
  ·match i,ht with
   | 0,ht=>
    simp [Tr.ks] at ht
    subst ht
    exact⟨aB h1 rfl,aB h1 rfl,aB h1 rfl,aB h1 rfl,aB h1 rfl,aB h1 rfl⟩
   | i+1,ht=>simp [Tr.ks] at ht
 have cat:NB W (exT s):=by
  refine⟨r0,.inr ⟨s+2,0,2,rfl,aA h2,by simp [exT,Tr.ks],by unfold maxLen;omega,fun i t ht=>?_⟩,f0,by simp [exT,Tr.f]⟩
  ·match i,ht with
   | 0,ht=>
    simp [exT,Tr.ks] at ht
    subst ht
    exact⟨aB h2 rfl,aB h2 rfl,aB h2 rfl,aB h2 rfl,aB h2 rfl,aB h2 rfl⟩
   | 1,ht=>
    simp [exT,Tr.ks] at ht
    subst ht
    exact⟨aB h2 rfl,aB h2 rfl,aB h2 rfl,aB h2 rfl,aB h2 rfl,aB h2 rfl⟩
   | i+2,ht=>simp [exT,Tr.ks] at ht
 refine(aZ _).2 ⟨cat,(bA _).2 fun u hu=>?_⟩
 simp [exT,Tr.ks] at hu
 rcases hu with rfl | rfl
 ·exact(aZ _).2 ⟨leaf 3 0 0 0,(bA _).2 fun u hu=>by simp [Tr.ks] at hu⟩
 ·refine(aZ _).2 ⟨rep,(bA _).2 fun u hu=>?_⟩
  simp [Tr.ks] at hu
  subst hu
  exact(aZ _).2 ⟨set,(bA _).2 fun u hu=>by simp [Tr.ks] at hu⟩
theorem yS(l:List UInt8):(txt l).toList=l:=by rw [Lib.toList_data];rfl
theorem bO4:cM false [(93,94)]=[91,91,46,93,46,93,45,91,46,94,46,93,93]:=by kernel_rfl
theorem bO3:cM false [(42,42)]=[92,42]:=by kernel_rfl
theorem bO2:¬ IsC [(5,4)] (fun x=>In [(5,4)] x/\aU false x):=fun h=>by have:=h.cls.some (5,4) (by simp);simp at this
theorem nC{w:World}(hG:Glb w):Calls Tryz.prog 9 #[] w fun e w'=>e=.returned (.bool true)/\Below w.heap.size w w':=by
 have HG:=aC hG
 have CA:=aC (fun (W:World)=>(sX (w:=W.alloc (.cells #[.int .i64 93,.int .i64 94] 48)) false false (uT W 93 94) (uF (by decide) (by decide) (by decide))))
 have CB:=aC (fun (W:World)=>(sX (w:=W.alloc (.cells #[.int .i64 42,.int .i64 42] 48)) false false (uT W 42 42) (uF (by decide) (by decide) (by decide))))
 have CC:=aC (fun (W:World)=>(aB7 (w:=W.alloc (.cells #[.int .i64 5,.int .i64 4] 48)) false false (uT W 5 4) (fun r hr=>by simp at hr;subst hr;simp) (by simp) bO2))
 rw [bO4] at CA
 rw [bO3] at CB
 have PN:=aC (fun (W:World) (s:Nat) (hT:TB W (exT s)) (hW:Below w.heap.size w W)=>sD false false hT (hG.kept hW))
 have DN:=aC (fun (W:World) (s:Nat) (hT:TB W (exT s)) (hW:Below w.heap.size w W)=>aV8 false false hT (hG.kept hW))
 simp only [aU8] at PN
 simp only [aU9] at DN
 clear hG
 go_enter Tryz.func9,Tryz.ntmps9
 go_upto_region 4 with first
  |(go_at_call 15;refine(CC.out _).mono ?_;rintro e w3 ⟨rfl,h3⟩;have B3:=aC (aD B2.out (h3.mono (by simp)  |> fun q=>((bz9).trans q)) lz9);clear h3)
  |(go_at_call 15;refine(CB.out _).mono ?_;rintro e w2 ⟨rfl,h2⟩;have B2:=aC (aD B1.out ((bz9).trans (h2.mono (by simp))) lz9);clear h2)
  |(go_at_call 15;refine(CA.out _).mono ?_;rintro e w1 ⟨rfl,h1⟩;have B1:=aC ((bz9).trans (h1.mono (by simp)));clear h1)
 have X0:Hid (((((w3.alloc (.cells #[.int .i64 97,.int .i64 97] 48)).alloc (.cells #[.int .i64 2,.int .i64 0,.int .i64 0,.int .i64 0,.slice (some ⟨w3.heap.size,0,none⟩) 1 1,.slice none 0 0] 25)).alloc (.cells #[.int .i64 3,.int .i64 0,.int .i64 0,.int .i64 0,.slice none 0 0,.slice none 0 0,.int .i64 9,.int .i64 0,.int .i64 2,.int .i64 5,.slice none 0 0,.slice (some ⟨w3.heap.size+1,0,none⟩) 1 1] 25)).alloc (.cells #[.int .i64 5,.int .i64 0,.int .i64 0,.int .i64 0,.slice none 0 0,.slice (some ⟨w3.heap.size+1+1,0,none⟩) 2 2] 25)).heap[w3.heap.size]?=some (.cells #[.int .i64 97,.int .i64 97] 48 (0,0))):=(Below.heap_alloc _ _ _ (by simp only [World.size_alloc];omega)).trans ((Below.heap_alloc _ _ _ (by simp only [World.size_alloc];omega)).trans ((Below.heap_alloc _ _ _ (by simp only [World.size_alloc];omega)).trans (aE w3 _)))
 have X1:Hid (((((w3.alloc (.cells #[.int .i64 97,.int .i64 97] 48)).alloc (.cells #[.int .i64 2,.int .i64 0,.int .i64 0,.int .i64 0,.slice (some ⟨w3.heap.size,0,none⟩) 1 1,.slice none 0 0] 25)).alloc (.cells #[.int .i64 3,.int .i64 0,.int .i64 0,.int .i64 0,.slice none 0 0,.slice none 0 0,.int .i64 9,.int .i64 0,.int .i64 2,.int .i64 5,.slice none 0 0,.slice (some ⟨w3.heap.size+1,0,none⟩) 1 1] 25)).alloc (.cells #[.int .i64 5,.int .i64 0,.int .i64 0,.int .i64 0,.slice none 0 0,.slice (some ⟨w3.heap.size+1+1,0,none⟩) 2 2] 25)).heap[w3.heap.size+1]?=some (.cells #[.int .i64 2,.int .i64 0,.int .i64 0,.int .i64 0,.slice (some ⟨w3.heap.size,0,none⟩) 1 1,.slice none 0 0] 25 (0,0))):=(Below.heap_alloc _ _ _ (by simp only [World.size_alloc];omega)).trans ((Below.heap_alloc _ _ _ (by simp only [World.size_alloc];omega)).trans (by have:=aE (w3.alloc (.cells #[.int .i64 97,.int .i64 97] 48)) (.cells #[.int .i64 2,.int .i64 0,.int .i64 0,.int .i64 0,.slice (some ⟨w3.heap.size,0,none⟩) 1 1,.slice none 0 0] 25);rwa [World.size_alloc] at this))
 have X2:Hid (((((w3.alloc (.cells #[.int .i64 97,.int .i64 97] 48)).alloc (.cells #[.int .i64 2,.int .i64 0,.int .i64 0,.int .i64 0,.slice (some ⟨w3.heap.size,0,none⟩) 1 1,.slice none 0 0] 25)).alloc (.cells #[.int .i64 3,.int .i64 0,.int .i64 0,.int .i64 0,.slice none 0 0,.slice none 0 0,.int .i64 9,.int .i64 0,.int .i64 2,.int .i64 5,.slice none 0 0,.slice (some ⟨w3.heap.size+1,0,none⟩) 1 1] 25)).alloc (.cells #[.int .i64 5,.int .i64 0,.int .i64 0,.int .i64 0,.slice none 0 0,.slice (some ⟨w3.heap.size+1+1,0,none⟩) 2 2] 25)).heap[w3.heap.size+2]?=some (.cells #[.int .i64 3,.int .i64 0,.int .i64 0,.int .i64 0,.slice none 0 0,.slice none 0 0,.int .i64 9,.int .i64 0,.int .i64 2,.int .i64 5,.slice none 0 0,.slice (some ⟨w3.heap.size+1,0,none⟩) 1 1] 25 (0,0))):=(Below.heap_alloc _ _ _ (by simp only [World.size_alloc];omega)).trans (by have:=aE ((w3.alloc (.cells #[.int .i64 97,.int .i64 97] 48)).alloc (.cells #[.int .i64 2,.int .i64 0,.int .i64 0,.int .i64 0,.slice (some ⟨w3.heap.size,0,none⟩) 1 1,.slice none 0 0] 25)) (.cells #[.int .i64 3,.int .i64 0,.int .i64 0,.int .i64 0,.slice none 0 0,.slice none 0 0,.int .i64 9,.int .i64 0,.int .i64 2,.int .i64 5,.slice none 0 0,.slice (some ⟨w3.heap.size+1,0,none⟩) 1 1] 25);rwa [World.size_alloc,World.size_alloc] at this)
 have X3:Hid (((((w3.alloc (.cells #[.int .i64 97,.int .i64 97] 48)).alloc (.cells #[.int .i64 2,.int .i64 0,.int .i64 0,.int .i64 0,.slice (some ⟨w3.heap.size,0,none⟩) 1 1,.slice none 0 0] 25)).alloc (.cells #[.int .i64 3,.int .i64 0,.int .i64 0,.int .i64 0,.slice none 0 0,.slice none 0 0,.int .i64 9,.int .i64 0,.int .i64 2,.int .i64 5,.slice none 0 0,.slice (some ⟨w3.heap.size+1,0,none⟩) 1 1] 25)).alloc (.cells #[.int .i64 5,.int .i64 0,.int .i64 0,.int .i64 0,.slice none 0 0,.slice (some ⟨w3.heap.size+1+1,0,none⟩) 2 2] 25)).heap[w3.heap.size+1+1+1]?=some (.cells #[.int .i64 5,.int .i64 0,.int .i64 0,.int .i64 0,.slice none 0 0,.slice (some ⟨w3.heap.size+1+1,0,none⟩) 2 2] 25 (0,0))):=(by have:=aE (((w3.alloc (.cells #[.int .i64 97,.int .i64 97] 48)).alloc (.cells #[.int .i64 2,.int .i64 0,.int .i64 0,.int .i64 0,.slice (some ⟨w3.heap.size,0,none⟩) 1 1,.slice none 0 0] 25)).alloc (.cells #[.int .i64 3,.int .i64 0,.int .i64 0,.int .i64 0,.slice none 0 0,.slice none 0 0,.int .i64 9,.int .i64 0,.int .i64 2,.int .i64 5,.slice none 0 0,.slice (some ⟨w3.heap.size+1,0,none⟩) 1 1] 25)) (.cells #[.int .i64 5,.int .i64 0,.int .i64 0,.int .i64 0,.slice none 0 0,.slice (some ⟨w3.heap.size+1+1,0,none⟩) 2 2] 25);rwa [World.size_alloc,World.size_alloc,World.size_alloc] at this)
 have B4:Hid (Below w.heap.size w ((((w3.alloc (.cells #[.int .i64 97,.int .i64 97] 48)).alloc (.cells #[.int .i64 2,.int .i64 0,.int .i64 0,.int .i64 0,.slice (some ⟨w3.heap.size,0,none⟩) 1 1,.slice none 0 0] 25)).alloc (.cells #[.int .i64 3,.int .i64 0,.int .i64 0,.int .i64 0,.slice none 0 0,.slice none 0 0,.int .i64 9,.int .i64 0,.int .i64 2,.int .i64 5,.slice none 0 0,.slice (some ⟨w3.heap.size+1,0,none⟩) 1 1] 25)).alloc (.cells #[.int .i64 5,.int .i64 0,.int .i64 0,.int .i64 0,.slice none 0 0,.slice (some ⟨w3.heap.size+1+1,0,none⟩) 2 2] 25))):=aD B3.out ((((bz9).alloc (by simp only [World.size_alloc];omega) _).alloc (by simp only [World.size_alloc];omega) _).alloc (by simp only [World.size_alloc];omega) _) lz9
 go_upto_region 5 with fail
 generalize ((((w3.alloc (.cells #[.int .i64 97,.int .i64 97] 48)).alloc (.cells #[.int .i64 2,.int .i64 0,.int .i64 0,.int .i64 0,.slice (some ⟨w3.heap.size,0,none⟩) 1 1,.slice none 0 0] 25)).alloc (.cells #[.int .i64 3,.int .i64 0,.int .i64 0,.int .i64 0,.slice none 0 0,.slice none 0 0,.int .i64 9,.int .i64 0,.int .i64 2,.int .i64 5,.slice none 0 0,.slice (some ⟨w3.heap.size+1,0,none⟩) 1 1] 25)).alloc (.cells #[.int .i64 5,.int .i64 0,.int .i64 0,.int .i64 0,.slice none 0 0,.slice (some ⟨w3.heap.size+1+1,0,none⟩) 2 2] 25))=w4 at X0 X1 X2 X3 B4 ⊢
 have TE:=aC (bN7 X0.out X1.out X2.out)
 have a0:=aB X3.out (i:=0) rfl
 have a1:=aB X3.out (i:=1) rfl
 have a2:=aB X3.out (i:=2) rfl
 have a3:=aB X3.out (i:=3) rfl
 have a4:=aB X3.out (i:=4) rfl
 have a5:=aB X3.out (i:=5) rfl
 have P4:=aC (PN.out w4 w3.heap.size TE.out B4.out)
 have TL:=yS
 go_wp2_with first
  |(go_at_call 14;refine(D5.out).mono ?_;rintro e w6 ⟨rfl,h6⟩;have B6:=aC (aD B5.out h6 lz9);clear h6)
  |(go_at_call 10;refine(P4.out).mono ?_;rintro e w5 ⟨rfl,h5⟩;have B5:=aC (aD B4.out h5 lz9);have Y3:Hid _:=(h5.block _ (aA X3.out)).trans X3.out;have b0:=aB Y3.out (i:=0) rfl;have b1:=aB Y3.out (i:=1) rfl;have b2:=aB Y3.out (i:=2) rfl;have b3:=aB Y3.out (i:=3) rfl;have b4:=aB Y3.out (i:=4) rfl;have b5:=aB Y3.out (i:=5) rfl;have D5:=aC (DN.out w5 w3.heap.size (TE.out.kept h5) B5.out);clear h5)
 all_goals go_ret
 all_goals exact⟨rfl,B6.out⟩
structure LB(w:World)(t:Tr)(m:Md)(ba bb:Nat)(W:World):Prop where
 nd:BoxN W ba t.f
 md:W.heap[bb]?=some (.cells #[.bool m.c,.bool m.f] 27 (0,0))
 bel:Below w.heap.size w W
 ta:TB W t
theorem LB.kept{w:World}{t:Tr}{m:Md}{ba bb:Nat}{W W':World}(h:LB w t m ba bb W)(hb:Below W.heap.size W W'):LB w t m ba bb W':=
 ⟨(hb.block _ (aA h.nd)).trans h.nd,(hb.block _ (aA h.md)).trans h.md,aD h.bel hb lz9,h.ta.kept hb⟩
theorem zF{w:World}{a b:Tr}(ta:TB w a)(tb:TB w b)(he:er a=er b)(hb:(pp [] b).length<=2000):Calls Tryz.prog 13 #[.agg #[.int .i64 a.f.k,.int .i64 a.f.n,.int .i64 a.f.mn,.int .i64 a.f.mx,.slice a.f.rq a.f.rs.length a.f.rc,.slice a.f.kq a.f.kl a.f.kc],.agg #[.int .i64 b.f.k,.int .i64 b.f.n,.int .i64 b.f.mn,.int .i64 b.f.mx,.slice b.f.rq b.f.rs.length b.f.rc,.slice b.f.kq b.f.kl b.f.kc]] w fun e w'=>e=.returned (.bool true)/\Below w.heap.size w w':=by
 refine(bA5 ta tb).mono fun e w' ⟨h1,h2⟩=>⟨?_,h2⟩
 have hl:(pp [] a).length=(pp [] b).length:=by rw [pX,pX,<- xQ,<- xQ,he]
 rw [h1,hl,decide_eq_false (by omega),he,pQ]
 rfl
structure MB(w:World)(m:Md)(W:World):Prop where
 md:W.heap[w.heap.size]?=some (.cells #[.bool m.c,.bool m.f] 27 (0,0))
 bel:Below w.heap.size w W
theorem MB.new(w:World)(m:Md):MB w m (w.alloc (.cells #[.bool m.c,.bool m.f] 27)):=⟨aE w _,bz9⟩
theorem MB.kept{w:World}{m:Md}{W W':World}(h:MB w m W)(hb:Below W.heap.size W W'):MB w m W':=⟨(hb.block _ (aA h.md)).trans h.md,aD h.bel hb lz9⟩
structure LT(w:World)(m:Md)(t u:Tr)(ba bb:Nat)(W:World):Prop where
 nd:BoxN W ba t.f
 ne:BoxN W bb u.f
 md:W.heap[w.heap.size]?=some (.cells #[.bool m.c,.bool m.f] 27 (0,0))
 bel:Below w.heap.size w W
 ta:TB W t
 tu:TB W u
theorem LT.kept{w:World}{t u:Tr}{m:Md}{ba bb:Nat}{W W':World}(h:LT w m t u ba bb W)(hb:Below W.heap.size W W'):LT w m t u ba bb W':=
 ⟨(hb.block _ (aA h.nd)).trans h.nd,(hb.block _ (aA h.ne)).trans h.ne,(hb.block _ (aA h.md)).trans h.md,aD h.bel hb lz9,h.ta.kept hb,h.tu.kept hb⟩
theorem MB.put{w:World}{m:Md}{W W':World}{t:Tr}(h:MB w m W)(hb:Below W.heap.size W W')(ht:TA W' t):LB w t m W'.heap.size w.heap.size (W'.alloc (.cells #[.int .i64 t.f.k,.int .i64 t.f.n,.int .i64 t.f.mn,.int .i64 t.f.mx,.slice t.f.rq t.f.rs.length t.f.rc,.slice t.f.kq t.f.kl t.f.kc] 25)):=
 have h':=h.kept hb
 have B:Below W'.heap.size W' (W'.alloc (.cells #[.int .i64 t.f.k,.int .i64 t.f.n,.int .i64 t.f.mn,.int .i64 t.f.mx,.slice t.f.rq t.f.rs.length t.f.rc,.slice t.f.kq t.f.kl t.f.kc] 25)):=bz9
 ⟨aE W' _,(B.block _ (aA h'.md)).trans h'.md,aD h'.bel B lz9,ht.tb.kept B⟩
theorem LB.put{w:World}{t u:Tr}{m:Md}{ba:Nat}{W W':World}(h:LB w t m ba w.heap.size W)(hb:Below W.heap.size W W')(hu:TA W' u):LT w m t u ba W'.heap.size (W'.alloc (.cells #[.int .i64 u.f.k,.int .i64 u.f.n,.int .i64 u.f.mn,.int .i64 u.f.mx,.slice u.f.rq u.f.rs.length u.f.rc,.slice u.f.kq u.f.kl u.f.kc] 25)):=
 have h':=h.kept hb
 have B:Below W'.heap.size W' (W'.alloc (.cells #[.int .i64 u.f.k,.int .i64 u.f.n,.int .i64 u.f.mn,.int .i64 u.f.mx,.slice u.f.rq u.f.rs.length u.f.rc,.slice u.f.kq u.f.kl u.f.kc] 25)):=bz9
 ⟨(B.block _ (aA h'.nd)).trans h'.nd,aE W' _,(B.block _ (aA h'.md)).trans h'.md,aD h'.bel B lz9,h'.ta.kept B,hu.tb.kept B⟩
theorem aM9{w:World}(hG:Glb w)(s:ByteArray)(m:Md){c a:Nat}(hp:∀ W,Below w.heap.size w W->aH7 s m W (fH W c a)) :
  Calls Tryz.prog 4 #[.string s,.agg #[.bool m.c,.bool m.f]] w fun e w'=>e=.returned (.bool true)/\Below w.heap.size w w':=by
 have L1:=aC (MB.new w m)
 have EX:=aC (fun W (hW:Below w.heap.size w W)=>nC (hG.kept hW))
 have HP:=aC hp
 clear hG hp
 go_enter Tryz.func4,Tryz.ntmps4
 go_upto_region 1 with fail
 generalize (w.alloc (.cells #[.bool m.c,.bool m.f] 27))=w1 at L1 ⊢
 go_wp2_with first
  |(go_at_call 9;(with_reducible refine(EX.out _ L1.out.bel).mono ?_);rintro e w2 ⟨rfl,h2⟩;have L2:=aC (L1.out.kept h2);clear h2;have a0:=aB L2.out.md (i:=0) rfl;have a1:=aB L2.out.md (i:=1) rfl)
  |(go_at_call 12;(with_reducible refine(HP.out _ L2.out.bel).mono ?_);rintro e w3 ⟨g3,h1,rfl,h2,h3⟩;have L3:=aC (L2.out.kept (h3.alloc h3.size bC));have N3:=aE w3 bC;clear h1 h2 h3)
 go_ret
 exact⟨rfl,L3.out.bel⟩
theorem aY0{w:World}(hG:Glb w)(s:ByteArray)(m:Md){x:Ps}{T:List Tp}(hx:Takes m s x T) :
  Calls Tryz.prog 4 #[.string s,.agg #[.bool m.c,.bool m.f]] w fun e w'=>e=.returned (.bool true)/\Below w.heap.size w w':=by
 have L1:=aC (MB.new w m)
 have EX:=aC (fun W (hW:Below w.heap.size w W)=>nC (hG.kept hW))
 have HP:=aC (fun W (hW:Below w.heap.size w W)=>hx.calls (hG.kept hW))
 have HR:Hid (∀ t,er t=te x->bT m.c m.f 0 0 (pp [] t)=0):=fun t ht=>vY ht hx.wf (by rw [hx.pfl];exact bK2 hG hx.lex 0) hx.hk hx.dp hx.sz
 have HG:=aC hG
 obtain⟨L,hL⟩:∃ L,prE m.c (te x)=L:=⟨_,rfl⟩
 have HL:=aC hL
 obtain⟨o,ho⟩:∃ o:List UInt8 × Int,(if 2000 < L.length then ([],30) else (L,0))=o:=⟨_,rfl⟩
 have PO:Hid (∀ (W:World) (t:Tr),TB W t->er t=te x->Below w.heap.size w W->Calls Tryz.prog 10 #[.agg #[.int .i64 t.f.k,.int .i64 t.f.n,.int .i64 t.f.mn,.int .i64 t.f.mx,.slice t.f.rq t.f.rs.length t.f.rc,.slice t.f.kq t.f.kl t.f.kc],.agg #[.bool m.c,.bool m.f]] W fun e w'=>e=.returned (.tuple #[.string (txt o.1),.int .i64 o.2])/\Below W.heap.size W w'):=fun W t ht he hW=>by
  have:=sD m.c m.f ht (hG.kept hW)
  unfold mO at this
  rw [HR.out t he,if_neg (by simp),he,hL,ho] at this
  exact this
 clear hG hL hx
 go_enter Tryz.func4,Tryz.ntmps4
 go_upto_region 1 with fail
 generalize (w.alloc (.cells #[.bool m.c,.bool m.f] 27))=w1 at L1 ⊢
 go_upto_region 3 with first
  |(go_at_call 9;(with_reducible refine(EX.out _ L1.out.bel).mono ?_);rintro e w2 ⟨rfl,h2⟩;have L2:=aC (L1.out.kept h2);clear h2;have a0:=aB L2.out.md (i:=0) rfl;have a1:=aB L2.out.md (i:=1) rfl)
  |(go_at_call 12;(with_reducible refine(HP.out _ L2.out.bel).mono ?_);rintro e w3 ⟨t3,rfl,h1,h2,h3,h4⟩;have L3:=aC (L2.out.put h4 h1);have E3:=aC h2;clear h1 h2 h3 h4)
 clear a0 a1
 generalize hz:w3.heap.size=z at L3 ⊢
 generalize (w3.alloc (.cells #[.int .i64 t3.f.k,.int .i64 t3.f.n,.int .i64 t3.f.mn,.int .i64 t3.f.mx,.slice t3.f.rq t3.f.rs.length t3.f.rc,.slice t3.f.kq t3.f.kl t3.f.kc] 25))=w4 at L3 ⊢
 obtain⟨n0,n1,n2,n3,n4,n5⟩:=L3.out.nd.six
 simp only [Nat.zero_add] at n1 n2 n3 n4 n5
 have a0:=aB L3.out.md (i:=0) rfl
 have a1:=aB L3.out.md (i:=1) rfl
 by_cases hlong:2000 < L.length
 ·rw [if_pos hlong] at ho
  subst ho
  clear hlong
  go_wp2_with (go_at_call 10;(with_reducible refine(PO.out _ _ L3.out.ta E3.out L3.out.bel).mono ?_);rintro e w5 ⟨rfl,h5⟩;have L5:=aC (L3.out.kept h5);clear h5)
  go_ret
  exact⟨by simp,L5.out.bel⟩
 ·rw [if_neg hlong] at ho
  subst ho
  obtain⟨y,U,hy,hte⟩:=zB (m:=m) (s:=txt L) (HR.out t3 E3.out) (by rw [E3.out,HL.out];simp [txt]) (by rw [bW];omega)
  have PC:=aC (fun W (hW:Below w.heap.size w W)=>hy.calls (HG.out.kept hW))
  have HTE:=aC (hte.trans E3.out)
  have HTF:=aC hte
  have HLN:=aC (kR (HR.out t3 E3.out))
  clear hlong hy hte
  go_upto_region 6 with (go_at_call 10;(with_reducible refine(PO.out _ _ L3.out.ta E3.out L3.out.bel).mono ?_);rintro e w5 ⟨rfl,h5⟩;have L5:=aC (L3.out.kept h5);clear h5)
  clear n0 n1 n2 n3 n4 n5 a0 a1
  have a0:=aB L5.out.md (i:=0) rfl
  have a1:=aB L5.out.md (i:=1) rfl
  go_upto_region 9 with (go_at_call 12;(with_reducible refine(PC.out _ L5.out.bel).mono ?_);rintro e w6 ⟨t6,rfl,h1,h2,h3,h4⟩;have L6:=aC (L5.out.put h4 h1);have E6:=aC h2;clear h1 h2 h3 h4)
  clear a0 a1
  generalize hy:w6.heap.size=zz at L6 ⊢
  generalize (w6.alloc (.cells #[.int .i64 t6.f.k,.int .i64 t6.f.n,.int .i64 t6.f.mn,.int .i64 t6.f.mx,.slice t6.f.rq t6.f.rs.length t6.f.rc,.slice t6.f.kq t6.f.kl t6.f.kc] 25))=w7 at L6 ⊢
  obtain⟨n0,n1,n2,n3,n4,n5⟩:=L6.out.ne.six
  simp only [Nat.zero_add] at n1 n2 n3 n4 n5
  have a0:=aB L6.out.md (i:=0) rfl
  have a1:=aB L6.out.md (i:=1) rfl
  go_upto_region 10 with (go_at_call 10;(with_reducible refine(PO.out _ _ L6.out.tu (E6.out.trans HTE.out) L6.out.bel).mono ?_);rintro e w8 ⟨rfl,h8⟩;have L8:=aC (L6.out.kept h8);clear h8)
  clear n0 n1 n2 n3 n4 n5 a0 a1
  obtain⟨n0,n1,n2,n3,n4,n5⟩:=L8.out.ne.six
  simp only [Nat.zero_add] at n1 n2 n3 n4 n5
  obtain⟨q0,q1,q2,q3,q4,q5⟩:=L8.out.nd.six
  simp only [Nat.zero_add] at q1 q2 q3 q4 q5
  go_wp2_with (go_at_call 13;refine(zF L8.out.tu L8.out.ta (E6.out.trans HTF.out) HLN.out).mono ?_;rintro e w9 ⟨rfl,h9⟩;have L9:=aC (L8.out.kept h9);clear h9)
  go_ret
  exact⟨by simp,L9.out.bel⟩
theorem xB{w:World}(hG:Glb w)(s:ByteArray)(m:Md) :
  Calls Tryz.prog 4 #[.string s,.agg #[.bool m.c,.bool m.f]] w fun e w'=>e=.returned (.bool true)/\Below w.heap.size w w':=by
 rcases aK2 hG s m with⟨c,a,hp⟩ | ⟨x,T,hx⟩
 ·exact aM9 hG s m hp
 ·exact aY0 hG s m hx
end Go.Proofs.YticfnglebbakkaaGreatDoor
