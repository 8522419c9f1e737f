/-
  Parts of the proof.
-/
import Derived.Test.YticfnglebbakkaaGreatDoorPrintsProofB19
import Derived.Test.YticfnglebbakkaaGreatDoorPrintsProofB24
import Derived.Test.YticfnglebbakkaaGreatDoorPrintsProofB0
import Derived.Deep.Slices
import Derived.Deep.SlicePairs
import Derived.ChangeSame
import Derived.SizedLaws
set_option maxRecDepth 100000
set_option maxHeartbeats 8000000
namespace Go.Proofs.YticfnglebbakkaaGreatDoor
open Go Go.RowKit
section
open Go Go.RowKit Go.Shelf
attribute [local go_sem] Oper.semAt_some
theorem qP{b:Nat}{W W':World}{base:Nat}{e:TypeId}{size n:Nat}{v:Value}{xs:List Value}(h:W.ownsRow base e size v n xs)(hc:Oth b W W')(he:e≠5)(hb:v.ownBlock≠some b):W'.ownsRow base e size v n xs:=by
 refine⟨h.1,?_⟩
 rcases h.2 with q | ⟨g,cap,cur,z1,z2,z3,z4⟩
 ·exact .inl q
 ·exact .inr ⟨g,cap,cur,z1,z2,hc _ _ z3 (fun e=>hb (by rw [z1];exact e)) (fun cs fz e=>by injection e with _ e2 _;exact he e2),z4⟩
theorem aE4(n:Nat)(hn:4<=n){w:World}{t:Tr}(c f:Bool)(hta:TB w t)(hG:Glb w) :
  CallsIn Fence.wide n Tryz.prog 14 #[.agg #[.int .i64 t.f.k,.int .i64 t.f.n,.int .i64 t.f.mn,.int .i64 t.f.mx,.slice t.f.rq t.f.rs.length t.f.rc,.slice t.f.kq t.f.kl t.f.kc],.agg #[.bool c,.bool f]] w fun e w'=>e=.returned (.tuple #[.string (txt (dW c f t).1),.int .i64 (dW c f t).2])/\Below w.heap.size w w':=by
 have hfn:∀ f,Fence.wide.fn f:=fun _=>trivial
 refine callsIn_of_wp_marks Tryz.func14 rfl trivial ?_ rfl
 simp only [Tryz.ntmps14,List.size_toArray,List.length_cons,List.length_nil,Nat.reduceAdd,Nat.reduceSub,Array.replicate_succ,Array.replicate_zero,List.push_toArray,List.append_toArray,List.nil_append,List.cons_append]
 refine wpIn_wide.2 ?_
 have HTA:=aB hta
 have HG:=aB hG
 have B1:Hid (Below w.heap.size w ((w.alloc (.cells #[.int .i64 t.f.k,.int .i64 t.f.n,.int .i64 t.f.mn,.int .i64 t.f.mx,.slice t.f.rq t.f.rs.length t.f.rc,.slice t.f.kq t.f.kl t.f.kc] 25)).alloc (.cells #[.bool c,.bool f] 27))):=(bz9).alloc (by simp) _
 have X1:Hid (BoxN ((w.alloc (.cells #[.int .i64 t.f.k,.int .i64 t.f.n,.int .i64 t.f.mn,.int .i64 t.f.mx,.slice t.f.rq t.f.rs.length t.f.rc,.slice t.f.kq t.f.kl t.f.kc] 25)).alloc (.cells #[.bool c,.bool f] 27)) w.heap.size t.f):=(Below.heap_alloc _ _ _ (by simp)).trans (aF w _)
 have X2:Hid (((w.alloc (.cells #[.int .i64 t.f.k,.int .i64 t.f.n,.int .i64 t.f.mn,.int .i64 t.f.mx,.slice t.f.rq t.f.rs.length t.f.rc,.slice t.f.kq t.f.kl t.f.kc] 25)).alloc (.cells #[.bool c,.bool f] 27)).heap[w.heap.size+1]?=some (.cells #[.bool c,.bool f] 27 (0,0))):=aB (by have:=aF (w.alloc (.cells #[.int .i64 t.f.k,.int .i64 t.f.n,.int .i64 t.f.mn,.int .i64 t.f.mx,.slice t.f.rq t.f.rs.length t.f.rc,.slice t.f.kq t.f.kl t.f.kc] 25)) (.cells #[.bool c,.bool f] 27);simpa using this)
 obtain⟨out,ho⟩:∃ o,dW c f t=o:=⟨_,rfl⟩
 have HO:=aB ho
 rw [ho]
 clear hta hG ho
 go_upto_region 1 with fail
 generalize ((w.alloc (.cells #[.int .i64 t.f.k,.int .i64 t.f.n,.int .i64 t.f.mn,.int .i64 t.f.mx,.slice t.f.rq t.f.rs.length t.f.rc,.slice t.f.kq t.f.kl t.f.kc] 25)).alloc (.cells #[.bool c,.bool f] 27))=w1 at B1 X1 X2 ⊢
 obtain⟨n0,n1,n2,n3,n4,n5⟩:=X1.out.six
 simp only [Nat.zero_add] at n1 n2 n3 n4 n5
 have a0:=aA X2.out (i:=0) rfl
 have a1:=aA X2.out (i:=1) rfl
 have RT:=aB (qL c f (HTA.out.kept B1.out))
 obtain⟨r,hr⟩:∃ r,aS c f 0 0 (pp [] t)=r:=⟨_,rfl⟩
 have HR:=aB hr
 rw [hr] at RT
 clear hr
 by_cases hr0:r=0
 ·subst hr0
  have OK:=aB (tE HR.out)
  have HLEN:=aB (gU HR.out)
  go_upto_region 4 with (go_at_call 11;refine(RT.out).mono ?_;rintro e w2 ⟨rfl,h2⟩;have B2:=aB (aG B1.out h2 lz9);have Y1:Hid (BoxN w2 w.heap.size t.f):=(h2.block _ (aC X1.out)).trans X1.out;have Y2:Hid (w2.heap[w.heap.size+1]?=some (.cells #[.bool c,.bool f] 27 (0,0))):=(h2.block _ (aC X2.out)).trans X2.out;clear h2)
  obtain⟨m0,m1,m2,m3,m4,m5⟩:=Y1.out.six
  simp only [Nat.zero_add] at m1 m2 m3 m4 m5
  have hs2:=B2.out.size
  have B3:Hid (Below w2.heap.size w2 (w2.alloc (.cells #[.pointer none,.slice none 0 0] 54))):=bz9
  have BLN:Hid (BL 54 w.heap.size (w2.alloc (.cells #[.pointer none,.slice none 0 0] 54)) w2.heap.size [] []):=⟨.pointer none,.slice none 0 0,aF w2 _,.inl rfl,⟨rfl,.inl ⟨rfl,rfl⟩⟩,fun _=>rfl,hs2⟩
  go_upto_region 5 with fail
  have Z1:Hid (BoxN (w2.alloc (.cells #[.pointer none,.slice none 0 0] 54)) w.heap.size t.f):=(B3.out.block _ (aC Y1.out)).trans Y1.out
  have Z2:Hid ((w2.alloc (.cells #[.pointer none,.slice none 0 0] 54)).heap[w.heap.size+1]?=some (.cells #[.bool c,.bool f] 27 (0,0))):=(B3.out.block _ (aC Y2.out)).trans Y2.out
  have B4:Hid (Below w.heap.size w (w2.alloc (.cells #[.pointer none,.slice none 0 0] 54))):=aG B2.out B3.out lz9
  generalize hbl:w2.heap.size=bl at BLN ⊢
  have hblw:w.heap.size<=bl:=by omega
  generalize (w2.alloc (.cells #[.pointer none,.slice none 0 0] 54))=w3 at BLN Z1 Z2 B4 ⊢
  clear hbl B3 m0 m1 m2 m3 m4 m5 n0 n1 n2 n3 n4 n5 a0 a1
  obtain⟨z0,z1,z2,z3,z4,z5⟩:=Z1.out.six
  simp only [Nat.zero_add] at z1 z2 z3 z4 z5
  go_wp2_with (go_at_call 35;(with_reducible refine(aN3 _ _).mono ?_);rintro e w7 ⟨rfl,rfl⟩)
  have K5:Below w3.heap.size w3 (w3.alloc (.cells #[.int .i64 t.f.k,.int .i64 t.f.n,.int .i64 t.f.mn,.int .i64 t.f.mx,.slice t.f.rq t.f.rs.length t.f.rc,.slice t.f.kq t.f.kl t.f.kc] 25)):=bz9
  have L5:BoxN (w3.alloc (.cells #[.int .i64 t.f.k,.int .i64 t.f.n,.int .i64 t.f.mn,.int .i64 t.f.mx,.slice t.f.rq t.f.rs.length t.f.rc,.slice t.f.kq t.f.kl t.f.kc] 25)) w3.heap.size t.f:=aF w3 _
  have BL5:=BLN.out.kept K5
  have M5:=(K5.block _ (aC Z2.out)).trans Z2.out
  have B5:=aG B4.out K5 lz9
  have HX:=aB (⟨L5,BL5,M5,B5⟩:_/\_/\_/\_)
  have hlb:bl < w3.heap.size:=by obtain⟨p,v,h1,-⟩:=BLN.out;exact aC h1
  have hlb5:bl < (w3.alloc (.cells #[.int .i64 t.f.k,.int .i64 t.f.n,.int .i64 t.f.mn,.int .i64 t.f.mx,.slice t.f.rq t.f.rs.length t.f.rc,.slice t.f.kq t.f.kl t.f.kc] 25)).heap.size:=by simp;omega
  clear L5 BL5 M5 B5 K5
  generalize (w3.alloc (.cells #[.int .i64 t.f.k,.int .i64 t.f.n,.int .i64 t.f.mn,.int .i64 t.f.mx,.slice t.f.rq t.f.rs.length t.f.rc,.slice t.f.kq t.f.kl t.f.kc] 25))=w5 at HX hlb5 ⊢
  generalize w3.heap.size=bq at HX ⊢
  obtain⟨L5,BL5,M5,B5⟩:=HX.out
  have HLB:=aB hlb5
  clear HX hlb hlb5 z0 z1 z2 z3 z4 z5 Z1 Z2 B4 BLN Y1 Y2
  refine(wpIn_wide (n:=n)).1 ?_
  refine xM hn 18 19 bq rfl rfl L5 HTA.out (CK.of_below B5) (DI w t c f (w.heap.size+1) bl) (fun _ _ _=>False) (fun pre A A' row h hg hr=>h.row B5.size hg hr) (fun _ _ _ _ _ h _ _=>h) (fun pre W h=>by have:=h.len;omega) ⟨M5,BL5,List.nil_prefix,B5⟩
   (fun s y x a' W=>∃ bx,BoxN W bx x.2/\a'={ y with tmps:=(y.tmps.setIfInBounds 8 (.int .i64 ((x.1.1.length:Int)+1))).setIfInBounds 9 (.pointer (some ⟨bx,0,none⟩)) }) ?_ ?_ ?_ ?_ (fun _ _ _ _ _ _ h _=>h.elim)
  ·rintro s y x a' _ A A' row ⟨bx,h1,h2⟩ hg hr
   exact⟨bx,bP hg hr h1,h2⟩
  ·intro l pre x V K _ _ hK
   simp only [iN]
   gi_wp2
   exact hK _ _ (bz9) ⟨_,aF V _,rfl⟩
  ·rintro l pre x a' V0 V h ht ⟨bx,hbx,rfl⟩ hk0 hv0
   have hin:x.1∈pp [] t:=by
    have:=ht.pfx.subset (show x.1∈(pre ++ [x]).map (·.1) by simp)
    exact List.mem_of_mem_take this
   obtain⟨ok1,hd40⟩:=OK.out x.1 hin
   have okx:Okn c f x.2:=⟨fun q=>by rw [ht.ok.rs];exact ok1.set (by rw [<- ht.ok.k];exact q),fun q=>by rw [ht.ok.n];exact ok1.back (by rw [<- ht.ok.k];exact q),fun q=>by rw [ht.ok.mn,ht.ok.mx];exact ok1.rep (by rw [<- ht.ok.k];exact q),fun q=>by rw [ht.ok.n];exact ok1.grp (by rw [<- ht.ok.k];exact q)⟩
   have LE:Hid (eP c x.1.1.length x.1.2.f=List.replicate (2 * x.1.1.length) 32 ++ eO c x.2.k x.2.n x.2.mn x.2.mx x.2.rs ++ [10]):=aB (by unfold eP;rw [ht.ok.k,ht.ok.n,ht.ok.mn,ht.ok.mx,ht.ok.rs])
   have hlen:=h.len
   have hpl:pre.map (·.1) <+: pp [] t:=h.pfx.trans (List.take_prefix _ _)
   have ROOM:Hid ((cN c (pre.map (·.1))).length<=224000200000):=aB (by
    have h1:=mR (c:=c) (f:=f) (pre.map (·.1)) (fun y hy=>OK.out y (hpl.subset hy))
    rw [List.length_map] at h1
    have:112000100 * pre.length<=112000100 * 2000:=Nat.mul_le_mul_left _ hlen
    omega)
   have DL:=aB (rJ okx)
   have hVs:w.heap.size<=V.heap.size:=h.bel.size
   have HH:=aB h
   have HT:=aB ht
   have HK0:=aB hk0
   have HBX:=aB hbx
   have HOK:=aB okx
   obtain⟨d,hd⟩:∃ d,x.1.1.length=d:=⟨_,rfl⟩
   have HDD:=aB hd
   rw [hd] at LE hd40
   have hw1:IntKind.wrap .i64 ((d:Int)+1 - 1)=(d:Int):=by rw [show (d:Int)+1 - 1=(d:Int) by omega];exact wrap_small _ (by omega) (by omega)
   have hw2:(d:Int)+1 - 1=(d:Int):=by omega
   have RP:=aB (Tryz.strings_Repeat ⟨#[32,32]⟩ d V (by omega) (by show 2 * d<=140737488355328;omega))
   rw [show (⟨#[32,32]⟩:ByteArray).data.toList=[32,32] from rfl,aB4] at RP
   simp only [iN]
   rw [hd]
   clear h ht hk0 hbx okx hin ok1 hpl hd
   gi_wp2
   obtain⟨pB,vB,hbl,-⟩:=HH.out.bld
   have NB:=aB (show bx≠bl from fun e=>by subst e;have:=HBX.out;unfold BoxN at this;rw [hbl] at this;cases this)
   have NM:=aB (show w.heap.size+1≠bl from fun e=>by have:=HH.out.md;rw [e,hbl] at this;cases this)
   have HBL:=aB hbl
   clear hbl
   refine⟨(fun z=>by cases z),(CallsIn.inRound l (callsIn_wide.2 (RP.out))).mono ?_⟩
   rintro e V1 ⟨rfl,h1⟩
   have P1:=aB (PrPost.start HH.out.bld h1 hVs)
   have W1:=aB (eT bt0 P1.out.1 (List.replicate (2 * d) 32) (by have:=ROOM.out;simp;omega) (Nat.le_trans hVs P1.out.2.1.size))
   clear h1
   gi_wp2
   refine⟨(fun z=>by cases z),(CallsIn.inRound l (callsIn_wide.2 (W1.out))).mono ?_⟩
   rintro e V2 ⟨rfl,h2⟩
   have P2:=aB (PrPost.trans P1.out h2)
   have X2:Hid (BoxN V2 bx x.2):=P2.out.2.2 _ _ HBX.out (fun e=>by injection e with e;exact NB.out e) (fun cs fz e=>by cases e)
   have M2:Hid (V2.heap[w.heap.size+1]?=some (.cells #[.bool c,.bool f] 27 (0,0))):=P2.out.2.2 _ _ HH.out.md (fun e=>by injection e with e;exact NM.out e) (fun cs fz e=>by cases e)
   obtain⟨k0,k1,k2,k3,k4,k5⟩:=X2.out.six
   simp only [Nat.zero_add] at k1 k2 k3 k4 k5
   have y0:=aA M2.out (i:=0) rfl
   have y1:=aA M2.out (i:=1) rfl
   have DS:=aB (rM x.2 c f (RR.arg (qP HT.out.ok.rr P2.out.2.2 (by decide) (bX HT.out.ok.rr HBL.out (by decide)))) HOK.out (HG.out.kept (HH.out.bel.trans P2.out.2.1)))
   clear h2
   gi_wp2
   refine⟨(fun z=>by cases z),(CallsIn.inRound l (callsIn_wide.2 (DS.out))).mono ?_⟩
   rintro e V3 ⟨rfl,h3⟩
   have P3:=aB (PrPost.then P2.out h3 hVs)
   have W3:=aB (eT bt0 P3.out.1 (eO c x.2.k x.2.n x.2.mn x.2.mx x.2.rs) (by have:=ROOM.out;have:=DL.out;simp;omega) (Nat.le_trans hVs P3.out.2.1.size))
   clear h3 k0 k1 k2 k3 k4 k5 y0 y1
   gi_wp2
   refine⟨(fun z=>by cases z),(CallsIn.inRound l (callsIn_wide.2 (W3.out))).mono ?_⟩
   rintro e V4 ⟨rfl,h4⟩
   have P4:=aB (PrPost.trans P3.out h4)
   have W4:=aB (pX bt0 P4.out.1 10 (by have:=ROOM.out;have:=DL.out;simp;omega) (Nat.le_trans hVs P4.out.2.1.size))
   clear h4
   gi_wp2
   refine⟨(fun z=>by cases z),(CallsIn.inRound l (callsIn_wide.2 (W4.out))).mono ?_⟩
   rintro e V5 ⟨rfl,h5⟩
   have P5:=aB (PrPost.trans P4.out h5)
   clear h5
   gi_wp2
   refine⟨vR P5.out.2.2 P5.out.2.1.size HBL.out,HK0.out.trans (aI7 P5.out.2.2 P5.out.2.1.size HLB.out),⟨P5.out.2.2 _ _ HH.out.md (fun e=>by injection e with e;exact NM.out e) (fun cs fz e=>by cases e),?_,HT.out.pfx,HH.out.bel.trans P5.out.2.1⟩⟩
   have:=P5.out.1
   rw [List.map_append,List.map_cons,List.map_nil,mS,HDD.out,LE.out]
   simpa using this
  ·rintro D xs V hD hxs h hK
   have he:xs.map (·.1)=pp [] t:=by rw [hxs,List.take_of_length_le HLEN.out]
   have SG:=aB (qB h.bld)
   rw [he] at SG
   obtain⟨pB,vB,hbl,-⟩:=h.bld
   have ND:=aB (show D≠bl from fun e=>by subst e;rw [hbl] at hK;cases hK)
   have HB:=aB h.bel
   have HK:=aB hK
   have HD:=aB hD
   have E:Hid (out=(cN c (pp [] t),0)):=aB (by rw [<- HO.out];unfold dW;rw [if_neg (by rw [HR.out];simp)])
   clear h hK hD hbl he hxs
   simp only [dJ]
   go_wp2_with (go_at_call 25;refine(SG.out).mono ?_;rintro e V6 ⟨rfl,h6,o6⟩;have B6:=aB (HB.out.trans h6);have D6:Hid (V6.heap[D]?=some (.deferred (some []))):=o6 _ _ HK.out (fun e=>by injection e with e;exact ND.out e) (fun cs fz e=>by cases e);clear h6 o6)
   refine⟨by simp,.inl ⟨_,_,rfl,run_takeDeferred D6.out,?_⟩⟩
   exact⟨.tuple #[.string (txt out.1),.int .i64 out.2],by simp [results,Tryz.results14,go_sem,E.out],rfl,kD _ B6.out (Nat.le_trans B5.size HD.out)⟩
 ·have E:Hid (out=([],r)):=by
   refine aB ?_
   rw [<- HO.out]
   unfold dW
   rw [HR.out,if_pos hr0]
  have q0:(r != 0)=true:=by simpa using hr0
  have q1:(r==0)=false:=by simpa using hr0
  clear hr0
  go_wp2_with (go_at_call 11;refine(RT.out).mono ?_;rintro e w2 ⟨rfl,h2⟩;have B2:=aB (aG B1.out h2 lz9);clear h2)
  exact⟨.tuple #[.string (txt out.1),.int .i64 out.2],by simp [results,Tryz.results14,go_sem,E.out,txt],rfl,B2.out⟩
theorem rK{w:World}{t:Tr}(c f:Bool)(hta:TB w t)(hG:Glb w) :
  Calls Tryz.prog 14 #[.agg #[.int .i64 t.f.k,.int .i64 t.f.n,.int .i64 t.f.mn,.int .i64 t.f.mx,.slice t.f.rq t.f.rs.length t.f.rc,.slice t.f.kq t.f.kl t.f.kc],.agg #[.bool c,.bool f]] w fun e w'=>e=.returned (.tuple #[.string (txt (dW c f t).1),.int .i64 (dW c f t).2])/\Below w.heap.size w w':=callsIn_wide.1 (aE4 4 (by decide) c f hta hG)
end
theorem pU(W:World)(lo hi:Int):ArgR (W.alloc (.cells #[.int .i64 lo,.int .i64 hi] 48)) (.slice (some ⟨W.heap.size,0,none⟩) 1 1) [(lo,hi)]:=by
 refine .inr ⟨W.heap.size,0,1,rfl,by simp,by simp,by unfold maxLen;omega,fun i r hr=>?_⟩
 match i,hr with
 | 0,hr=>
  simp at hr
  subst hr
  exact⟨aA (aF W _) rfl,aA (aF W _) rfl⟩
 | i+1,hr=>simp at hr
theorem pK{c:Bool}{a b:Int}(h:a<=b)(h0:0<=a)(h1:b < 128):IsC [(a,b)] (fun x=>In [(a,b)] x/\aN c x):=by
 refine⟨⟨fun r hr=>by simp at hr;subst hr;exact h,by simp⟩,fun r hr=>by simp at hr;subst hr;simp only;omega,fun x=>⟨fun q=>⟨q,?_⟩,fun q=>q.1⟩⟩
 rw [cP] at q
 simp only at q
 unfold aN top
 cases c <;> simp <;> omega
def exT(s:Nat):Tr:=.mk ⟨5,0,0,0,[],none,0,some ⟨s+2,0,none⟩,2,2⟩ [.mk ⟨3,0,0,0,[],none,0,none,0,0⟩ [],.mk ⟨9,0,2,5,[],none,0,some ⟨s+1,0,none⟩,1,1⟩ [.mk ⟨2,0,0,0,[(97,97)],some ⟨s,0,none⟩,1,none,0,0⟩ []]]
def exE:Er:=.mk 5 0 0 0 [] [.mk 3 0 0 0 [] [],.mk 9 0 2 5 [] [.mk 2 0 0 0 [(97,97)] []]]
theorem aG6(s:Nat):er (exT s)=exE:=by simp [exT,exE,er,ers]
def exP:Ps:=.row [.lf 3 0 [],.rep 2 5 (.lf 2 0 [(97,97)])]
theorem rE(s:Nat):aS false false 0 0 (pp [] (exT s))=0:=by
 refine xR (x:=exP) (by rw [aG6];simp [exE,exP,te,tes]) ?_ ?_ ?_ (by simp [exP,Ps.dp,kP]) (by simp [exP,Ps.sz,mD])
 ·simp only [exP,wf,wfs,aN4]
  refine⟨by simp,fun i x hx=>?_,by simp [oH]⟩
  match i,hx with
  | 0,hx=>simp at hx;subst hx;simp [qZ,Ps.kd]
  | 1,hx=>simp at hx;subst hx;simp [qZ,Ps.kd]
  | i+2,hx=>simp at hx
 ·intro q hq
  simp only [exP,pfl,nM,List.append_nil,List.cons_append,List.nil_append,List.mem_cons,List.not_mem_nil,or_false] at hq
  rcases hq with rfl | rfl | rfl
  ·exact⟨fun q=>absurd q (by decide),fun _=>rfl,fun q=>absurd q (by decide),fun _=>rfl⟩
  ·exact⟨fun _=>⟨⟨pK (by decide) (by decide) (by decide),fun q=>by cases q⟩,rfl⟩,fun q=>absurd rfl q,fun q=>absurd q (by decide),fun _=>rfl⟩
  ·rfl
 ·simp only [exP,pfl,nM,List.append_nil,List.cons_append,List.nil_append]
  refine⟨fun q=>absurd q (by decide),⟨fun q=>absurd q (by decide),rfl⟩⟩
theorem aG8:dA false [(97,97)]=[97]:=by kernel_rfl
theorem yX:prE false exE=[94,97,92,123,50,44,53,92,125]:=by
 simp [exE,prE,bY,fT,aG8,cD,fH]
theorem aN7:dT (txt [97])=[97]:=by decide +kernel
theorem aM1(s:Nat):(pp [] (exT s)).map (fun x=>(x.1.length,x.2.f.k,x.2.f.n,x.2.f.mn,x.2.f.mx,x.2.f.rs))=[(0,5,0,0,0,[]),(1,3,0,0,0,[]),(1,9,0,2,5,[]),(2,2,0,0,0,[(97,97)])]:=by
 simp [exT,bQ,aT,aV,Tr.f,Tr.ks]
theorem zB(c:Bool)(L:List El):cN c L=(L.map (fun x=>(x.1.length,x.2.f.k,x.2.f.n,x.2.f.mn,x.2.f.mx,x.2.f.rs))).flatMap fun y=>List.replicate (2 * y.1) 32 ++ eO c y.2.1 y.2.2.1 y.2.2.2.1 y.2.2.2.2.1 y.2.2.2.2.2 ++ [10]:=by
 unfold cN eP
 rw [List.flatMap_map]
theorem aE0(s:Nat):cN false (pp [] (exT s))=[99,97,116,10,32,32,98,101,103,105,110,10,32,32,114,101,112,32,50,32,53,10,32,32,32,32,115,101,116,32,97,10]:=by
 rw [zB,aM1]
 simp [eO,aG8,aN7,fH,List.replicate]
theorem yY(s:Nat):dZ false false (exT s)=([94,97,92,123,50,44,53,92,125],0):=by
 unfold dZ
 rw [if_neg (by rw [rE];simp),aG6,yX,if_neg (by decide)]
theorem yZ(s:Nat):dW false false (exT s)=([99,97,116,10,32,32,98,101,103,105,110,10,32,32,114,101,112,32,50,32,53,10,32,32,32,32,115,101,116,32,97,10],0):=by
 unfold dW
 rw [if_neg (by rw [rE];simp),aE0]
theorem aM0{W:World}{s:Nat}(h0:W.heap[s]?=some (.cells #[.int .i64 97,.int .i64 97] 48 (0,0)))(h1:W.heap[s+1]?=some (.cells #[.int .i64 2,.int .i64 0,.int .i64 0,.int .i64 0,.slice (some ⟨s,0,none⟩) 1 1,.slice none 0 0] 25 (0,0)))
  (h2:W.heap[s+2]?=some (.cells #[.int .i64 3,.int .i64 0,.int .i64 0,.int .i64 0,.slice none 0 0,.slice none 0 0,.int .i64 9,.int .i64 0,.int .i64 2,.int .i64 5,.slice none 0 0,.slice (some ⟨s+1,0,none⟩) 1 1] 25 (0,0))):TB W (exT s):=by
 have r0:ArgR W (.slice none 0 0) []:=.inl ⟨none,0,rfl,rfl,fun _=>rfl⟩
 have k0:ArgK W (.slice none 0 0) []:=.inl ⟨none,0,rfl,rfl,fun _=>rfl⟩
 have f0:Fit []:=fun r hr=>by cases hr
 have leaf:∀ (k n mn mx:Int),NB W (.mk ⟨k,n,mn,mx,[],none,0,none,0,0⟩ []):=fun k n mn mx=>⟨r0,k0,f0,by simp [Tr.f]⟩
 have set:NB W (.mk ⟨2,0,0,0,[(97,97)],some ⟨s,0,none⟩,1,none,0,0⟩ []):=by
  refine⟨.inr ⟨s,0,1,rfl,aC h0,by simp [Tr.f],by unfold maxLen;omega,fun i r hr=>?_⟩,k0,fun r hr=>by simp [Tr.f] at hr;subst hr;simp,by simp [Tr.f]⟩
  ·match i,hr with
   | 0,hr=>
    simp [Tr.f] at hr
    subst hr
    exact⟨aA h0 rfl,aA h0 rfl⟩
   | i+1,hr=>simp [Tr.f] at hr
 have rep:NB W (.mk ⟨9,0,2,5,[],none,0,some ⟨s+1,0,none⟩,1,1⟩ [.mk ⟨2,0,0,0,[(97,97)],some ⟨s,0,none⟩,1,none,0,0⟩ []]):=by
  refine⟨r0,.inr ⟨s+1,0,1,rfl,aC h1,by simp [Tr.ks],by unfold maxLen;omega,fun i t ht=>?_⟩,f0,by simp [Tr.f]⟩
  ·match i,ht with
   | 0,ht=>
    simp [Tr.ks] at ht
    subst ht
    exact⟨aA h1 rfl,aA h1 rfl,aA h1 rfl,aA h1 rfl,aA h1 rfl,aA h1 rfl⟩
   | i+1,ht=>simp [Tr.ks] at ht
 have cat:NB W (exT s):=by
  refine⟨r0,.inr ⟨s+2,0,2,rfl,aC h2,by simp [exT,Tr.ks],by unfold maxLen;omega,fun i t ht=>?_⟩,f0,by simp [exT,Tr.f]⟩
  ·match i,ht with
   | 0,ht=>
    simp [exT,Tr.ks] at ht
    subst ht
    exact⟨aA h2 rfl,aA h2 rfl,aA h2 rfl,aA h2 rfl,aA h2 rfl,aA h2 rfl⟩
   | 1,ht=>
    simp [exT,Tr.ks] at ht
    subst ht
    exact⟨aA h2 rfl,aA h2 rfl,aA h2 rfl,aA h2 rfl,aA h2 rfl,aA h2 rfl⟩
   | i+2,ht=>simp [exT,Tr.ks] at ht
 refine(aX _).2 ⟨cat,(bD _).2 fun u hu=>?_⟩
 simp [exT,Tr.ks] at hu
 rcases hu with rfl | rfl
 ·exact(aX _).2 ⟨leaf 3 0 0 0,(bD _).2 fun u hu=>by simp [Tr.ks] at hu⟩
 ·refine(aX _).2 ⟨rep,(bD _).2 fun u hu=>?_⟩
  simp [Tr.ks] at hu
  subst hu
  exact(aX _).2 ⟨set,(bD _).2 fun u hu=>by simp [Tr.ks] at hu⟩
theorem sG(l:List UInt8):(txt l).toList=l:=by rw [Lib.toList_data];rfl
theorem aM9:dA false [(93,94)]=[91,91,46,93,46,93,45,91,46,94,46,93,93]:=by kernel_rfl
theorem aM8:dA false [(42,42)]=[92,42]:=by kernel_rfl
theorem aM7:¬ IsC [(5,4)] (fun x=>In [(5,4)] x/\aN false x):=fun h=>by have:=h.cls.some (5,4) (by simp);simp at this
theorem pM{w:World}(hG:Glb w):Calls Tryz.prog 9 #[] w fun e w'=>e=.returned (.bool true)/\Below w.heap.size w w':=by
 have HG:=aB hG
 have CA:=aB (fun (W:World)=>(oM (w:=W.alloc (.cells #[.int .i64 93,.int .i64 94] 48)) false false (pU W 93 94) (pK (by decide) (by decide) (by decide))))
 have CB:=aB (fun (W:World)=>(oM (w:=W.alloc (.cells #[.int .i64 42,.int .i64 42] 48)) false false (pU W 42 42) (pK (by decide) (by decide) (by decide))))
 have CC:=aB (fun (W:World)=>(tM (w:=W.alloc (.cells #[.int .i64 5,.int .i64 4] 48)) false false (pU W 5 4) (fun r hr=>by simp at hr;subst hr;simp) (by simp) aM7))
 rw [aM9] at CA
 rw [aM8] at CB
 have PN:=aB (fun (W:World) (s:Nat) (hT:TB W (exT s)) (hW:Below w.heap.size w W)=>oD false false hT (hG.kept hW))
 have DN:=aB (fun (W:World) (s:Nat) (hT:TB W (exT s)) (hW:Below w.heap.size w W)=>rK false false hT (hG.kept hW))
 simp only [yY] at PN
 simp only [yZ] at DN
 clear hG
 go_enter Tryz.func9,Tryz.ntmps9
 go_upto_region 4 with first
  |(go_at_call 15;refine(CC.out _).mono ?_;rintro e w3 ⟨rfl,h3⟩;have B3:=aB (aG B2.out (h3.mono (by simp)  |> fun q=>((bz9).trans q)) lz9);clear h3)
  |(go_at_call 15;refine(CB.out _).mono ?_;rintro e w2 ⟨rfl,h2⟩;have B2:=aB (aG B1.out ((bz9).trans (h2.mono (by simp))) lz9);clear h2)
  |(go_at_call 15;refine(CA.out _).mono ?_;rintro e w1 ⟨rfl,h1⟩;have B1:=aB ((bz9).trans (h1.mono (by simp)));clear h1)
 have X0:Hid (((((w3.alloc (.cells #[.int .i64 97,.int .i64 97] 48)).alloc (.cells #[.int .i64 2,.int .i64 0,.int .i64 0,.int .i64 0,.slice (some ⟨w3.heap.size,0,none⟩) 1 1,.slice none 0 0] 25)).alloc (.cells #[.int .i64 3,.int .i64 0,.int .i64 0,.int .i64 0,.slice none 0 0,.slice none 0 0,.int .i64 9,.int .i64 0,.int .i64 2,.int .i64 5,.slice none 0 0,.slice (some ⟨w3.heap.size+1,0,none⟩) 1 1] 25)).alloc (.cells #[.int .i64 5,.int .i64 0,.int .i64 0,.int .i64 0,.slice none 0 0,.slice (some ⟨w3.heap.size+1+1,0,none⟩) 2 2] 25)).heap[w3.heap.size]?=some (.cells #[.int .i64 97,.int .i64 97] 48 (0,0))):=(Below.heap_alloc _ _ _ (by simp only [World.size_alloc];omega)).trans ((Below.heap_alloc _ _ _ (by simp only [World.size_alloc];omega)).trans ((Below.heap_alloc _ _ _ (by simp only [World.size_alloc];omega)).trans (aF w3 _)))
 have X1:Hid (((((w3.alloc (.cells #[.int .i64 97,.int .i64 97] 48)).alloc (.cells #[.int .i64 2,.int .i64 0,.int .i64 0,.int .i64 0,.slice (some ⟨w3.heap.size,0,none⟩) 1 1,.slice none 0 0] 25)).alloc (.cells #[.int .i64 3,.int .i64 0,.int .i64 0,.int .i64 0,.slice none 0 0,.slice none 0 0,.int .i64 9,.int .i64 0,.int .i64 2,.int .i64 5,.slice none 0 0,.slice (some ⟨w3.heap.size+1,0,none⟩) 1 1] 25)).alloc (.cells #[.int .i64 5,.int .i64 0,.int .i64 0,.int .i64 0,.slice none 0 0,.slice (some ⟨w3.heap.size+1+1,0,none⟩) 2 2] 25)).heap[w3.heap.size+1]?=some (.cells #[.int .i64 2,.int .i64 0,.int .i64 0,.int .i64 0,.slice (some ⟨w3.heap.size,0,none⟩) 1 1,.slice none 0 0] 25 (0,0))):=(Below.heap_alloc _ _ _ (by simp only [World.size_alloc];omega)).trans ((Below.heap_alloc _ _ _ (by simp only [World.size_alloc];omega)).trans (by have:=aF (w3.alloc (.cells #[.int .i64 97,.int .i64 97] 48)) (.cells #[.int .i64 2,.int .i64 0,.int .i64 0,.int .i64 0,.slice (some ⟨w3.heap.size,0,none⟩) 1 1,.slice none 0 0] 25);rwa [World.size_alloc] at this))
 have X2:Hid (((((w3.alloc (.cells #[.int .i64 97,.int .i64 97] 48)).alloc (.cells #[.int .i64 2,.int .i64 0,.int .i64 0,.int .i64 0,.slice (some ⟨w3.heap.size,0,none⟩) 1 1,.slice none 0 0] 25)).alloc (.cells #[.int .i64 3,.int .i64 0,.int .i64 0,.int .i64 0,.slice none 0 0,.slice none 0 0,.int .i64 9,.int .i64 0,.int .i64 2,.int .i64 5,.slice none 0 0,.slice (some ⟨w3.heap.size+1,0,none⟩) 1 1] 25)).alloc (.cells #[.int .i64 5,.int .i64 0,.int .i64 0,.int .i64 0,.slice none 0 0,.slice (some ⟨w3.heap.size+1+1,0,none⟩) 2 2] 25)).heap[w3.heap.size+2]?=some (.cells #[.int .i64 3,.int .i64 0,.int .i64 0,.int .i64 0,.slice none 0 0,.slice none 0 0,.int .i64 9,.int .i64 0,.int .i64 2,.int .i64 5,.slice none 0 0,.slice (some ⟨w3.heap.size+1,0,none⟩) 1 1] 25 (0,0))):=(Below.heap_alloc _ _ _ (by simp only [World.size_alloc];omega)).trans (by have:=aF ((w3.alloc (.cells #[.int .i64 97,.int .i64 97] 48)).alloc (.cells #[.int .i64 2,.int .i64 0,.int .i64 0,.int .i64 0,.slice (some ⟨w3.heap.size,0,none⟩) 1 1,.slice none 0 0] 25)) (.cells #[.int .i64 3,.int .i64 0,.int .i64 0,.int .i64 0,.slice none 0 0,.slice none 0 0,.int .i64 9,.int .i64 0,.int .i64 2,.int .i64 5,.slice none 0 0,.slice (some ⟨w3.heap.size+1,0,none⟩) 1 1] 25);rwa [World.size_alloc,World.size_alloc] at this)
 have X3:Hid (((((w3.alloc (.cells #[.int .i64 97,.int .i64 97] 48)).alloc (.cells #[.int .i64 2,.int .i64 0,.int .i64 0,.int .i64 0,.slice (some ⟨w3.heap.size,0,none⟩) 1 1,.slice none 0 0] 25)).alloc (.cells #[.int .i64 3,.int .i64 0,.int .i64 0,.int .i64 0,.slice none 0 0,.slice none 0 0,.int .i64 9,.int .i64 0,.int .i64 2,.int .i64 5,.slice none 0 0,.slice (some ⟨w3.heap.size+1,0,none⟩) 1 1] 25)).alloc (.cells #[.int .i64 5,.int .i64 0,.int .i64 0,.int .i64 0,.slice none 0 0,.slice (some ⟨w3.heap.size+1+1,0,none⟩) 2 2] 25)).heap[w3.heap.size+1+1+1]?=some (.cells #[.int .i64 5,.int .i64 0,.int .i64 0,.int .i64 0,.slice none 0 0,.slice (some ⟨w3.heap.size+1+1,0,none⟩) 2 2] 25 (0,0))):=(by have:=aF (((w3.alloc (.cells #[.int .i64 97,.int .i64 97] 48)).alloc (.cells #[.int .i64 2,.int .i64 0,.int .i64 0,.int .i64 0,.slice (some ⟨w3.heap.size,0,none⟩) 1 1,.slice none 0 0] 25)).alloc (.cells #[.int .i64 3,.int .i64 0,.int .i64 0,.int .i64 0,.slice none 0 0,.slice none 0 0,.int .i64 9,.int .i64 0,.int .i64 2,.int .i64 5,.slice none 0 0,.slice (some ⟨w3.heap.size+1,0,none⟩) 1 1] 25)) (.cells #[.int .i64 5,.int .i64 0,.int .i64 0,.int .i64 0,.slice none 0 0,.slice (some ⟨w3.heap.size+1+1,0,none⟩) 2 2] 25);rwa [World.size_alloc,World.size_alloc,World.size_alloc] at this)
 have B4:Hid (Below w.heap.size w ((((w3.alloc (.cells #[.int .i64 97,.int .i64 97] 48)).alloc (.cells #[.int .i64 2,.int .i64 0,.int .i64 0,.int .i64 0,.slice (some ⟨w3.heap.size,0,none⟩) 1 1,.slice none 0 0] 25)).alloc (.cells #[.int .i64 3,.int .i64 0,.int .i64 0,.int .i64 0,.slice none 0 0,.slice none 0 0,.int .i64 9,.int .i64 0,.int .i64 2,.int .i64 5,.slice none 0 0,.slice (some ⟨w3.heap.size+1,0,none⟩) 1 1] 25)).alloc (.cells #[.int .i64 5,.int .i64 0,.int .i64 0,.int .i64 0,.slice none 0 0,.slice (some ⟨w3.heap.size+1+1,0,none⟩) 2 2] 25))):=aG B3.out ((((bz9).alloc (by simp only [World.size_alloc];omega) _).alloc (by simp only [World.size_alloc];omega) _).alloc (by simp only [World.size_alloc];omega) _) lz9
 go_upto_region 5 with fail
 generalize ((((w3.alloc (.cells #[.int .i64 97,.int .i64 97] 48)).alloc (.cells #[.int .i64 2,.int .i64 0,.int .i64 0,.int .i64 0,.slice (some ⟨w3.heap.size,0,none⟩) 1 1,.slice none 0 0] 25)).alloc (.cells #[.int .i64 3,.int .i64 0,.int .i64 0,.int .i64 0,.slice none 0 0,.slice none 0 0,.int .i64 9,.int .i64 0,.int .i64 2,.int .i64 5,.slice none 0 0,.slice (some ⟨w3.heap.size+1,0,none⟩) 1 1] 25)).alloc (.cells #[.int .i64 5,.int .i64 0,.int .i64 0,.int .i64 0,.slice none 0 0,.slice (some ⟨w3.heap.size+1+1,0,none⟩) 2 2] 25))=w4 at X0 X1 X2 X3 B4 ⊢
 have TE:=aB (aM0 X0.out X1.out X2.out)
 have a0:=aA X3.out (i:=0) rfl
 have a1:=aA X3.out (i:=1) rfl
 have a2:=aA X3.out (i:=2) rfl
 have a3:=aA X3.out (i:=3) rfl
 have a4:=aA X3.out (i:=4) rfl
 have a5:=aA X3.out (i:=5) rfl
 have P4:=aB (PN.out w4 w3.heap.size TE.out B4.out)
 have TL:=sG
 go_wp2_with first
  |(go_at_call 14;refine(D5.out).mono ?_;rintro e w6 ⟨rfl,h6⟩;have B6:=aB (aG B5.out h6 lz9);clear h6)
  |(go_at_call 10;refine(P4.out).mono ?_;rintro e w5 ⟨rfl,h5⟩;have B5:=aB (aG B4.out h5 lz9);have Y3:Hid _:=(h5.block _ (aC X3.out)).trans X3.out;have b0:=aA Y3.out (i:=0) rfl;have b1:=aA Y3.out (i:=1) rfl;have b2:=aA Y3.out (i:=2) rfl;have b3:=aA Y3.out (i:=3) rfl;have b4:=aA Y3.out (i:=4) rfl;have b5:=aA Y3.out (i:=5) rfl;have D5:=aB (DN.out w5 w3.heap.size (TE.out.kept h5) B5.out);clear h5)
 all_goals go_ret
 all_goals exact⟨rfl,B6.out⟩
theorem xS{c f:Bool}{a b:Tr}(h:er a=er b):dZ c f a=dZ c f b:=by unfold dZ;rw [rH h,h]
theorem zC{c f:Bool}{a b:Tr}(h:er a=er b):dW c f a=dW c f b:=by unfold dW;rw [rH h,wD h]
structure LV(w:World)(t x:Tr)(m:Md)(bx:Nat)(W:World):Prop where
 tx:TX w t m W
 xd:Six W bx 0 x.f
 lt:bx < W.heap.size
 tb:TB W x
theorem LV.kept{w:World}{t x:Tr}{m:Md}{bx:Nat}{W W':World}(h:LV w t x m bx W)(hb:Below W.heap.size W W'):LV w t x m bx W':=
 ⟨h.tx.kept hb,h.xd.ck (CK.of_below hb) h.lt,Nat.lt_of_lt_of_le h.lt hb.size,h.tb.kept hb⟩
theorem pJ{w:World}{t:Tr}(m:Md)(hT:TB w t)(hf:∀ x∈pp [] t,x.2.f.rs.length<=1048576)(hG:Glb w) :
  Calls Tryz.prog 7 #[.agg #[.int .i64 t.f.k,.int .i64 t.f.n,.int .i64 t.f.mn,.int .i64 t.f.mx,.slice t.f.rq t.f.rs.length t.f.rc,.slice t.f.kq t.f.kl t.f.kc],.agg #[.bool m.c,.bool m.f]] w fun e w'=>e=.returned (.bool true)/\Below w.heap.size w w':=by
 have L1:=aB (TX.new m hT)
 have EX:=aB (fun W (hW:Below w.heap.size w W)=>pM (hG.kept hW))
 have CN:=aB (fun W (hW:TX w t m W)=>aB6 hW.ta)
 obtain⟨p,hp⟩:∃ o,dZ m.c m.f t=o:=⟨_,rfl⟩
 obtain⟨d,hd⟩:∃ o,dW m.c m.f t=o:=⟨_,rfl⟩
 have PX:Hid (∀ (W:World) (x:Tr) (bx:Nat),er x=er t->LV w t x m bx W->Calls Tryz.prog 10 #[.agg #[.int .i64 x.f.k,.int .i64 x.f.n,.int .i64 x.f.mn,.int .i64 x.f.mx,.slice x.f.rq x.f.rs.length x.f.rc,.slice x.f.kq x.f.kl x.f.kc],.agg #[.bool m.c,.bool m.f]] W fun e w'=>e=.returned (.tuple #[.string (txt p.1),.int .i64 p.2])/\Below W.heap.size W w'):=fun W x bx he hW=>by
  have:=oD m.c m.f hW.tb (hG.kept hW.tx.bel);rw [xS he,hp] at this;exact this
 have DX:Hid (∀ (W:World) (x:Tr) (bx:Nat),er x=er t->LV w t x m bx W->Calls Tryz.prog 14 #[.agg #[.int .i64 x.f.k,.int .i64 x.f.n,.int .i64 x.f.mn,.int .i64 x.f.mx,.slice x.f.rq x.f.rs.length x.f.rc,.slice x.f.kq x.f.kl x.f.kc],.agg #[.bool m.c,.bool m.f]] W fun e w'=>e=.returned (.tuple #[.string (txt d.1),.int .i64 d.2])/\Below W.heap.size W w'):=fun W x bx he hW=>by
  have:=rK m.c m.f hW.tb (hG.kept hW.tx.bel);rw [zC he,hd] at this;exact this
 have PR:=aB (fun W (hW:TX w t m W)=>sS m hW.ta hf)
 have DR:=aB (fun W (hW:TX w t m W)=>vF m hW.ta hf)
 rw [hp] at PR
 rw [hd] at DR
 have HTA:=aB hT
 obtain⟨n,hn⟩:∃ n,iZ t=n:=⟨_,rfl⟩
 rw [hn] at CN
 have HN:=aB hn
 obtain⟨lg,hlg⟩:∃ b,decide ((2000:Int) < (n:Int))=b:=⟨_,rfl⟩
 obtain⟨p1,p2⟩:=p
 obtain⟨d1,d2⟩:=d
 dsimp only at PX DX PR DR
 clear hT hf hG hp hd hn
 go_enter Tryz.func7,Tryz.ntmps7
 go_upto_region 1 with fail
 generalize ((w.alloc (.cells #[.int .i64 t.f.k,.int .i64 t.f.n,.int .i64 t.f.mn,.int .i64 t.f.mx,.slice t.f.rq t.f.rs.length t.f.rc,.slice t.f.kq t.f.kl t.f.kc] 25)).alloc (.cells #[.bool m.c,.bool m.f] 27))=w1 at L1 ⊢
 go_upto_region 2 with (go_at_call 9;refine(EX.out _ L1.out.bel).mono ?_;rintro e w2 ⟨rfl,h2⟩;have L2:=aB (L1.out.kept h2);clear h2;obtain⟨n0,n1,n2,n3,n4,n5⟩:=L2.out.nd.six;simp only [Nat.zero_add] at n1 n2 n3 n4 n5)
 go_upto_region 3 with (go_at_call 16;refine(CN.out _ L2.out).mono ?_;rintro e w3 ⟨rfl,h3⟩;have L3:=aB (L2.out.kept h3);clear h3)
 clear n0 n1 n2 n3 n4 n5
 obtain⟨n0,n1,n2,n3,n4,n5⟩:=L3.out.nd.six
 simp only [Nat.zero_add] at n1 n2 n3 n4 n5
 have N4:Hid (BoxN (w3.alloc (.cells #[.int .i64 t.f.k,.int .i64 t.f.n,.int .i64 t.f.mn,.int .i64 t.f.mx,.slice t.f.rq t.f.rs.length t.f.rc,.slice t.f.kq t.f.kl t.f.kc] 25)) w3.heap.size t.f):=aF w3 _
 have L4:=aB (L3.out.kept (show Below w3.heap.size w3 (w3.alloc (.cells #[.int .i64 t.f.k,.int .i64 t.f.n,.int .i64 t.f.mn,.int .i64 t.f.mx,.slice t.f.rq t.f.rs.length t.f.rc,.slice t.f.kq t.f.kl t.f.kc] 25)) from bz9))
 have hb4:=L3.out.bel.size
 have hb5:=aC L3.out.md
 go_upto_region 4 with fail
 clear n0 n1 n2 n3 n4 n5
 generalize (w3.alloc (.cells #[.int .i64 t.f.k,.int .i64 t.f.n,.int .i64 t.f.mn,.int .i64 t.f.mx,.slice t.f.rq t.f.rs.length t.f.rc,.slice t.f.kq t.f.kl t.f.kc] 25))=w4 at N4 L4 ⊢
 generalize w3.heap.size=bx at N4 hb4 hb5 ⊢
 by_cases hl:2000 < n
 ·obtain rfl:lg=true:=by rw [<- hlg];exact decide_eq_true (by omega)
  clear hlg
  have V5:Hid (LV w t t m bx w4):=⟨L4.out,N4.out.six,aC N4.out,L4.out.ta⟩
  go_wp2
  go_loopw [8] (fun i wr=>∃ j:Nat,j<=2/\i=.int .i64 (j:Int)/\LV w t t m bx wr) (fun i _=>2 - (intOf i).toNat)
  case atStart=>exact⟨0,by omega,rfl,V5.out⟩
  case round=>
   obtain⟨j,hj,rfl,hV⟩:=hrel
   have K:=aB hV
   clear hV
   obtain⟨x0,x1,x2,x3,x4,x5⟩:=K.out.xd
   simp only [Nat.zero_add] at x1 x2 x3 x4 x5
   have a0:=aA K.out.tx.md (i:=0) rfl
   have a1:=aA K.out.tx.md (i:=1) rfl
   have lx:=K.out.lt
   by_cases hlt:j < 2
   ·have i1:(j:Int) < 2:=by omega
    have hwr:IntKind.wrap .i64 ((j:Int)+1)=(j:Int)+1:=wrap_small _ (by omega) (by omega)
    go_upto_region 10 with (go_at_call 10;refine(PX.out _ t bx rfl K.out).mono ?_;rintro e w6 ⟨rfl,h6⟩;have K6:=aB (K.out.kept h6);clear h6)
    clear x0 x1 x2 x3 x4 x5 a0 a1
    obtain⟨x0,x1,x2,x3,x4,x5⟩:=K6.out.tx.nd.six
    simp only [Nat.zero_add] at x1 x2 x3 x4 x5
    have a0:=aA K6.out.tx.md (i:=0) rfl
    have a1:=aA K6.out.tx.md (i:=1) rfl
    go_upto_region 11 with (go_at_call 18;refine(PR.out _ K6.out.tx).mono ?_;rintro e w7 ⟨rfl,h7⟩;have K7:=aB (K6.out.kept h7);clear h7)
    clear x0 x1 x2 x3 x4 x5 a0 a1
    obtain⟨x0,x1,x2,x3,x4,x5⟩:=K7.out.xd
    simp only [Nat.zero_add] at x1 x2 x3 x4 x5
    have a0:=aA K7.out.tx.md (i:=0) rfl
    have a1:=aA K7.out.tx.md (i:=1) rfl
    have lx7:=K7.out.lt
    go_upto_region 12 with (go_at_call 14;refine(DX.out _ t bx rfl K7.out).mono ?_;rintro e w8 ⟨rfl,h8⟩;have K8:=aB (K7.out.kept h8);clear h8)
    clear x0 x1 x2 x3 x4 x5 a0 a1
    obtain⟨x0,x1,x2,x3,x4,x5⟩:=K8.out.tx.nd.six
    simp only [Nat.zero_add] at x1 x2 x3 x4 x5
    have a0:=aA K8.out.tx.md (i:=0) rfl
    have a1:=aA K8.out.tx.md (i:=1) rfl
    go_upto_region 13 with (go_at_call 19;refine(DR.out _ K8.out.tx).mono ?_;rintro e w9 ⟨rfl,h9⟩;have K9:=aB (K8.out.kept h9);clear h9)
    clear x0 x1 x2 x3 x4 x5 a0 a1
    have y1:((txt p1).toList != (txt p1).toList)=false:=by simp
    have y2:(p2 != p2)=false:=by simp
    have y3:((txt d1).toList != (txt d1).toList)=false:=by simp
    have y4:(d2 != d2)=false:=by simp
    go_wp2
    go_roundw
    case rel=>exact⟨j+1,by omega,by go_num,K9.out⟩
    case measure=>simp [intOf];omega
   ·obtain rfl:j=2:=by omega
    go_wp2
    go_ret
    exact⟨by simp,K.out.tx.bel⟩
 ·obtain rfl:lg=false:=by rw [<- hlg];exact decide_eq_false (by omega)
  clear hlg
  have hsz:t.sz<=2000:=by have:=HN.out;unfold iZ at this;rw [dM] at this;omega
  have CP:=aB (aE7 t.sz t w4 lz9 (by omega) L4.out.ta)
  obtain⟨n0,n1,n2,n3,n4,n5⟩:=L4.out.nd.six
  simp only [Nat.zero_add] at n1 n2 n3 n4 n5
  go_upto_region 5 with fail
  have HSZ:=aB hsz
  clear hsz
  go_upto_region 6 with (go_at_call 17;refine(CP.out).mono ?_;rintro e w5 ⟨t5,rfl,h51,h52,h53,h54⟩;have EE:=aB h52;have L5:=aB (L4.out.kept h54);have N5:BoxN w5 bx t.f:=(h54.block _ (aC N4.out)).trans N4.out;have HN5:=aB N5;have hbx:bx < w4.heap.size:=aC N4.out;have V5:Hid (LV w t t5 m bx (iP w5 bx 0 t5.f)):=(by
   have FP:=pA w5 bx 0 t5.f
   have B5:Below w.heap.size w (iP w5 bx 0 t5.f):=cL L5.out.bel FP lz9 (fun k e=>by omega)
   refine⟨⟨(FP.block _ (aC L5.out.nd) (by omega)).trans L5.out.nd,(FP.block _ (aC L5.out.md) (by omega)).trans L5.out.md,B5,HTA.out.kept B5⟩,mC N5.six,Nat.lt_of_lt_of_le (aC N5) FP.size,h51.ckN h53 (FP.ckeep (fun k e z=>by omega))⟩);obtain⟨r0,r1,r2,r3,r4,r5⟩:=N5.six;simp only [Nat.zero_add] at r1 r2 r3 r4 r5;have rz:=fun z=>bE N5 z;unfold iP at V5;clear h51 h52 h53 h54 N5)
  have RS:Hid (rsB t5 t=true):=by
   refine aB ?_
   have hs:=HSZ.out
   unfold rsB
   rw [dM,dM,<- zA t5,EE.out,zA t,decide_eq_false (by omega),sR]
   rfl
  go_wp2
  go_loopw [8] (fun i wr=>∃ j:Nat,j<=2/\i=.int .i64 (j:Int)/\LV w t t5 m bx wr) (fun i _=>2 - (intOf i).toNat)
  case atStart=>exact⟨0,by omega,rfl,V5.out⟩
  case round=>
   obtain⟨j,hj,rfl,hV⟩:=hrel
   have K:=aB hV
   clear hV
   obtain⟨x0,x1,x2,x3,x4,x5⟩:=K.out.xd
   simp only [Nat.zero_add] at x1 x2 x3 x4 x5
   have a0:=aA K.out.tx.md (i:=0) rfl
   have a1:=aA K.out.tx.md (i:=1) rfl
   have lx:=K.out.lt
   by_cases hlt:j < 2
   ·have i1:(j:Int) < 2:=by omega
    have hwr:IntKind.wrap .i64 ((j:Int)+1)=(j:Int)+1:=wrap_small _ (by omega) (by omega)
    go_upto_region 10 with (go_at_call 10;refine(PX.out _ t5 bx EE.out K.out).mono ?_;rintro e w6 ⟨rfl,h6⟩;have K6:=aB (K.out.kept h6);clear h6)
    clear x0 x1 x2 x3 x4 x5 a0 a1
    obtain⟨x0,x1,x2,x3,x4,x5⟩:=K6.out.tx.nd.six
    simp only [Nat.zero_add] at x1 x2 x3 x4 x5
    have a0:=aA K6.out.tx.md (i:=0) rfl
    have a1:=aA K6.out.tx.md (i:=1) rfl
    go_upto_region 11 with (go_at_call 18;refine(PR.out _ K6.out.tx).mono ?_;rintro e w7 ⟨rfl,h7⟩;have K7:=aB (K6.out.kept h7);clear h7)
    clear x0 x1 x2 x3 x4 x5 a0 a1
    obtain⟨x0,x1,x2,x3,x4,x5⟩:=K7.out.xd
    simp only [Nat.zero_add] at x1 x2 x3 x4 x5
    have a0:=aA K7.out.tx.md (i:=0) rfl
    have a1:=aA K7.out.tx.md (i:=1) rfl
    have lx7:=K7.out.lt
    go_upto_region 12 with (go_at_call 14;refine(DX.out _ t5 bx EE.out K7.out).mono ?_;rintro e w8 ⟨rfl,h8⟩;have K8:=aB (K7.out.kept h8);clear h8)
    clear x0 x1 x2 x3 x4 x5 a0 a1
    obtain⟨x0,x1,x2,x3,x4,x5⟩:=K8.out.tx.nd.six
    simp only [Nat.zero_add] at x1 x2 x3 x4 x5
    have a0:=aA K8.out.tx.md (i:=0) rfl
    have a1:=aA K8.out.tx.md (i:=1) rfl
    go_upto_region 13 with (go_at_call 19;refine(DR.out _ K8.out.tx).mono ?_;rintro e w9 ⟨rfl,h9⟩;have K9:=aB (K8.out.kept h9);clear h9)
    clear x0 x1 x2 x3 x4 x5 a0 a1
    have y1:((txt p1).toList != (txt p1).toList)=false:=by simp
    have y2:(p2 != p2)=false:=by simp
    have y3:((txt d1).toList != (txt d1).toList)=false:=by simp
    have y4:(d2 != d2)=false:=by simp
    go_wp2
    go_roundw
    case rel=>exact⟨j+1,by omega,by go_num,K9.out⟩
    case measure=>simp [intOf];omega
   ·obtain rfl:j=2:=by omega
    clear a0 a1
    obtain⟨y0,y1,y2,y3,y4,y5⟩:=K.out.tx.nd.six
    simp only [Nat.zero_add] at y1 y2 y3 y4 y5
    have SM:=aB (aI0 K.out.tb K.out.tx.ta)
    rw [RS.out] at SM
    go_wp2_with (go_at_call 20;refine(SM.out).mono ?_;rintro e w6 ⟨rfl,h6⟩;have K6:=aB (K.out.kept h6);clear h6)
    go_ret
    exact⟨by simp,K6.out.tx.bel⟩
section
open Go Go.ChangeShapes Go.WideShapes Go.ChangeAt Go.RowKit
theorem mW:Tryz.prog.cellsOf 25=6:=by kernel_rfl
theorem wF:Tryz.prog.cellsOf 48=2:=by kernel_rfl
theorem tO:Tryz.prog.cellsOf 22=1:=by kernel_rfl
theorem tP:Tryz.prog.cellsOf 23=1:=by kernel_rfl
theorem rR{w:World}{g o:Nat}{v:Value}(h:w.cell? ⟨g,o,none⟩=some v):g < w.heap.size:=by
 rcases Nat.lt_or_ge g w.heap.size with h' | h'
 ·exact h'
 ·have:w.heap[g]?=none:=Array.getElem?_eq_none h'
  simp [World.cell?,this] at h
theorem rX{a:Addr}{W:World}{v:Value}(h:W.cell? (a.add 0)=some v):∃ b off,a=⟨b,off,none⟩:=by
 obtain⟨b,off,spot⟩:=a
 cases spot with
 | none=>exact⟨b,off,rfl⟩
 | some k=>
  exfalso
  unfold Addr.add World.cell? at h
  simp at h
  split at h <;> simp_all
end
section
open Go Go.ChangeShapes Go.WideShapes Go.ChangeAt Go.RowKit
theorem wG{H:Type}(d:DataW H):1<=Rows.uptoBulk d:=by
 cases d with
 | lit l=>cases l <;> simp [Rows.uptoBulk]
 | nil=>simp [Rows.uptoBulk]
 | ptr d=>simp [Rows.uptoBulk]
 | slice elems spare=>simp [Rows.uptoBulk]
 | agg parts=>simp [Rows.uptoBulk]
 | iface t d=>simp [Rows.uptoBulk]
 | map entries=>simp [Rows.uptoBulk]
 | held h=>simp [Rows.uptoBulk]
theorem fQ{H:Type}{d:DataW H}{l:List (DataW H)}(h:d∈l):Rows.uptoBulk d<=Rows.uptoBulkAll l:=by
 induction l with
 | nil=>cases h
 | cons x r ih=>
  simp only [Rows.uptoBulkAll]
  cases List.mem_cons.1 h with
  | inl e=>subst e;omega
  | inr e=>have:=ih e;omega
theorem wH{H:Type}(l:List (DataW H)):l.length<=Rows.uptoBulkAll l:=by
 induction l with
 | nil=>simp [Rows.uptoBulkAll]
 | cons x r ih=>have:=wG x;simp only [Rows.uptoBulkAll,List.length_cons];omega
theorem zO{H:Type}{d:DataW H}{l:List (DataW H)}(hk:Rows.uptoSmall H l=true)(h:d∈l):Rows.uptoBulk d<=1048576:=Nat.le_trans (fQ h) (of_decide_eq_true hk)
theorem tA{H:Type}{enc:TypeId × Value->H}{W:World}{fuel:Nat}{v:Value}{x:DataW H × List MemPlace}(hf:DataW.trod enc Tryz.prog W 0 (fun _=>true) true fuel 22 [v]=some x)(hw:Rows.uptoBulk x.1<=1048576) :
  ∃ (rs:List (Int × Int)) (q:Option Addr) (c:Nat),v=.slice q rs.length c/\ArgR W v rs/\Fit rs/\rs.length+3<=1048579:=by
 rcases Deep.open_slice_pairs Tryz.underlying22 Tryz.underlying48 wF rfl rfl lA lA hf with⟨h1,h2⟩ | ⟨a,len,cap,m,n,V0,V1,D0,D1,P0,P1,h1,_,hlc,hcap,hm,h2,hx⟩
 ·cases h1
  exact⟨[],none,0,rfl,.inl ⟨none,0,rfl,rfl,fun _=>rfl⟩,eR,by simp⟩
 ·cases h1
  rw [if_pos rfl] at hm
  subst hm
  by_cases hc:m=0
  ·have hl:len=0:=by omega
   subst hc hl
   exact⟨[],some a,0,rfl,.inl ⟨some a,0,rfl,rfl,fun q=>(by cases q)⟩,eR,by simp⟩
  ·have hp:∀ i,i < m->∃ q:Int × Int,V0 i=.int .i64 q.1/\V1 i=.int .i64 q.2/\(Lit.int .i64 q.1).wf=true/\(Lit.int .i64 q.2).wf=true:=fun i hi=>by
    obtain⟨_,_,g0,g1⟩:=hx i hi
    obtain⟨x0,e0,_,w0⟩:=DataW.trod_int Tryz.underlying3 g0
    obtain⟨x1,e1,_,w1⟩:=DataW.trod_int Tryz.underlying3 g1
    exact⟨(x0,x1),by simpa using e0,by simpa using e1,w0,w1⟩
   obtain⟨q,hq⟩:=Deep.choose_lt hp
   have c0:=(hx 0 (by omega)).1
   obtain⟨b,off,rfl⟩:=rX (by simpa using c0)
   have hadd:∀ j,(⟨b,off,none⟩:Addr).add j=⟨b,off+j,none⟩:=fun j=>by unfold Addr.add;split <;> simp_all
   have hb:b < W.heap.size:=by rw [hadd] at c0;exact rR c0
   refine⟨(List.range len).map q,some ⟨b,off,none⟩,m,by simp,.inr ⟨b,off,m,by simp,hb,by simpa using hlc,hcap,fun i r hi'=>?_⟩,fun r hr=>?_,?_⟩
   ·have hil:i < len:=by have:=(List.getElem?_eq_some_iff.1 hi').1;simpa using this
    have hqi:q i=r:=by simpa [hil] using hi'
    obtain⟨k0,k1,_,_⟩:=hx i (by omega)
    rw [hadd,Nat.mul_comm] at k0
    rw [hadd,Nat.mul_comm,<- Nat.add_assoc] at k1
    obtain⟨r0,r1,_,_⟩:=hq i (by omega)
    rw [hqi] at r0 r1
    exact⟨by rw [k0,r0],by rw [k1,r1]⟩
   ·obtain⟨i,hi,rfl⟩:=List.mem_map.1 hr
    have hil:i < len:=List.mem_range.1 hi
    obtain⟨_,_,w0,w1⟩:=hq i (by omega)
    exact⟨pY w0,pY w1⟩
   ·obtain⟨es,sp,e1,e2⟩:∃ es sp,x.1=.slice es sp/\es.length=len:=⟨_,_,congrArg Prod.fst h2,by simp⟩
    rw [e1] at hw
    simp only [Rows.uptoBulk] at hw
    have:=wH es
    simp
    omega
theorem tC{H:Type}{enc:TypeId × Value->H}{W:World}:∀ (fuel:Nat) (cs:List Value) (x:DataW H × List MemPlace),DataW.trod enc Tryz.prog W 0 (fun _=>true) true fuel 25 cs=some x->Rows.uptoBulk x.1<=1048576 ->
  ∃ t:Tr,(TB W t/\bU (fun u=>u.f.rs.length<=1048576) t)/\cs=[.int .i64 t.f.k,.int .i64 t.f.n,.int .i64 t.f.mn,.int .i64 t.f.mx,.slice t.f.rq t.f.rs.length t.f.rc,.slice t.f.kq t.f.kl t.f.kc]:=by
 intro fuel
 induction fuel using Nat.strongRecOn with
 | ind fuel ih=>
  intro cs x hf hw
  obtain⟨xs,k,hk,hxy,hcl,hxl,hfs⟩:=DataW.trod_struct Tryz.underlying25 hf
  have hD:x.1=.agg (xs.map (·.1)):=(congrArg Prod.fst hxy)
  rw [hD] at hw
  simp only [Rows.uptoBulk] at hw
  rw [mW] at hcl
  clear hD hxy hf
  match xs,hxl,cs,hcl,hfs,hw with
  | [y0,y1,y2,y3,y4,y5],_,[v0,v1,v2,v3,v4,v5],_,hf,hwi=>
   have F0:=hf 0 _ rfl
   have F1:=hf 1 _ rfl
   have F2:=hf 2 _ rfl
   have F3:=hf 3 _ rfl
   have F4:=hf 4 _ rfl
   have F5:=hf 5 _ rfl
   simp [lA,tO,tP] at F0 F1 F2 F3 F4 F5
   obtain⟨x0,e0,_,w0⟩:=DataW.trod_int Tryz.underlying3 F0
   obtain⟨x1,e1,_,w1⟩:=DataW.trod_int Tryz.underlying3 F1
   obtain⟨x2,e2,_,w2⟩:=DataW.trod_int Tryz.underlying3 F2
   obtain⟨x3,e3,_,w3⟩:=DataW.trod_int Tryz.underlying3 F3
   obtain⟨rs,q,c,rfl,hr,hfit,hlen⟩:=tA F4 (by have:=fQ (d:=y4.1) (l:=[y0,y1,y2,y3,y4,y5].map (·.1)) (by simp);omega)
   cases e0;cases e1;cases e2;cases e3
   have hwk:Rows.uptoBulk y5.1<=1048576:=by have:=fQ (d:=y5.1) (l:=[y0,y1,y2,y3,y4,y5].map (·.1)) (by simp);omega
   rcases DataW.trod_slice Tryz.underlying23 F5 with⟨h1,h2⟩ | ⟨a,len,cap,elems,rest,n,hn,h1,h2,_,hlc,hcap,hel,hx,-,-⟩
   ·cases h1
    exact⟨.mk ⟨x0,x1,x2,x3,rs,q,c,none,0,0⟩ [],⟨(aX _).2 ⟨⟨hr,.inl ⟨none,0,rfl,rfl,fun _=>rfl⟩,hfit,Nat.le_trans hlen (by decide)⟩,(bD _).2 fun u hu=>by cases hu⟩,(aX _).2 ⟨(show rs.length<=1048576 by omega),(bD _).2 fun u hu=>by cases hu⟩⟩,rfl⟩
   ·cases h1
    by_cases hl:len=0
    ·subst hl
     exact⟨.mk ⟨x0,x1,x2,x3,rs,q,c,some a,0,cap⟩ [],⟨(aX _).2 ⟨⟨hr,.inl ⟨some a,cap,rfl,rfl,fun z=>by cases z⟩,hfit,Nat.le_trans hlen (by decide)⟩,(bD _).2 fun u hu=>by cases hu⟩,(aX _).2 ⟨(show rs.length<=1048576 by omega),(bD _).2 fun u hu=>by cases hu⟩⟩,rfl⟩
    ·have each:∀ i,i < len->∃ t:Tr,(TB W t/\bU (fun u=>u.f.rs.length<=1048576) t)/\∀ j v,[Value.int .i64 t.f.k,.int .i64 t.f.n,.int .i64 t.f.mn,.int .i64 t.f.mx,.slice t.f.rq t.f.rs.length t.f.rc,.slice t.f.kq t.f.kl t.f.kc][j]?=some v->W.cell? (a.add (i * 6+j))=some v:=by
      intro i hi
      have hxi:=hx i hi
      rw [List.getElem?_eq_getElem (by omega)] at hxi
      obtain⟨cs',g1,g2⟩:=Option.bind_eq_some_iff.1 hxi
      rw [mW] at g1
      obtain⟨_,hlc',hcell⟩:=World.cells?_some g1
      obtain⟨t,ht,hcs⟩:=ih n (by omega) cs' _ g2 (by
       rw [show y5.1=.slice (elems.map (·.1)) (rest.map (·.1)) from congrArg Prod.fst h2] at hwk
       simp only [Rows.uptoBulk] at hwk
       refine Nat.le_trans (fQ (l:=elems.map (·.1)) (List.mem_map.2 ⟨_,List.getElem_mem _,rfl⟩)) (by omega))
      refine⟨t,ht,fun j v hj=>?_⟩
      have hj6:j < 6:=by have:=(List.getElem?_eq_some_iff.1 hj).1;simpa using this
      have:=hcell j (by omega)
      rw [Deep.add_add] at this
      rw [this,hcs]
      exact hj
     have:Inhabited Tr:=⟨.mk ⟨0,0,0,0,[],none,0,none,0,0⟩ []⟩
     obtain⟨tt,htt⟩:=Deep.choose_lt each
     have c0:=(htt 0 (by omega)).2 0 _ rfl
     obtain⟨b,off,rfl⟩:=rX (by simpa using c0)
     have hadd:∀ j,(⟨b,off,none⟩:Addr).add j=⟨b,off+j,none⟩:=fun j=>by unfold Addr.add;split <;> simp_all
     have hb:b < W.heap.size:=by rw [hadd] at c0;exact rR c0
     refine⟨.mk ⟨x0,x1,x2,x3,rs,q,c,some ⟨b,off,none⟩,len,cap⟩ ((List.range len).map tt),⟨(aX _).2 ⟨⟨hr,.inr ⟨b,off,cap,by simp [Tr.f,Tr.ks],hb,by simpa [Tr.ks] using hlc,hcap,fun i t hi=>?_⟩,hfit,Nat.le_trans hlen (by decide)⟩,(bD _).2 fun u hu=>?_⟩,(aX _).2 ⟨(show rs.length<=1048576 by omega),(bD _).2 fun u hu=>?_⟩⟩,rfl⟩
     ·have hi':((List.range len).map tt)[i]?=some t:=hi
      have hil:i < len:=by have:=(List.getElem?_eq_some_iff.1 hi').1;simpa using this
      have hqi:tt i=t:=by simpa [hil] using hi'
      have hh:=(htt i hil).2
      rw [hqi] at hh
      simp only [hadd,<- Nat.add_assoc] at hh
      exact⟨hh 0 _ rfl,hh 1 _ rfl,hh 2 _ rfl,hh 3 _ rfl,hh 4 _ rfl,hh 5 _ rfl⟩
     ·have hu':u∈(List.range len).map tt:=hu
      obtain⟨i,hi,rfl⟩:=List.mem_map.1 hu'
      exact(htt i (List.mem_range.1 hi)).1.1
     ·have hu':u∈(List.range len).map tt:=hu
      obtain⟨i,hi,rfl⟩:=List.mem_map.1 hu'
      exact(htt i (List.mem_range.1 hi)).1.2
theorem tB{H:Type}{enc:TypeId × Value->H}{W:World}{base:Nat}{v:Value}{d:DataW H}{p:List MemPlace}(hok:Value.okWide Tryz.prog W .any base 25 v)
  (h:DataW.Trod enc Tryz.prog W 0 (fun _=>true) true 25 v d p) (hw:Rows.uptoBulk d<=1048576):∃ t:Tr,TB W t/\(∀ x∈pp [] t,x.2.f.rs.length<=1048576)/\v=.agg #[.int .i64 t.f.k,.int .i64 t.f.n,.int .i64 t.f.mn,.int .i64 t.f.mx,.slice t.f.rq t.f.rs.length t.f.rc,.slice t.f.kq t.f.kl t.f.kc]:=by
 obtain⟨cs,rfl,hsz⟩:=okWide_struct Tryz.underlying25 hok
 obtain⟨fuel,hf⟩:=h
 obtain⟨t,⟨ht,hs⟩,hcs⟩:=tC fuel _ _ hf hw
 refine⟨t,ht,fun x hx=>((aX _).1 (mO (P:=fun u=>u.f.rs.length<=1048576) t [] hs x hx)).1,?_⟩
 obtain⟨l⟩:=cs
 simp [Value.cells] at hcs
 rw [hcs]
end
end Go.Proofs.YticfnglebbakkaaGreatDoor
