/-
  Parts of the proof.
-/
import Derived.Test.YticfnglebbakkaaGreatDoorApartProofB22
import Derived.Test.YticfnglebbakkaaGreatDoorApartProofB11
import Derived.Test.YticfnglebbakkaaGreatDoorApartProofB1
import Derived.Test.YticfnglebbakkaaGreatDoorApartProofB21
import Derived.Test.YticfnglebbakkaaGreatDoorApartProofB16
import Derived.Test.YticfnglebbakkaaGreatDoorApartProofB0
import Derived.Deep.Slices
import Derived.Deep.SlicePairs
import Derived.ChangeSame
import Derived.SizedLaws
set_option maxRecDepth 100000
set_option maxHeartbeats 8000000
namespace Go.Proofs.YticfnglebbakkaaGreatDoor
open Go Go.RowKit
section
open Go Go.RowKit Go.Shelf
attribute [local go_sem] Oper.semAt_some
theorem pT{b:Nat}{W W':World}{base:Nat}{e:TypeId}{size n:Nat}{v:Value}{xs:List Value}(h:W.ownsRow base e size v n xs)(hc:Oth b W W')(he:e≠5)(hb:v.ownBlock≠some b):W'.ownsRow base e size v n xs:=by
 refine⟨h.1,?_⟩
 rcases h.2 with q | ⟨g,cap,cur,z1,z2,z3,z4⟩
 ·exact .inl q
 ·exact .inr ⟨g,cap,cur,z1,z2,hc _ _ z3 (fun e=>hb (by rw [z1];exact e)) (fun cs fz e=>by injection e with _ e2 _;exact he e2),z4⟩
theorem aB2(n:Nat)(hn:4<=n){w:World}{t:Tr}(c f:Bool)(hta:TB w t)(hG:Glb w) :
  CallsIn Fence.wide n Tryz.prog 14 #[.agg #[.int .i64 t.f.k,.int .i64 t.f.n,.int .i64 t.f.mn,.int .i64 t.f.mx,.slice t.f.rq t.f.rs.length t.f.rc,.slice t.f.kq t.f.kl t.f.kc],.agg #[.bool c,.bool f]] w fun e w'=>e=.returned (.tuple #[.string (txt (fR c f t).1),.int .i64 (fR c f t).2])/\Below w.heap.size w w':=by
 have hfn:∀ f,Fence.wide.fn f:=fun _=>trivial
 refine callsIn_of_wp_marks Tryz.func14 rfl trivial ?_ rfl
 simp only [Tryz.ntmps14,List.size_toArray,List.length_cons,List.length_nil,Nat.reduceAdd,Nat.reduceSub,Array.replicate_succ,Array.replicate_zero,List.push_toArray,List.append_toArray,List.nil_append,List.cons_append]
 refine wpIn_wide.2 ?_
 have HTA:=aB hta
 have HG:=aB hG
 have B1:Hid (Below w.heap.size w ((w.alloc (.cells #[.int .i64 t.f.k,.int .i64 t.f.n,.int .i64 t.f.mn,.int .i64 t.f.mx,.slice t.f.rq t.f.rs.length t.f.rc,.slice t.f.kq t.f.kl t.f.kc] 25)).alloc (.cells #[.bool c,.bool f] 27))):=(bz9).alloc (by simp) _
 have X1:Hid (BoxN ((w.alloc (.cells #[.int .i64 t.f.k,.int .i64 t.f.n,.int .i64 t.f.mn,.int .i64 t.f.mx,.slice t.f.rq t.f.rs.length t.f.rc,.slice t.f.kq t.f.kl t.f.kc] 25)).alloc (.cells #[.bool c,.bool f] 27)) w.heap.size t.f):=(Below.heap_alloc _ _ _ (by simp)).trans (aE w _)
 have X2:Hid (((w.alloc (.cells #[.int .i64 t.f.k,.int .i64 t.f.n,.int .i64 t.f.mn,.int .i64 t.f.mx,.slice t.f.rq t.f.rs.length t.f.rc,.slice t.f.kq t.f.kl t.f.kc] 25)).alloc (.cells #[.bool c,.bool f] 27)).heap[w.heap.size+1]?=some (.cells #[.bool c,.bool f] 27 (0,0))):=aB (by have:=aE (w.alloc (.cells #[.int .i64 t.f.k,.int .i64 t.f.n,.int .i64 t.f.mn,.int .i64 t.f.mx,.slice t.f.rq t.f.rs.length t.f.rc,.slice t.f.kq t.f.kl t.f.kc] 25)) (.cells #[.bool c,.bool f] 27);simpa using this)
 obtain⟨out,ho⟩:∃ o,fR c f t=o:=⟨_,rfl⟩
 have HO:=aB ho
 rw [ho]
 clear hta hG ho
 go_upto_region 1 with fail
 generalize ((w.alloc (.cells #[.int .i64 t.f.k,.int .i64 t.f.n,.int .i64 t.f.mn,.int .i64 t.f.mx,.slice t.f.rq t.f.rs.length t.f.rc,.slice t.f.kq t.f.kl t.f.kc] 25)).alloc (.cells #[.bool c,.bool f] 27))=w1 at B1 X1 X2 ⊢
 obtain⟨n0,n1,n2,n3,n4,n5⟩:=X1.out.six
 simp only [Nat.zero_add] at n1 n2 n3 n4 n5
 have a0:=aC X2.out (i:=0) rfl
 have a1:=aC X2.out (i:=1) rfl
 have RT:=aB (pL c f (HTA.out.kept B1.out))
 obtain⟨r,hr⟩:∃ r,aM c f 0 0 (pp [] t)=r:=⟨_,rfl⟩
 have HR:=aB hr
 rw [hr] at RT
 clear hr
 by_cases hr0:r=0
 ·subst hr0
  have OK:=aB (wS HR.out)
  have HLEN:=aB (eY HR.out)
  go_upto_region 4 with (go_at_call 11;refine(RT.out).mono ?_;rintro e w2 ⟨rfl,h2⟩;have B2:=aB (aF B1.out h2 lz9);have Y1:Hid (BoxN w2 w.heap.size t.f):=(h2.block _ (aA X1.out)).trans X1.out;have Y2:Hid (w2.heap[w.heap.size+1]?=some (.cells #[.bool c,.bool f] 27 (0,0))):=(h2.block _ (aA X2.out)).trans X2.out;clear h2)
  obtain⟨m0,m1,m2,m3,m4,m5⟩:=Y1.out.six
  simp only [Nat.zero_add] at m1 m2 m3 m4 m5
  have hs2:=B2.out.size
  have B3:Hid (Below w2.heap.size w2 (w2.alloc (.cells #[.pointer none,.slice none 0 0] 54))):=bz9
  have BLN:Hid (BL 54 w.heap.size (w2.alloc (.cells #[.pointer none,.slice none 0 0] 54)) w2.heap.size [] []):=⟨.pointer none,.slice none 0 0,aE w2 _,.inl rfl,⟨rfl,.inl ⟨rfl,rfl⟩⟩,fun _=>rfl,hs2⟩
  go_upto_region 5 with fail
  have Z1:Hid (BoxN (w2.alloc (.cells #[.pointer none,.slice none 0 0] 54)) w.heap.size t.f):=(B3.out.block _ (aA Y1.out)).trans Y1.out
  have Z2:Hid ((w2.alloc (.cells #[.pointer none,.slice none 0 0] 54)).heap[w.heap.size+1]?=some (.cells #[.bool c,.bool f] 27 (0,0))):=(B3.out.block _ (aA Y2.out)).trans Y2.out
  have B4:Hid (Below w.heap.size w (w2.alloc (.cells #[.pointer none,.slice none 0 0] 54))):=aF B2.out B3.out lz9
  generalize hbl:w2.heap.size=bl at BLN ⊢
  have hblw:w.heap.size<=bl:=by omega
  generalize (w2.alloc (.cells #[.pointer none,.slice none 0 0] 54))=w3 at BLN Z1 Z2 B4 ⊢
  clear hbl B3 m0 m1 m2 m3 m4 m5 n0 n1 n2 n3 n4 n5 a0 a1
  obtain⟨z0,z1,z2,z3,z4,z5⟩:=Z1.out.six
  simp only [Nat.zero_add] at z1 z2 z3 z4 z5
  go_wp2_with (go_at_call 35;(with_reducible refine(aK6 _ _).mono ?_);rintro e w7 ⟨rfl,rfl⟩)
  have K5:Below w3.heap.size w3 (w3.alloc (.cells #[.int .i64 t.f.k,.int .i64 t.f.n,.int .i64 t.f.mn,.int .i64 t.f.mx,.slice t.f.rq t.f.rs.length t.f.rc,.slice t.f.kq t.f.kl t.f.kc] 25)):=bz9
  have L5:BoxN (w3.alloc (.cells #[.int .i64 t.f.k,.int .i64 t.f.n,.int .i64 t.f.mn,.int .i64 t.f.mx,.slice t.f.rq t.f.rs.length t.f.rc,.slice t.f.kq t.f.kl t.f.kc] 25)) w3.heap.size t.f:=aE w3 _
  have BL5:=BLN.out.kept K5
  have M5:=(K5.block _ (aA Z2.out)).trans Z2.out
  have B5:=aF B4.out K5 lz9
  have HX:=aB (⟨L5,BL5,M5,B5⟩:_/\_/\_/\_)
  have hlb:bl < w3.heap.size:=by obtain⟨p,v,h1,-⟩:=BLN.out;exact aA h1
  have hlb5:bl < (w3.alloc (.cells #[.int .i64 t.f.k,.int .i64 t.f.n,.int .i64 t.f.mn,.int .i64 t.f.mx,.slice t.f.rq t.f.rs.length t.f.rc,.slice t.f.kq t.f.kl t.f.kc] 25)).heap.size:=by simp;omega
  clear L5 BL5 M5 B5 K5
  generalize (w3.alloc (.cells #[.int .i64 t.f.k,.int .i64 t.f.n,.int .i64 t.f.mn,.int .i64 t.f.mx,.slice t.f.rq t.f.rs.length t.f.rc,.slice t.f.kq t.f.kl t.f.kc] 25))=w5 at HX hlb5 ⊢
  generalize w3.heap.size=bq at HX ⊢
  obtain⟨L5,BL5,M5,B5⟩:=HX.out
  have HLB:=aB hlb5
  clear HX hlb hlb5 z0 z1 z2 z3 z4 z5 Z1 Z2 B4 BLN Y1 Y2
  refine(wpIn_wide (n:=n)).1 ?_
  refine wJ hn 18 19 bq rfl rfl L5 HTA.out (CK.of_below B5) (DI w t c f (w.heap.size+1) bl) (fun _ _ _=>False) (fun pre A A' row h hg hr=>h.row B5.size hg hr) (fun _ _ _ _ _ h _ _=>h) (fun pre W h=>by have:=h.len;omega) ⟨M5,BL5,List.nil_prefix,B5⟩
   (fun s y x a' W=>∃ bx,BoxN W bx x.2/\a'={ y with tmps:=(y.tmps.setIfInBounds 8 (.int .i64 ((x.1.1.length:Int)+1))).setIfInBounds 9 (.pointer (some ⟨bx,0,none⟩)) }) ?_ ?_ ?_ ?_ (fun _ _ _ _ _ _ h _=>h.elim)
  ·rintro s y x a' _ A A' row ⟨bx,h1,h2⟩ hg hr
   exact⟨bx,aZ hg hr h1,h2⟩
  ·intro l pre x V K _ _ hK
   simp only [iA]
   gi_wp2
   exact hK _ _ (bz9) ⟨_,aE V _,rfl⟩
  ·rintro l pre x a' V0 V h ht ⟨bx,hbx,rfl⟩ hk0 hv0
   have hin:x.1∈pp [] t:=by
    have:=ht.pfx.subset (show x.1∈(pre ++ [x]).map (·.1) by simp)
    exact List.mem_of_mem_take this
   obtain⟨ok1,hd40⟩:=OK.out x.1 hin
   have okx:Okn c f x.2:=⟨fun q=>by rw [ht.ok.rs];exact ok1.set (by rw [<- ht.ok.k];exact q),fun q=>by rw [ht.ok.n];exact ok1.back (by rw [<- ht.ok.k];exact q),fun q=>by rw [ht.ok.mn,ht.ok.mx];exact ok1.rep (by rw [<- ht.ok.k];exact q),fun q=>by rw [ht.ok.n];exact ok1.grp (by rw [<- ht.ok.k];exact q)⟩
   have LE:Hid (fQ c x.1.1.length x.1.2.f=List.replicate (2 * x.1.1.length) 32 ++ eK c x.2.k x.2.n x.2.mn x.2.mx x.2.rs ++ [10]):=aB (by unfold fQ;rw [ht.ok.k,ht.ok.n,ht.ok.mn,ht.ok.mx,ht.ok.rs])
   have hlen:=h.len
   have hpl:pre.map (·.1) <+: pp [] t:=h.pfx.trans (List.take_prefix _ _)
   have ROOM:Hid ((bQ c (pre.map (·.1))).length<=224000200000):=aB (by
    have h1:=qO (c:=c) (f:=f) (pre.map (·.1)) (fun y hy=>OK.out y (hpl.subset hy))
    rw [List.length_map] at h1
    have:112000100 * pre.length<=112000100 * 2000:=Nat.mul_le_mul_left _ hlen
    omega)
   have DL:=aB (qN okx)
   have hVs:w.heap.size<=V.heap.size:=h.bel.size
   have HH:=aB h
   have HT:=aB ht
   have HK0:=aB hk0
   have HBX:=aB hbx
   have HOK:=aB okx
   obtain⟨d,hd⟩:∃ d,x.1.1.length=d:=⟨_,rfl⟩
   have HDD:=aB hd
   rw [hd] at LE hd40
   have hw1:IntKind.wrap .i64 ((d:Int)+1 - 1)=(d:Int):=by rw [show (d:Int)+1 - 1=(d:Int) by omega];exact wrap_small _ (by omega) (by omega)
   have hw2:(d:Int)+1 - 1=(d:Int):=by omega
   have RP:=aB (Tryz.strings_Repeat ⟨#[32,32]⟩ d V (by omega) (by show 2 * d<=140737488355328;omega))
   rw [show (⟨#[32,32]⟩:ByteArray).data.toList=[32,32] from rfl,zF] at RP
   simp only [iA]
   rw [hd]
   clear h ht hk0 hbx okx hin ok1 hpl hd
   gi_wp2
   obtain⟨pB,vB,hbl,-⟩:=HH.out.bld
   have NB:=aB (show bx≠bl from fun e=>by subst e;have:=HBX.out;unfold BoxN at this;rw [hbl] at this;cases this)
   have NM:=aB (show w.heap.size+1≠bl from fun e=>by have:=HH.out.md;rw [e,hbl] at this;cases this)
   have HBL:=aB hbl
   clear hbl
   refine⟨(fun z=>by cases z),(CallsIn.inRound l (callsIn_wide.2 (RP.out))).mono ?_⟩
   rintro e V1 ⟨rfl,h1⟩
   have P1:=aB (PrPost.start HH.out.bld h1 hVs)
   have W1:=aB (eP bt0 P1.out.1 (List.replicate (2 * d) 32) (by have:=ROOM.out;simp;omega) (Nat.le_trans hVs P1.out.2.1.size))
   clear h1
   gi_wp2
   refine⟨(fun z=>by cases z),(CallsIn.inRound l (callsIn_wide.2 (W1.out))).mono ?_⟩
   rintro e V2 ⟨rfl,h2⟩
   have P2:=aB (PrPost.trans P1.out h2)
   have X2:Hid (BoxN V2 bx x.2):=P2.out.2.2 _ _ HBX.out (fun e=>by injection e with e;exact NB.out e) (fun cs fz e=>by cases e)
   have M2:Hid (V2.heap[w.heap.size+1]?=some (.cells #[.bool c,.bool f] 27 (0,0))):=P2.out.2.2 _ _ HH.out.md (fun e=>by injection e with e;exact NM.out e) (fun cs fz e=>by cases e)
   obtain⟨k0,k1,k2,k3,k4,k5⟩:=X2.out.six
   simp only [Nat.zero_add] at k1 k2 k3 k4 k5
   have y0:=aC M2.out (i:=0) rfl
   have y1:=aC M2.out (i:=1) rfl
   have DS:=aB (qP x.2 c f (RR.arg (pT HT.out.ok.rr P2.out.2.2 (by decide) (bL HT.out.ok.rr HBL.out (by decide)))) HOK.out (HG.out.kept (HH.out.bel.trans P2.out.2.1)))
   clear h2
   gi_wp2
   refine⟨(fun z=>by cases z),(CallsIn.inRound l (callsIn_wide.2 (DS.out))).mono ?_⟩
   rintro e V3 ⟨rfl,h3⟩
   have P3:=aB (PrPost.then P2.out h3 hVs)
   have W3:=aB (eP bt0 P3.out.1 (eK c x.2.k x.2.n x.2.mn x.2.mx x.2.rs) (by have:=ROOM.out;have:=DL.out;simp;omega) (Nat.le_trans hVs P3.out.2.1.size))
   clear h3 k0 k1 k2 k3 k4 k5 y0 y1
   gi_wp2
   refine⟨(fun z=>by cases z),(CallsIn.inRound l (callsIn_wide.2 (W3.out))).mono ?_⟩
   rintro e V4 ⟨rfl,h4⟩
   have P4:=aB (PrPost.trans P3.out h4)
   have W4:=aB (oV bt0 P4.out.1 10 (by have:=ROOM.out;have:=DL.out;simp;omega) (Nat.le_trans hVs P4.out.2.1.size))
   clear h4
   gi_wp2
   refine⟨(fun z=>by cases z),(CallsIn.inRound l (callsIn_wide.2 (W4.out))).mono ?_⟩
   rintro e V5 ⟨rfl,h5⟩
   have P5:=aB (PrPost.trans P4.out h5)
   clear h5
   gi_wp2
   refine⟨uR P5.out.2.2 P5.out.2.1.size HBL.out,HK0.out.trans (aF8 P5.out.2.2 P5.out.2.1.size HLB.out),⟨P5.out.2.2 _ _ HH.out.md (fun e=>by injection e with e;exact NM.out e) (fun cs fz e=>by cases e),?_,HT.out.pfx,HH.out.bel.trans P5.out.2.1⟩⟩
   have:=P5.out.1
   rw [List.map_append,List.map_cons,List.map_nil,sH,HDD.out,LE.out]
   simpa using this
  ·rintro D xs V hD hxs h hK
   have he:xs.map (·.1)=pp [] t:=by rw [hxs,List.take_of_length_le HLEN.out]
   have SG:=aB (oZ h.bld)
   rw [he] at SG
   obtain⟨pB,vB,hbl,-⟩:=h.bld
   have ND:=aB (show D≠bl from fun e=>by subst e;rw [hbl] at hK;cases hK)
   have HB:=aB h.bel
   have HK:=aB hK
   have HD:=aB hD
   have E:Hid (out=(bQ c (pp [] t),0)):=aB (by rw [<- HO.out];unfold fR;rw [if_neg (by rw [HR.out];simp)])
   clear h hK hD hbl he hxs
   simp only [cL]
   go_wp2_with (go_at_call 25;refine(SG.out).mono ?_;rintro e V6 ⟨rfl,h6,o6⟩;have B6:=aB (HB.out.trans h6);have D6:Hid (V6.heap[D]?=some (.deferred (some []))):=o6 _ _ HK.out (fun e=>by injection e with e;exact ND.out e) (fun cs fz e=>by cases e);clear h6 o6)
   refine⟨by simp,.inl ⟨_,_,rfl,run_takeDeferred D6.out,?_⟩⟩
   exact⟨.tuple #[.string (txt out.1),.int .i64 out.2],by simp [results,Tryz.results14,go_sem,E.out],rfl,fO _ B6.out (Nat.le_trans B5.size HD.out)⟩
 ·have E:Hid (out=([],r)):=by
   refine aB ?_
   rw [<- HO.out]
   unfold fR
   rw [HR.out,if_pos hr0]
  have q0:(r != 0)=true:=by simpa using hr0
  have q1:(r==0)=false:=by simpa using hr0
  clear hr0
  go_wp2_with (go_at_call 11;refine(RT.out).mono ?_;rintro e w2 ⟨rfl,h2⟩;have B2:=aB (aF B1.out h2 lz9);clear h2)
  exact⟨.tuple #[.string (txt out.1),.int .i64 out.2],by simp [results,Tryz.results14,go_sem,E.out,txt],rfl,B2.out⟩
theorem lO{w:World}{t:Tr}(c f:Bool)(hta:TB w t)(hG:Glb w) :
  Calls Tryz.prog 14 #[.agg #[.int .i64 t.f.k,.int .i64 t.f.n,.int .i64 t.f.mn,.int .i64 t.f.mx,.slice t.f.rq t.f.rs.length t.f.rc,.slice t.f.kq t.f.kl t.f.kc],.agg #[.bool c,.bool f]] w fun e w'=>e=.returned (.tuple #[.string (txt (fR c f t).1),.int .i64 (fR c f t).2])/\Below w.heap.size w w':=callsIn_wide.1 (aB2 4 (by decide) c f hta hG)
end
theorem oT(W:World)(lo hi:Int):ArgR (W.alloc (.cells #[.int .i64 lo,.int .i64 hi] 48)) (.slice (some ⟨W.heap.size,0,none⟩) 1 1) [(lo,hi)]:=by
 refine .inr ⟨W.heap.size,0,1,rfl,by simp,by simp,by unfold maxLen;omega,fun i r hr=>?_⟩
 match i,hr with
 | 0,hr=>
  simp at hr
  subst hr
  exact⟨aC (aE W _) rfl,aC (aE W _) rfl⟩
 | i+1,hr=>simp at hr
theorem oH{c:Bool}{a b:Int}(h:a<=b)(h0:0<=a)(h1:b < 128):IsC [(a,b)] (fun x=>In [(a,b)] x/\aJ c x):=by
 refine⟨⟨fun r hr=>by simp at hr;subst hr;exact h,by simp⟩,fun r hr=>by simp at hr;subst hr;simp only;omega,fun x=>⟨fun q=>⟨q,?_⟩,fun q=>q.1⟩⟩
 rw [eG] at q
 simp only at q
 unfold aJ top
 cases c <;> simp <;> omega
def exT(s:Nat):Tr:=.mk ⟨5,0,0,0,[],none,0,some ⟨s+2,0,none⟩,2,2⟩ [.mk ⟨3,0,0,0,[],none,0,none,0,0⟩ [],.mk ⟨9,0,2,5,[],none,0,some ⟨s+1,0,none⟩,1,1⟩ [.mk ⟨2,0,0,0,[(97,97)],some ⟨s,0,none⟩,1,none,0,0⟩ []]]
def exE:Er:=.mk 5 0 0 0 [] [.mk 3 0 0 0 [] [],.mk 9 0 2 5 [] [.mk 2 0 0 0 [(97,97)] []]]
theorem aD5(s:Nat):er (exT s)=exE:=by simp [exT,exE,er,ers]
def exP:Ps:=.row [.lf 3 0 [],.rep 2 5 (.lf 2 0 [(97,97)])]
theorem qH(s:Nat):aM false false 0 0 (pp [] (exT s))=0:=by
 refine wL (x:=exP) (by rw [aD5];simp [exE,exP,te,tes]) ?_ ?_ ?_ (by simp [exP,Ps.dp,jT]) (by simp [exP,Ps.sz,lA])
 ·simp only [exP,wf,wfs,aK8]
  refine⟨by simp,fun i x hx=>?_,by simp [eM]⟩
  match i,hx with
  | 0,hx=>simp at hx;subst hx;simp [dN,Ps.kd]
  | 1,hx=>simp at hx;subst hx;simp [dN,Ps.kd]
  | i+2,hx=>simp at hx
 ·intro q hq
  simp only [exP,pfl,cY,List.append_nil,List.cons_append,List.nil_append,List.mem_cons,List.not_mem_nil,or_false] at hq
  rcases hq with rfl | rfl | rfl
  ·exact⟨fun q=>absurd q (by decide),fun _=>rfl,fun q=>absurd q (by decide),fun _=>rfl⟩
  ·exact⟨fun _=>⟨⟨oH (by decide) (by decide) (by decide),fun q=>by cases q⟩,rfl⟩,fun q=>absurd rfl q,fun q=>absurd q (by decide),fun _=>rfl⟩
  ·rfl
 ·simp only [exP,pfl,cY,List.append_nil,List.cons_append,List.nil_append]
  refine⟨fun q=>absurd q (by decide),⟨fun q=>absurd q (by decide),rfl⟩⟩
theorem aD8:bF false [(97,97)]=[97]:=by kernel_rfl
theorem xT:prE false exE=[94,97,92,123,50,44,53,92,125]:=by
 simp [exE,prE,bR,dM,aD8,cA,cT]
theorem aL0:dR (txt [97])=[97]:=by decide +kernel
theorem aJ7(s:Nat):(pp [] (exT s)).map (fun x=>(x.1.length,x.2.f.k,x.2.f.n,x.2.f.mn,x.2.f.mx,x.2.f.rs))=[(0,5,0,0,0,[]),(1,3,0,0,0,[]),(1,9,0,2,5,[]),(2,2,0,0,0,[(97,97)])]:=by
 simp [exT,cN,aT,aQ,Tr.f,Tr.ks]
theorem yA(c:Bool)(L:List El):bQ c L=(L.map (fun x=>(x.1.length,x.2.f.k,x.2.f.n,x.2.f.mn,x.2.f.mx,x.2.f.rs))).flatMap fun y=>List.replicate (2 * y.1) 32 ++ eK c y.2.1 y.2.2.1 y.2.2.2.1 y.2.2.2.2.1 y.2.2.2.2.2 ++ [10]:=by
 unfold bQ fQ
 rw [List.flatMap_map]
theorem aA6(s:Nat):bQ false (pp [] (exT s))=[99,97,116,10,32,32,98,101,103,105,110,10,32,32,114,101,112,32,50,32,53,10,32,32,32,32,115,101,116,32,97,10]:=by
 rw [yA,aJ7]
 simp [eK,aD8,aL0,cT,List.replicate]
theorem xU(s:Nat):fA false false (exT s)=([94,97,92,123,50,44,53,92,125],0):=by
 unfold fA
 rw [if_neg (by rw [qH];simp),aD5,xT,if_neg (by decide)]
theorem xV(s:Nat):fR false false (exT s)=([99,97,116,10,32,32,98,101,103,105,110,10,32,32,114,101,112,32,50,32,53,10,32,32,32,32,115,101,116,32,97,10],0):=by
 unfold fR
 rw [if_neg (by rw [qH];simp),aA6]
theorem aJ6{W:World}{s:Nat}(h0:W.heap[s]?=some (.cells #[.int .i64 97,.int .i64 97] 48 (0,0)))(h1:W.heap[s+1]?=some (.cells #[.int .i64 2,.int .i64 0,.int .i64 0,.int .i64 0,.slice (some ⟨s,0,none⟩) 1 1,.slice none 0 0] 25 (0,0)))
  (h2:W.heap[s+2]?=some (.cells #[.int .i64 3,.int .i64 0,.int .i64 0,.int .i64 0,.slice none 0 0,.slice none 0 0,.int .i64 9,.int .i64 0,.int .i64 2,.int .i64 5,.slice none 0 0,.slice (some ⟨s+1,0,none⟩) 1 1] 25 (0,0))):TB W (exT s):=by
 have r0:ArgR W (.slice none 0 0) []:=.inl ⟨none,0,rfl,rfl,fun _=>rfl⟩
 have k0:ArgK W (.slice none 0 0) []:=.inl ⟨none,0,rfl,rfl,fun _=>rfl⟩
 have f0:Fit []:=fun r hr=>by cases hr
 have leaf:∀ (k n mn mx:Int),NB W (.mk ⟨k,n,mn,mx,[],none,0,none,0,0⟩ []):=fun k n mn mx=>⟨r0,k0,f0,by simp [Tr.f]⟩
 have set:NB W (.mk ⟨2,0,0,0,[(97,97)],some ⟨s,0,none⟩,1,none,0,0⟩ []):=by
  refine⟨.inr ⟨s,0,1,rfl,aA h0,by simp [Tr.f],by unfold maxLen;omega,fun i r hr=>?_⟩,k0,fun r hr=>by simp [Tr.f] at hr;subst hr;simp,by simp [Tr.f]⟩
  ·match i,hr with
   | 0,hr=>
    simp [Tr.f] at hr
    subst hr
    exact⟨aC h0 rfl,aC h0 rfl⟩
   | i+1,hr=>simp [Tr.f] at hr
 have rep:NB W (.mk ⟨9,0,2,5,[],none,0,some ⟨s+1,0,none⟩,1,1⟩ [.mk ⟨2,0,0,0,[(97,97)],some ⟨s,0,none⟩,1,none,0,0⟩ []]):=by
  refine⟨r0,.inr ⟨s+1,0,1,rfl,aA h1,by simp [Tr.ks],by unfold maxLen;omega,fun i t ht=>?_⟩,f0,by simp [Tr.f]⟩
  ·match i,ht with
   | 0,ht=>
    simp [Tr.ks] at ht
    subst ht
    exact⟨aC h1 rfl,aC h1 rfl,aC h1 rfl,aC h1 rfl,aC h1 rfl,aC h1 rfl⟩
   | i+1,ht=>simp [Tr.ks] at ht
 have cat:NB W (exT s):=by
  refine⟨r0,.inr ⟨s+2,0,2,rfl,aA h2,by simp [exT,Tr.ks],by unfold maxLen;omega,fun i t ht=>?_⟩,f0,by simp [exT,Tr.f]⟩
  ·match i,ht with
   | 0,ht=>
    simp [exT,Tr.ks] at ht
    subst ht
    exact⟨aC h2 rfl,aC h2 rfl,aC h2 rfl,aC h2 rfl,aC h2 rfl,aC h2 rfl⟩
   | 1,ht=>
    simp [exT,Tr.ks] at ht
    subst ht
    exact⟨aC h2 rfl,aC h2 rfl,aC h2 rfl,aC h2 rfl,aC h2 rfl,aC h2 rfl⟩
   | i+2,ht=>simp [exT,Tr.ks] at ht
 refine(bE _).2 ⟨cat,(bP _).2 fun u hu=>?_⟩
 simp [exT,Tr.ks] at hu
 rcases hu with rfl | rfl
 ·exact(bE _).2 ⟨leaf 3 0 0 0,(bP _).2 fun u hu=>by simp [Tr.ks] at hu⟩
 ·refine(bE _).2 ⟨rep,(bP _).2 fun u hu=>?_⟩
  simp [Tr.ks] at hu
  subst hu
  exact(bE _).2 ⟨set,(bP _).2 fun u hu=>by simp [Tr.ks] at hu⟩
theorem eC(l:List UInt8):(txt l).toList=l:=by rw [Lib.toList_data];rfl
theorem aK3:bF false [(93,94)]=[91,91,46,93,46,93,45,91,46,94,46,93,93]:=by kernel_rfl
theorem aK2:bF false [(42,42)]=[92,42]:=by kernel_rfl
theorem aK1:¬ IsC [(5,4)] (fun x=>In [(5,4)] x/\aJ false x):=fun h=>by have:=h.cls.some (5,4) (by simp);simp at this
theorem oJ{w:World}(hG:Glb w):Calls Tryz.prog 9 #[] w fun e w'=>e=.returned (.bool true)/\Below w.heap.size w w':=by
 have HG:=aB hG
 have CA:=aB (fun (W:World)=>(nJ (w:=W.alloc (.cells #[.int .i64 93,.int .i64 94] 48)) false false (oT W 93 94) (oH (by decide) (by decide) (by decide))))
 have CB:=aB (fun (W:World)=>(nJ (w:=W.alloc (.cells #[.int .i64 42,.int .i64 42] 48)) false false (oT W 42 42) (oH (by decide) (by decide) (by decide))))
 have CC:=aB (fun (W:World)=>(sK (w:=W.alloc (.cells #[.int .i64 5,.int .i64 4] 48)) false false (oT W 5 4) (fun r hr=>by simp at hr;subst hr;simp) (by simp) aK1))
 rw [aK3] at CA
 rw [aK2] at CB
 have PN:=aB (fun (W:World) (s:Nat) (hT:TB W (exT s)) (hW:Below w.heap.size w W)=>jS false false hT (hG.kept hW))
 have DN:=aB (fun (W:World) (s:Nat) (hT:TB W (exT s)) (hW:Below w.heap.size w W)=>lO false false hT (hG.kept hW))
 simp only [xU] at PN
 simp only [xV] at DN
 clear hG
 go_enter Tryz.func9,Tryz.ntmps9
 go_upto_region 4 with first
  |(go_at_call 15;refine(CC.out _).mono ?_;rintro e w3 ⟨rfl,h3⟩;have B3:=aB (aF B2.out (h3.mono (by simp)  |> fun q=>((bz9).trans q)) lz9);clear h3)
  |(go_at_call 15;refine(CB.out _).mono ?_;rintro e w2 ⟨rfl,h2⟩;have B2:=aB (aF B1.out ((bz9).trans (h2.mono (by simp))) lz9);clear h2)
  |(go_at_call 15;refine(CA.out _).mono ?_;rintro e w1 ⟨rfl,h1⟩;have B1:=aB ((bz9).trans (h1.mono (by simp)));clear h1)
 have X0:Hid (((((w3.alloc (.cells #[.int .i64 97,.int .i64 97] 48)).alloc (.cells #[.int .i64 2,.int .i64 0,.int .i64 0,.int .i64 0,.slice (some ⟨w3.heap.size,0,none⟩) 1 1,.slice none 0 0] 25)).alloc (.cells #[.int .i64 3,.int .i64 0,.int .i64 0,.int .i64 0,.slice none 0 0,.slice none 0 0,.int .i64 9,.int .i64 0,.int .i64 2,.int .i64 5,.slice none 0 0,.slice (some ⟨w3.heap.size+1,0,none⟩) 1 1] 25)).alloc (.cells #[.int .i64 5,.int .i64 0,.int .i64 0,.int .i64 0,.slice none 0 0,.slice (some ⟨w3.heap.size+1+1,0,none⟩) 2 2] 25)).heap[w3.heap.size]?=some (.cells #[.int .i64 97,.int .i64 97] 48 (0,0))):=(Below.heap_alloc _ _ _ (by simp only [World.size_alloc];omega)).trans ((Below.heap_alloc _ _ _ (by simp only [World.size_alloc];omega)).trans ((Below.heap_alloc _ _ _ (by simp only [World.size_alloc];omega)).trans (aE w3 _)))
 have X1:Hid (((((w3.alloc (.cells #[.int .i64 97,.int .i64 97] 48)).alloc (.cells #[.int .i64 2,.int .i64 0,.int .i64 0,.int .i64 0,.slice (some ⟨w3.heap.size,0,none⟩) 1 1,.slice none 0 0] 25)).alloc (.cells #[.int .i64 3,.int .i64 0,.int .i64 0,.int .i64 0,.slice none 0 0,.slice none 0 0,.int .i64 9,.int .i64 0,.int .i64 2,.int .i64 5,.slice none 0 0,.slice (some ⟨w3.heap.size+1,0,none⟩) 1 1] 25)).alloc (.cells #[.int .i64 5,.int .i64 0,.int .i64 0,.int .i64 0,.slice none 0 0,.slice (some ⟨w3.heap.size+1+1,0,none⟩) 2 2] 25)).heap[w3.heap.size+1]?=some (.cells #[.int .i64 2,.int .i64 0,.int .i64 0,.int .i64 0,.slice (some ⟨w3.heap.size,0,none⟩) 1 1,.slice none 0 0] 25 (0,0))):=(Below.heap_alloc _ _ _ (by simp only [World.size_alloc];omega)).trans ((Below.heap_alloc _ _ _ (by simp only [World.size_alloc];omega)).trans (by have:=aE (w3.alloc (.cells #[.int .i64 97,.int .i64 97] 48)) (.cells #[.int .i64 2,.int .i64 0,.int .i64 0,.int .i64 0,.slice (some ⟨w3.heap.size,0,none⟩) 1 1,.slice none 0 0] 25);rwa [World.size_alloc] at this))
 have X2:Hid (((((w3.alloc (.cells #[.int .i64 97,.int .i64 97] 48)).alloc (.cells #[.int .i64 2,.int .i64 0,.int .i64 0,.int .i64 0,.slice (some ⟨w3.heap.size,0,none⟩) 1 1,.slice none 0 0] 25)).alloc (.cells #[.int .i64 3,.int .i64 0,.int .i64 0,.int .i64 0,.slice none 0 0,.slice none 0 0,.int .i64 9,.int .i64 0,.int .i64 2,.int .i64 5,.slice none 0 0,.slice (some ⟨w3.heap.size+1,0,none⟩) 1 1] 25)).alloc (.cells #[.int .i64 5,.int .i64 0,.int .i64 0,.int .i64 0,.slice none 0 0,.slice (some ⟨w3.heap.size+1+1,0,none⟩) 2 2] 25)).heap[w3.heap.size+2]?=some (.cells #[.int .i64 3,.int .i64 0,.int .i64 0,.int .i64 0,.slice none 0 0,.slice none 0 0,.int .i64 9,.int .i64 0,.int .i64 2,.int .i64 5,.slice none 0 0,.slice (some ⟨w3.heap.size+1,0,none⟩) 1 1] 25 (0,0))):=(Below.heap_alloc _ _ _ (by simp only [World.size_alloc];omega)).trans (by have:=aE ((w3.alloc (.cells #[.int .i64 97,.int .i64 97] 48)).alloc (.cells #[.int .i64 2,.int .i64 0,.int .i64 0,.int .i64 0,.slice (some ⟨w3.heap.size,0,none⟩) 1 1,.slice none 0 0] 25)) (.cells #[.int .i64 3,.int .i64 0,.int .i64 0,.int .i64 0,.slice none 0 0,.slice none 0 0,.int .i64 9,.int .i64 0,.int .i64 2,.int .i64 5,.slice none 0 0,.slice (some ⟨w3.heap.size+1,0,none⟩) 1 1] 25);rwa [World.size_alloc,World.size_alloc] at this)
 have X3:Hid (((((w3.alloc (.cells #[.int .i64 97,.int .i64 97] 48)).alloc (.cells #[.int .i64 2,.int .i64 0,.int .i64 0,.int .i64 0,.slice (some ⟨w3.heap.size,0,none⟩) 1 1,.slice none 0 0] 25)).alloc (.cells #[.int .i64 3,.int .i64 0,.int .i64 0,.int .i64 0,.slice none 0 0,.slice none 0 0,.int .i64 9,.int .i64 0,.int .i64 2,.int .i64 5,.slice none 0 0,.slice (some ⟨w3.heap.size+1,0,none⟩) 1 1] 25)).alloc (.cells #[.int .i64 5,.int .i64 0,.int .i64 0,.int .i64 0,.slice none 0 0,.slice (some ⟨w3.heap.size+1+1,0,none⟩) 2 2] 25)).heap[w3.heap.size+1+1+1]?=some (.cells #[.int .i64 5,.int .i64 0,.int .i64 0,.int .i64 0,.slice none 0 0,.slice (some ⟨w3.heap.size+1+1,0,none⟩) 2 2] 25 (0,0))):=(by have:=aE (((w3.alloc (.cells #[.int .i64 97,.int .i64 97] 48)).alloc (.cells #[.int .i64 2,.int .i64 0,.int .i64 0,.int .i64 0,.slice (some ⟨w3.heap.size,0,none⟩) 1 1,.slice none 0 0] 25)).alloc (.cells #[.int .i64 3,.int .i64 0,.int .i64 0,.int .i64 0,.slice none 0 0,.slice none 0 0,.int .i64 9,.int .i64 0,.int .i64 2,.int .i64 5,.slice none 0 0,.slice (some ⟨w3.heap.size+1,0,none⟩) 1 1] 25)) (.cells #[.int .i64 5,.int .i64 0,.int .i64 0,.int .i64 0,.slice none 0 0,.slice (some ⟨w3.heap.size+1+1,0,none⟩) 2 2] 25);rwa [World.size_alloc,World.size_alloc,World.size_alloc] at this)
 have B4:Hid (Below w.heap.size w ((((w3.alloc (.cells #[.int .i64 97,.int .i64 97] 48)).alloc (.cells #[.int .i64 2,.int .i64 0,.int .i64 0,.int .i64 0,.slice (some ⟨w3.heap.size,0,none⟩) 1 1,.slice none 0 0] 25)).alloc (.cells #[.int .i64 3,.int .i64 0,.int .i64 0,.int .i64 0,.slice none 0 0,.slice none 0 0,.int .i64 9,.int .i64 0,.int .i64 2,.int .i64 5,.slice none 0 0,.slice (some ⟨w3.heap.size+1,0,none⟩) 1 1] 25)).alloc (.cells #[.int .i64 5,.int .i64 0,.int .i64 0,.int .i64 0,.slice none 0 0,.slice (some ⟨w3.heap.size+1+1,0,none⟩) 2 2] 25))):=aF B3.out ((((bz9).alloc (by simp only [World.size_alloc];omega) _).alloc (by simp only [World.size_alloc];omega) _).alloc (by simp only [World.size_alloc];omega) _) lz9
 go_upto_region 5 with fail
 generalize ((((w3.alloc (.cells #[.int .i64 97,.int .i64 97] 48)).alloc (.cells #[.int .i64 2,.int .i64 0,.int .i64 0,.int .i64 0,.slice (some ⟨w3.heap.size,0,none⟩) 1 1,.slice none 0 0] 25)).alloc (.cells #[.int .i64 3,.int .i64 0,.int .i64 0,.int .i64 0,.slice none 0 0,.slice none 0 0,.int .i64 9,.int .i64 0,.int .i64 2,.int .i64 5,.slice none 0 0,.slice (some ⟨w3.heap.size+1,0,none⟩) 1 1] 25)).alloc (.cells #[.int .i64 5,.int .i64 0,.int .i64 0,.int .i64 0,.slice none 0 0,.slice (some ⟨w3.heap.size+1+1,0,none⟩) 2 2] 25))=w4 at X0 X1 X2 X3 B4 ⊢
 have TE:=aB (aJ6 X0.out X1.out X2.out)
 have a0:=aC X3.out (i:=0) rfl
 have a1:=aC X3.out (i:=1) rfl
 have a2:=aC X3.out (i:=2) rfl
 have a3:=aC X3.out (i:=3) rfl
 have a4:=aC X3.out (i:=4) rfl
 have a5:=aC X3.out (i:=5) rfl
 have P4:=aB (PN.out w4 w3.heap.size TE.out B4.out)
 have TL:=eC
 go_wp2_with first
  |(go_at_call 14;refine(D5.out).mono ?_;rintro e w6 ⟨rfl,h6⟩;have B6:=aB (aF B5.out h6 lz9);clear h6)
  |(go_at_call 10;refine(P4.out).mono ?_;rintro e w5 ⟨rfl,h5⟩;have B5:=aB (aF B4.out h5 lz9);have Y3:Hid _:=(h5.block _ (aA X3.out)).trans X3.out;have b0:=aC Y3.out (i:=0) rfl;have b1:=aC Y3.out (i:=1) rfl;have b2:=aC Y3.out (i:=2) rfl;have b3:=aC Y3.out (i:=3) rfl;have b4:=aC Y3.out (i:=4) rfl;have b5:=aC Y3.out (i:=5) rfl;have D5:=aB (DN.out w5 w3.heap.size (TE.out.kept h5) B5.out);clear h5)
 all_goals go_ret
 all_goals exact⟨rfl,B6.out⟩
structure LB(w:World)(t:Tr)(m:Md)(ba bb:Nat)(W:World):Prop where
 nd:BoxN W ba t.f
 md:W.heap[bb]?=some (.cells #[.bool m.c,.bool m.f] 27 (0,0))
 bel:Below w.heap.size w W
 ta:TB W t
section
open Go
structure Fz where
 n:Nat
 aa:List Ps
 br:List Ps
def pR(l:List Ps):Ps:=match l with
 | [x]=>x
 | l=>.row l
def aF7(aa br:List Ps):Ps:=if aa.isEmpty then pR br else .alt (aa ++ [pR br])
def dS:List Sgn->List Fz->List Fz
 | [],st=>st
 | .lf k n rs :: R,F :: st=>dS R (⟨F.n,F.aa,F.br ++ [.lf k n rs]⟩ :: st)
 | .op n :: R,st=>dS R (⟨n,[],[]⟩ :: st)
 | .cl :: R,F :: G :: st=>dS R (⟨G.n,G.aa,G.br ++ [.grp F.n (aF7 F.aa F.br)]⟩ :: st)
 | .rp a b :: R,F :: st=>dS R (⟨F.n,F.aa,F.br.dropLast ++ [.rep a b (F.br.getLastD (.row []))]⟩ :: st)
 | .al :: R,F :: st=>dS R (⟨F.n,F.aa ++ [pR F.br],[]⟩ :: st)
 | _ :: R,st=>dS R st
theorem pQ{l:List Ps}(h:l.length≠1):pR l=.row l:=by
 match l,h with
 | [],_=>rfl
 | [x],h=>exact absurd rfl h
 | x :: y :: r,_=>rfl
structure RunP(x:Ps):Prop where
 itm:dN x=true->∀ R F st,dS (pfl x ++ R) (F :: st)=dS R (⟨F.n,F.aa,F.br ++ [x]⟩ :: st)
 brn:sD x=true->∃ b,pR b=x/\∀ R n aa st,dS (pfl x ++ R) (⟨n,aa,[]⟩ :: st)=dS R (⟨n,aa,b⟩ :: st)
 pat:∃ a b,aF7 a b=x/\∀ R n st,dS (pfl x ++ R) (⟨n,[],[]⟩ :: st)=dS R (⟨n,a,b⟩ :: st)
theorem RunP.of_itm{x:Ps}(h:∀ R F st,dS (pfl x ++ R) (F :: st)=dS R (⟨F.n,F.aa,F.br ++ [x]⟩ :: st)):RunP x:=
 ⟨fun _=>h,fun _=>⟨[x],rfl,fun R n aa st=>by rw [h];rfl⟩,⟨[],[x],rfl,fun R n st=>by rw [h];rfl⟩⟩
theorem mR:∀ (l:List Ps),(∀ x∈l,dN x=true/\RunP x)->∀ R F st,dS (cY l ++ R) (F :: st)=dS R (⟨F.n,F.aa,F.br ++ l⟩ :: st)
 | [],_,R,F,st=>by rw [cY];simp
 | x :: l,h,R,F,st=>by
  rw [cY,List.append_assoc,(h x (List.mem_cons_self ..)).2.itm (h x (List.mem_cons_self ..)).1,mR l (fun y hy=>h y (List.mem_cons_of_mem _ hy))]
  simp
theorem tF:∀ (l:List Ps),(∀ x∈l,sD x=true/\RunP x)->∀ (aa b0:List Ps),∃ a b,a ++ [pR b]=aa ++ pR b0 :: l/\∀ R n st,dS (dB l ++ R) (⟨n,aa,b0⟩ :: st)=dS R (⟨n,a,b⟩ :: st)
 | [],_,aa,b0=>⟨aa,b0,rfl,fun R n st=>by rw [dB];rfl⟩
 | x :: l,h,aa,b0=>by
  obtain⟨b1,e1,r1⟩:=(h x (List.mem_cons_self ..)).2.brn (h x (List.mem_cons_self ..)).1
  obtain⟨a,b,e2,r2⟩:=tF l (fun y hy=>h y (List.mem_cons_of_mem _ hy)) (aa ++ [pR b0]) b1
  refine⟨a,b,by rw [e2,e1];simp,fun R n st=>?_⟩
  rw [dB,List.cons_append,List.append_assoc,dS,r1,r2]
theorem tG(x:Ps)(hw:wf x):RunP x:=by
 have key:∀ (m:Nat) (x:Ps),x.sz<=m->wf x->RunP x:=by
  intro m
  induction m with
  | zero=>intro x hx;have:=tI x;omega
  | succ m ih=>
   intro x hx hw
   cases x with
   | lf k n rs=>exact .of_itm fun R F st=>by rw [pfl];rfl
   | grp n x=>
    rw [wf] at hw
    rw [Ps.sz] at hx
    obtain⟨a,b,e,r⟩:=(ih x (by omega) hw).pat
    refine .of_itm fun R F st=>?_
    rw [pfl,List.cons_append,dS,List.append_assoc,r,List.singleton_append,dS,e]
   | rep a b x=>
    rw [wf] at hw
    rw [Ps.sz] at hx
    have hi:dN x=true:=by cases x <;> simp_all [eM,dN]
    refine .of_itm fun R F st=>?_
    rw [pfl,List.append_assoc,(ih x (by omega) hw.2).itm hi,List.singleton_append,dS]
    simp
   | row l=>
    rw [wf] at hw
    rw [Ps.sz] at hx
    have hl:∀ x∈l,dN x=true/\RunP x:=fun x hm=>by
     obtain⟨i,hi,e⟩:=List.getElem_of_mem hm
     exact⟨(hw.2.1 i x (by rw [List.getElem?_eq_getElem hi,e])).1,ih x (by have:=kO hm;omega) ((iL l).1 hw.2.2 x hm)⟩
    have hr:=mR l hl
    refine⟨fun q=>by simp [dN] at q,fun _=>⟨l,pQ hw.1,fun R n aa st=>?_⟩,⟨[],l,pQ hw.1,fun R n st=>?_⟩⟩
    ·rw [pfl,hr];rfl
    ·rw [pfl,hr];rfl
   | alt l=>
    rw [wf] at hw
    rw [Ps.sz] at hx
    have hl:∀ x∈l,sD x=true/\RunP x:=fun x hm=>⟨hw.2.1 x hm,ih x (by have:=kO hm;omega) ((iL l).1 hw.2.2 x hm)⟩
    refine⟨fun q=>by simp [dN] at q,fun q=>by simp [sD] at q,?_⟩
    match l,hw,hl with
    | [],hw,_=>exact absurd hw.1 (by simp)
    | y :: r,hw,hl=>
     obtain⟨b1,e1,r1⟩:=(hl y (List.mem_cons_self ..)).2.brn (hl y (List.mem_cons_self ..)).1
     obtain⟨a,b,e2,r2⟩:=tF r (fun z hz=>hl z (List.mem_cons_of_mem _ hz)) [] b1
     refine⟨a,b,?_,fun R n st=>?_⟩
     ·have hne:a≠[]:=by
       rintro rfl
       have:=congrArg List.length e2
       simp only [List.nil_append,List.length_cons,List.length_nil] at this
       have h2:2<=r.length+1:=hw.1
       omega
      unfold aF7
      rw [if_neg (by simpa using hne),e2,e1]
      rfl
     ·rw [pfl,mV,List.append_assoc,r1,r2]
 exact key x.sz x lz9 hw
theorem zM{x y:Ps}(hx:wf x)(hy:wf y)(h:pfl x=pfl y):x=y:=by
 obtain⟨a,b,e,r⟩:=(tG x hx).pat
 obtain⟨a',b',e',r'⟩:=(tG y hy).pat
 have h1:=r [] 0 []
 have h2:=r' [] 0 []
 rw [h] at h1
 rw [h1] at h2
 have h3:(⟨0,a,b⟩:Fz)=⟨0,a',b'⟩:=by
  rw [dS,dS] at h2
  exact(List.cons.inj h2).1
 cases h3
 rw [<- e,<- e']
end
def unh(c:UInt8):Nat:=if c < 97 then c.toNat - 48 else c.toNat - 87
def unx(a b:UInt8):UInt8:=UInt8.ofNat (unh a * 16+unh b)
def rdB:Nat->List UInt8->List UInt8
 | 0,_=>[]
 | _+1,[]=>[]
 | f+1,x :: r=>
  if x=92 then (match r with
   | []=>[]
   | y :: q=>if y=120 then unx (q.getD 0 0) (q.getD 1 0) :: rdB f (q.drop 2) else if y=110 then 10 :: rdB f q else y :: rdB f q)
  else x :: rdB f r
theorem uK{x:UInt8}(h:x≠92)(r:List UInt8)(f:Nat):rdB (f+1) (x :: r)=x :: rdB f r:=by cases r <;> simp [rdB,h]
theorem mS:∀ (l R:List UInt8) (g:Nat),(∀ x∈l,x≠92)->rdB (l.length+g) (l ++ R)=l ++ rdB g R
 | [],R,g,_=>by simp
 | x :: l,R,g,h=>by
  rw [List.length_cons,show l.length+1+g=(l.length+g)+1 by omega,List.cons_append,uK (h x (List.mem_cons_self ..)),mS l R g (fun y hy=>h y (List.mem_cons_of_mem _ hy))]
  rfl
theorem yR:∀ n:Fin 256,unx (eR ((UInt8.ofNat n.val).toNat / 16)) (eR ((UInt8.ofNat n.val).toNat % 16))=UInt8.ofNat n.val:=by decide +kernel
theorem aE2(b:UInt8):unx (eR (b.toNat / 16)) (eR (b.toNat % 16))=b:=by
 have:=yR ⟨b.toNat,b.toNat_lt⟩
 simpa using this
theorem pN:∀ (l R:List UInt8) (g:Nat),rdB (l.length+g) (cQ l ++ R)=l ++ rdB g R
 | [],R,g=>by simp [cQ]
 | x :: l,R,g=>by
  have e:cQ (x :: l) ++ R=92 :: 120 :: eR (x.toNat / 16) :: eR (x.toNat % 16) :: (cQ l ++ R):=by simp [cQ,sF]
  rw [List.length_cons,show l.length+1+g=(l.length+g)+1 by omega,e,rdB,if_pos rfl]
  show unx (eR (x.toNat / 16)) (eR (x.toNat % 16)) :: rdB (l.length+g) (cQ l ++ R)=_
  rw [aE2,pN l R g]
  rfl
theorem kV{s:ByteArray}{p n:Nat}{x:UInt8}(h:x∈sl s p n):∃ i,i < n/\x.toNat=bt s (p+i):=by
 unfold sl at h
 obtain⟨i,hi,e⟩:=List.getElem_of_mem h
 have h2:i < n:=by simp at hi;omega
 refine⟨i,h2,?_⟩
 have e2:s.data.toList[p+i]?=some x:=by
  rw [<- e]
  have h3:((s.data.toList.drop p).take n)[i]?=some _:=List.getElem?_eq_getElem hi
  rw [List.getElem?_take,if_pos h2,List.getElem?_drop] at h3
  exact h3
 simp [bt,List.getD_eq_getElem?_getD,e2]
theorem tA{s:ByteArray}{p n:Nat}(h:p+n<=s.size):(sl s p n).length=n:=by
 unfold sl
 rw [List.length_take,List.length_drop,aS]
 omega
theorem oX{s:ByteArray}{p:Nat}(h0:0<=ch s p):(ch s p=bt s p/\wd s p=1/\bt s p < 128)\/(128<=ch s p/\∀ x∈sl s p (wd s p),128<=x.toNat):=by
 have hb:bad s p=false:=by
  cases h:bad s p with
  | false=>rfl
  | true=>simp [ch,h] at h0
 have hne:Utf8.decode s p≠(65533,1):=by simpa [bad] using hb
 have hc:ch s p=((Utf8.decode s p).1:Int):=by simp [ch,hb]
 rw [hc]
 unfold wd
 rw [iH] at hne ⊢
 rcases iI (s.size - p) (bt s p) (bt s (p+1)) (bt s (p+2)) (bt s (p+3)) with e | ⟨h1,e⟩ | ⟨_,h1,h2,h3,e⟩ | ⟨_,h1,h2,h3,h4,_,e⟩ | ⟨_,h1,h2,h3,h4,h5,_,e⟩
 ·exact absurd e hne
 ·rw [e];exact .inl ⟨rfl,rfl,h1⟩
 ·rw [e]
  refine .inr ⟨by simp only;omega,fun x hx=>?_⟩
  obtain⟨i,hi,ex⟩:=kV hx
  simp only at hi
  rw [ex]
  match i,hi with
  | 0,_=>rw [Nat.add_zero];omega
  | 1,_=>omega
 ·rw [e]
  refine .inr ⟨by simp only;omega,fun x hx=>?_⟩
  obtain⟨i,hi,ex⟩:=kV hx
  simp only at hi
  rw [ex]
  match i,hi with
  | 0,_=>rw [Nat.add_zero];omega
  | 1,_=>omega
  | 2,_=>omega
 ·rw [e]
  refine .inr ⟨by simp only;omega,fun x hx=>?_⟩
  obtain⟨i,hi,ex⟩:=kV hx
  simp only at hi
  rw [ex]
  match i,hi with
  | 0,_=>rw [Nat.add_zero];omega
  | 1,_=>omega
  | 2,_=>omega
  | 3,_=>omega
theorem tL{s:ByteArray}{p:Nat}{b:UInt8}(hp:p < s.size)(h:ch s p=(b.toNat:Int))(hb:b.toNat < 128):sl s p (wd s p)=[b]/\wd s p=1:=by
 rcases oX (s:=s) (p:=p) (by omega) with⟨h1,h2,h3⟩ | ⟨h1,_⟩
 ·refine⟨?_,h2⟩
  have hl:=tA (s:=s) (p:=p) (n:=1) (by omega)
  rw [h2]
  match hs:sl s p 1,hl with
  | [x],_=>
   obtain⟨i,hi,ex⟩:=kV (show x∈sl s p 1 by rw [hs];exact List.mem_singleton.2 rfl)
   obtain rfl:i=0:=by omega
   rw [Nat.add_zero] at ex
   congr 1
   exact UInt8.toNat_inj.1 (by omega)
 ·omega
theorem mU{s:ByteArray}{p:Nat}(h1:ch s p≠92)(h2:ch s p≠10)(h3:bU (ch s p)=true):∀ x∈sl s p (wd s p),x≠92/\x≠10:=by
 have h4:(32<=ch s p/\ch s p<=126)\/159 < ch s p:=by simpa [bU] using h3
 intro x hx
 rcases oX (s:=s) (p:=p) (by omega) with⟨g1,g2,g3⟩ | ⟨g1,g2⟩
 ·rw [g2] at hx
  obtain⟨i,hi,ex⟩:=kV hx
  obtain rfl:i=0:=by omega
  rw [Nat.add_zero] at ex
  refine⟨fun e=>?_,fun e=>?_⟩ <;> (subst e;simp at ex;omega)
 ·have:=g2 x hx
  refine⟨fun e=>?_,fun e=>?_⟩ <;> (subst e;simp at this)
theorem aF1{s:ByteArray}{p:Nat}(hp:p < s.size)(R:List UInt8)(g:Nat):rdB (wd s p+g) (shU s p ++ R)=sl s p (wd s p) ++ rdB g R:=by
 have hl:=tA (mL s p hp).2
 unfold shU
 split
 ·rename_i h
  obtain⟨e1,e2⟩:=tL (b:=92) hp (by simpa using h) (by decide)
  rw [e1,e2,Nat.add_comm]
  rfl
 split
 ·rename_i h
  obtain⟨e1,e2⟩:=tL (b:=10) hp (by simpa using h) (by decide)
  rw [e1,e2,Nat.add_comm]
  rfl
 split
 ·rename_i h1 h2 h3
  have:=mS (sl s p (wd s p)) R g (fun x hx=>(mU h1 h2 h3 x hx).1)
  rw [hl] at this
  exact this
 ·have:=pN (sl s p (wd s p)) R g
  rw [hl] at this
  exact this
theorem pM:∀ (f:Nat) (s:ByteArray),s.size<=f->rdB f (dR s)=s.data.toList:=by
 have key:∀ (s:ByteArray) (f g p:Nat),s.size - p<=f->s.size - p<=g->rdB g (cZ s (cM s f p))=s.data.toList.drop p:=by
  intro s f
  induction f with
  | zero=>
   intro g p hf hg
   rw [eU s 0 p (by omega),List.drop_eq_nil_of_le (by rw [aS];omega)]
   cases g <;> rfl
  | succ f ih=>
   intro g p hf hg
   by_cases hp:p < s.size
   ·have hw:=(mL s p hp).2
    have h1:=nO s p
    rw [fE s f p hp,show cZ s ((p,ch s p) :: cM s f (p+wd s p))=shU s p ++ cZ s (cM s f (p+wd s p)) by simp [cZ],show g=wd s p+(g - wd s p) by omega,aF1 hp,
     ih (g - wd s p) (p+wd s p) (by omega) (by omega)]
    unfold sl
    rw [<- List.drop_drop,List.take_append_drop]
   ·rw [eU s _ p hp,List.drop_eq_nil_of_le (by rw [aS];omega)]
    cases g <;> rfl
 intro f s hf
 have:=key s s.size f 0 (by omega) (by omega)
 simpa [dR,us] using this
theorem rL{s t:ByteArray}(h:dR s=dR t):s.data.toList=t.data.toList:=by
 rw [<- pM (max s.size t.size) s (by omega),<- pM (max s.size t.size) t (by omega),h]
theorem tR:∀ n:Fin 16,eR n.val≠10:=by decide +kernel
theorem pA(s:ByteArray):∀ x∈dR s,x≠10:=by
 have key:∀ f p,∀ x∈cZ s (cM s f p),x≠10:=by
  intro f
  induction f with
  | zero=>intro p x hx;simp [cM,cZ] at hx
  | succ f ih=>
   intro p x hx
   by_cases hp:p < s.size
   ·rw [fE s f p hp,show cZ s ((p,ch s p) :: cM s f (p+wd s p))=shU s p ++ cZ s (cM s f (p+wd s p)) by simp [cZ]] at hx
    rcases List.mem_append.1 hx with hx | hx
    ·unfold shU at hx
     split at hx
     ·simp at hx;subst hx;decide
     split at hx
     ·simp at hx
      rcases hx with rfl | rfl <;> decide
     split at hx
     ·rename_i h1 h2 h3
      exact(mU h1 h2 h3 x hx).2
     ·unfold cQ at hx
      obtain⟨b,_,hb⟩:=List.mem_flatMap.1 hx
      have l1:b.toNat / 16 < 16:=by have:=b.toNat_lt;omega
      have l2:b.toNat % 16 < 16:=by omega
      simp [sF] at hb
      rcases hb with rfl | rfl | rfl | rfl
      ·decide
      ·decide
      ·exact tR ⟨_,l1⟩
      ·exact tR ⟨_,l2⟩
    ·exact ih _ x hx
   ·rw [eU s _ p hp] at hx
    simp [cZ] at hx
 exact key s.size 0
theorem aB4{a b r q:List UInt8}(ha:∀ x∈a,x≠10)(hb:∀ x∈b,x≠10)(h:a ++ 10 :: r=b ++ 10 :: q):a=b/\r=q:=by
 induction a generalizing b with
 | nil=>
  cases b with
  | nil=>exact⟨rfl,(List.cons.inj h).2⟩
  | cons y b=>exact absurd (List.cons.inj h).1.symm (hb y (List.mem_cons_self ..))
 | cons x a ih=>
  cases b with
  | nil=>exact absurd (List.cons.inj h).1 (ha x (List.mem_cons_self ..))
  | cons y b=>
   obtain⟨e1,e2⟩:=List.cons.inj h
   obtain⟨e3,e4⟩:=ih (fun z hz=>ha z (List.mem_cons_of_mem _ hz)) (b:=b) (fun z hz=>hb z (List.mem_cons_of_mem _ hz)) e2
   exact⟨by rw [e1,e3],e4⟩
theorem aB5{a b r q:List UInt8}{z:UInt8}(hz:dig z=false)(ha:∀ x∈a,dig x=true)(hb:∀ x∈b,dig x=true)(h:a ++ z :: r=b ++ z :: q):a=b/\r=q:=by
 induction a generalizing b with
 | nil=>
  cases b with
  | nil=>exact⟨rfl,(List.cons.inj h).2⟩
  | cons y b=>have:=hb y (List.mem_cons_self ..);rw [<- (List.cons.inj h).1,hz] at this;cases this
 | cons x a ih=>
  cases b with
  | nil=>have:=ha x (List.mem_cons_self ..);rw [(List.cons.inj h).1,hz] at this;cases this
  | cons y b=>
   obtain⟨e1,e2⟩:=List.cons.inj h
   obtain⟨e3,e4⟩:=ih (fun z hz=>ha z (List.mem_cons_of_mem _ hz)) (b:=b) (fun z hz=>hb z (List.mem_cons_of_mem _ hz)) e2
   exact⟨by rw [e1,e3],e4⟩
theorem vF{a b:Nat}{x y:UInt8}{r q:List UInt8}(hx:x≠32)(hy:y≠32)(h:List.replicate a (32:UInt8) ++ x :: r=List.replicate b 32 ++ y :: q):a=b/\x :: r=y :: q:=by
 induction a generalizing b with
 | zero=>
  cases b with
  | zero=>exact⟨rfl,h⟩
  | succ b=>rw [List.replicate_succ] at h;exact absurd (List.cons.inj h).1 hx
 | succ a ih=>
  cases b with
  | zero=>rw [List.replicate_succ] at h;exact absurd (List.cons.inj h).1.symm hy
  | succ b=>
   rw [List.replicate_succ,List.replicate_succ] at h
   obtain⟨e1,e2⟩:=ih (List.cons.inj h).2
   exact⟨by rw [e1],e2⟩
theorem iS{a b:Int}(a0:0<=a)(a1:a<=255)(b0:0<=b)(b1:b<=255)(h:aN a.toNat=aN b.toNat):a=b:=by
 have h1:=gB a.toNat a.toNat lz9
 have h2:=gB b.toNat b.toNat lz9
 rw [h,h2] at h1
 omega
theorem aB8{c f:Bool}{L M:List (Int × Int)}(hL:gY c f L)(hM:gY c f M)(h:bF c L=bF c M):L=M:=by
 obtain⟨t,h1,-,h3⟩:=kL (m:=⟨c,f⟩) (s:=⟨(bF c L).toArray⟩) (A:=[]) (R:=[]) hL (by simp) 0
 obtain⟨u,g1,-,g3⟩:=kL (m:=⟨c,f⟩) (s:=⟨(bF c L).toArray⟩) (A:=[]) (R:=[]) hM (by simp [h]) 0
 rw [h1] at g1
 have g2:=Except.ok.inj g1
 obtain rfl:t=u:=(Prod.mk.inj g2).1
 rw [<- h3,<- g3]
structure Nrt(c f:Bool)(F:Fl):Prop where
 k:1<=F.k/\F.k<=9
 ok:Okn c f F
 fl:∃ g,aG c f g F
theorem wT{c f:Bool}{t:Tr}(h:aM c f 0 0 (pp [] t)=0):∀ x∈pp [] t,Nrt c f x.2.f:=by
 intro x hx
 obtain⟨pre,post,e⟩:=List.append_of_mem hx
 have hk:=dW _ 0 0 h pre x post e
 have h0:=(wS h x hx).1
 unfold dD at hk
 split at hk
 ·cases hk
 split at hk
 ·cases hk
 split at hk
 ·cases hk
 rename_i h1
 have h1':=Classical.not_not.1 h1
 refine⟨?_,h0,_,h1'.2.1⟩
 have h2:=h1'.1
 unfold bO at h2
 split at h2
 ·simpa [bX] using h2
 ·unfold bT at h2
  split at h2
  ·simp [bG] at h2;omega
  split at h2
  ·simp [bG] at h2;omega
  split at h2
  ·simp [bX] at h2;omega
  ·simpa [bX] using h2
abbrev Lbl:=Int × Int × Int × Int × List (Int × Int)
def lbl(F:Fl):Lbl:=(F.k,F.n,F.mn,F.mx,F.rs)
theorem aB1{c f:Bool}{F G:Fl}(hF:Nrt c f F)(hG:Nrt c f G)(h:eK c F.k F.n F.mn F.mx F.rs=eK c G.k G.n G.mn G.mx G.rs):lbl F=lbl G:=by
 obtain⟨k,n,mn,mx,rs,q1,q2,q3,q4,q5⟩:=F
 obtain⟨k',n',mn',mx',rs',p1,p2,p3,p4,p5⟩:=G
 obtain⟨hk,hO,g,hf⟩:=hF
 obtain⟨hk',hO',g',hf'⟩:=hG
 have nil_of:∀ {l:List (Int × Int)},l.length=0->l=[]:=fun h=>List.eq_nil_of_length_eq_zero h
 dsimp only at hk hk' h
 unfold lbl
 dsimp only
 have cases9:∀ z:Int,1<=z/\z<=9->z=1\/z=2\/z=3\/z=4\/z=5\/z=6\/z=7\/z=8\/z=9:=fun z hz=>by omega
 rcases cases9 k hk with rfl | rfl | rfl | rfl | rfl | rfl | rfl | rfl | rfl <;> rcases cases9 k' hk' with rfl | rfl | rfl | rfl | rfl | rfl | rfl | rfl | rfl <;> try (exfalso;simp [eK] at h;done)
 ·simp [aG] at hf hf';simp [hf,hf']
 ·simp [aG] at hf hf'
  simp [eK] at h
  have e1:=rL h
  have e2:=aB8 hf.1 hf'.1 (by simpa [txt] using e1)
  simp [hf,hf',e2]
 ·simp [aG] at hf hf';simp [hf,hf']
 ·simp [aG] at hf hf';simp [hf,hf']
 ·simp [aG] at hf hf';simp [hf,hf']
 ·simp [aG] at hf hf';simp [hf,hf']
 ·simp [eK] at h
  have a:=hO.grp rfl
  have b:=hO'.grp rfl
  have e:=iS a.1 (by have:=a.2;omega) b.1 (by have:=b.2;omega) h
  dsimp only at e
  have i:=hf
  have i':=hf'
  simp [aG] at i i'
  simp [e,i.2,i'.2]
 ·simp [eK] at h
  have a:=hO.back rfl
  have b:=hO'.back rfl
  have e:=iS a.1 (by have:=a.2;omega) b.1 (by have:=b.2;omega) h
  dsimp only at e
  have i:=hf
  have i':=hf'
  simp [aG] at i i'
  simp [e,i.2,i'.2]
 ·simp [aG] at hf hf'
  have a:=hf.1
  have b:=hf'.1
  simp [eT] at a b
  simp [eK] at h
  have hd:∀ z:Nat,∀ x∈aN z,dig x=true:=fun z=>gC z z lz9
  obtain⟨e1,e2⟩:=aB5 (z:=32) (by decide) (hd _) (hd _) h
  have e3:=iS a.1.1 a.1.2 b.1.1 b.1.2 e1
  have neq:∀ z:Nat,[45]≠aN z:=fun z h=>by have:=hd z 45 (by rw [<- h];exact List.mem_singleton.2 rfl);simp [dig] at this
  have e4:mx=mx':=by
   by_cases u:mx=-1 <;> by_cases v:mx'=-1
   ·rw [u,v]
   ·rw [if_pos u,if_neg v] at e2;exact absurd e2 (neq _)
   ·rw [if_neg u,if_pos v] at e2;exact absurd e2.symm (neq _)
   ·rw [if_neg u,if_neg v] at e2
    have a2:mn<=mx/\mx<=255:=a.2.resolve_left u
    have b2:mn'<=mx'/\mx'<=255:=b.2.resolve_left v
    exact iS (by omega) a2.2 (by omega) b2.2 e2
  simp [hf,hf',e3,e4]
theorem nI{c:Bool}{F:Fl}:(∀ x∈eK c F.k F.n F.mn F.mx F.rs,x≠10)/\∃ x r,eK c F.k F.n F.mn F.mx F.rs=x :: r/\x≠32:=by
 have hd:∀ z:Nat,∀ x∈aN z,x≠10:=fun z x hx e=>by have:=gC z z lz9 x hx;subst e;simp [dig] at this
 have sc:∀ s,∀ x∈dR s,x≠10:=pA
 unfold eK
 refine⟨fun x hx=>?_,?_⟩
 ·split at hx
  ·rcases List.mem_append.1 hx with hx | hx
   ·simp at hx;rcases hx with rfl | rfl | rfl | rfl <;> decide
   ·exact sc _ x hx
  split at hx
  ·simp at hx;rcases hx with rfl | rfl | rfl | rfl | rfl <;> decide
  split at hx
  ·simp at hx;rcases hx with rfl | rfl | rfl <;> decide
  split at hx
  ·simp at hx;rcases hx with rfl | rfl | rfl <;> decide
  split at hx
  ·simp at hx;rcases hx with rfl | rfl | rfl <;> decide
  split at hx
  ·rcases List.mem_append.1 hx with hx | hx
   ·simp at hx;rcases hx with rfl | rfl | rfl | rfl | rfl | rfl <;> decide
   ·exact hd _ x hx
  split at hx
  ·rcases List.mem_append.1 hx with hx | hx
   ·simp at hx;rcases hx with rfl | rfl | rfl | rfl | rfl <;> decide
   ·exact hd _ x hx
  split at hx
  ·rcases List.mem_append.1 hx with hx | hx
   ·rcases List.mem_append.1 hx with hx | hx
    ·rcases List.mem_append.1 hx with hx | hx
     ·simp at hx;rcases hx with rfl | rfl | rfl | rfl <;> decide
     ·exact hd _ x hx
    ·simp at hx;subst hx;decide
   ·split at hx
    ·simp at hx;subst hx;decide
    ·exact hd _ x hx
  ·simp at hx;rcases hx with rfl | rfl | rfl | rfl | rfl <;> decide
 ·repeat' split
  all_goals exact⟨_,_,rfl,by decide⟩
def cP(L:List El):List (Nat × Lbl):=L.map fun x=>(x.1.length,lbl x.2.f)
theorem nA{c f:Bool}:∀ (A B:List El),(∀ x∈A,Nrt c f x.2.f)->(∀ x∈B,Nrt c f x.2.f)->bQ c A=bQ c B->cP A=cP B
 | [],[],_,_,_=>rfl
 | [],y :: B,_,_,h=>by exfalso;have:=congrArg List.length h;simp [bQ,fQ] at this
 | x :: A,[],_,_,h=>by exfalso;have:=congrArg List.length h;simp [bQ,fQ] at this
 | x :: A,y :: B,hA,hB,h=>by
  obtain⟨c1,u,r,e1,n1⟩:=nI (c:=c) (F:=x.2.f)
  obtain⟨c2,v,q,e2,n2⟩:=nI (c:=c) (F:=y.2.f)
  have ex:∀ (z:El) (L:List El),bQ c (z :: L)=(List.replicate (2 * z.1.length) 32 ++ eK c z.2.f.k z.2.f.n z.2.f.mn z.2.f.mx z.2.f.rs) ++ 10 :: bQ c L:=fun z L=>by simp [bQ,fQ]
  rw [ex,ex] at h
  have cl:∀ (d:Nat) (l:List UInt8),(∀ x∈l,x≠10)->∀ x∈List.replicate d 32 ++ l,x≠10:=fun d l hl x hx=>by
   rcases List.mem_append.1 hx with hx | hx
   ·rw [List.mem_replicate] at hx;rw [hx.2];decide
   ·exact hl x hx
  obtain⟨h1,h2⟩:=aB4 (cl _ _ c1) (cl _ _ c2) h
  rw [e1,e2] at h1
  obtain⟨h3,h4⟩:=vF n1 n2 h1
  rw [<- e1,<- e2] at h4
  have h5:=aB1 (hA x (List.mem_cons_self ..)) (hB y (List.mem_cons_self ..)) h4
  have h6:=nA A B (fun z hz=>hA z (List.mem_cons_of_mem _ hz)) (fun z hz=>hB z (List.mem_cons_of_mem _ hz)) h2
  show (x.1.length,lbl x.2.f) :: cP A=(y.1.length,lbl y.2.f) :: cP B
  rw [h5,h6,show x.1.length=y.1.length by omega]
def Out(d:Nat)(R:List (Nat × Lbl)):Prop:=∀ x∈R.head?,x.1<=d
theorem jU{t:Tr}{p:Way}(i:Nat)(ks:List Tr):cP (pps t p i ks)=(ks.map fun u=>cP (pp ((t,i) :: p) u)).flatten:=by
 have dep:∀ (u:Tr) (p q:Way),p.length=q.length->cP (pp p u)=cP (pp q u):=fun u=>by
  refine Tr.ind (P:=fun u=>∀ p q:Way,p.length=q.length->cP (pp p u)=cP (pp q u)) (fun u ih p q h=>?_) u
  have key:∀ (l:List Tr) (i:Nat),(∀ v∈l,v∈u.ks)->cP (pps u p i l)=cP (pps u q i l):=by
   intro l
   induction l with
   | nil=>intro i _;rw [aQ,aQ]
   | cons v l ih2=>
    intro i hl
    rw [aT,aT]
    unfold cP at ih2 ⊢
    rw [List.map_append,List.map_append,ih2 (i+1) (fun z hz=>hl z (List.mem_cons_of_mem _ hz))]
    have:=ih v (hl v (List.mem_cons_self ..)) ((u,i) :: p) ((u,i) :: q) (by simp [h])
    unfold cP at this
    rw [this]
  rw [cN,cN]
  show (p.length,lbl u.f) :: cP (pps u p 0 u.ks)=(q.length,lbl u.f) :: cP (pps u q 0 u.ks)
  rw [key u.ks 0 (fun v hv=>hv),h]
 induction ks generalizing i with
 | nil=>rw [aQ];rfl
 | cons u l ih=>
  rw [aT]
  have e:cP (pp ((t,i) :: p) u ++ pps t p (i+1) l)=cP (pp ((t,i) :: p) u) ++ cP (pps t p (i+1) l):=by simp [cP]
  rw [e,ih,List.map_cons,List.flatten_cons]
  congr 3
  funext v
  exact dep v _ _ (by simp)
def lb(d:Nat)(t:Tr):List (Nat × Lbl):=cP (pp (List.replicate d (t,0)) t)
theorem xC(u:Tr):∀ p q:Way,p.length=q.length->cP (pp p u)=cP (pp q u):=by
 refine Tr.ind (P:=fun u=>∀ p q:Way,p.length=q.length->cP (pp p u)=cP (pp q u)) (fun u ih p q h=>?_) u
 rw [cN,cN]
 show (p.length,lbl u.f) :: cP (pps u p 0 u.ks)=(q.length,lbl u.f) :: cP (pps u q 0 u.ks)
 rw [jU,jU,h]
 congr 2
 exact List.map_congr_left fun v hv=>ih v hv _ _ (by simp [h])
theorem lG(d:Nat)(t:Tr):lb d t=(d,lbl t.f) :: (t.ks.map (lb (d+1))).flatten:=by
 unfold lb
 rw [cN]
 show ((List.replicate d (t,0):Way).length,lbl t.f) :: cP (pps t _ 0 t.ks)=_
 rw [jU,List.length_replicate]
 congr 2
 exact List.map_congr_left fun v _=>xC v _ _ (by simp)
theorem aG3(t:Tr):∀ (d:Nat) (u:Tr) (R Q:List (Nat × Lbl)),Out d R->Out d Q->lb d t ++ R=lb d u ++ Q->er t=er u/\R=Q:=by
 refine Tr.ind (P:=fun t=>∀ (d:Nat) (u:Tr) (R Q:List (Nat × Lbl)),Out d R->Out d Q->lb d t ++ R=lb d u ++ Q->er t=er u/\R=Q) (fun t ih d u R Q hR hQ h=>?_) t
 rw [lG d t,lG d u,List.cons_append,List.cons_append] at h
 obtain⟨h1,h2⟩:=List.cons.inj h
 have hl:lbl t.f=lbl u.f:=(Prod.mk.inj h1).2
 have head_out:∀ (l:List Tr) (S:List (Nat × Lbl)),Out d S->Out (d+1) ((l.map (lb (d+1))).flatten ++ S):=by
  intro l S hS x hx
  cases l with
  | nil=>have:=hS x (by simpa using hx);omega
  | cons v l=>
   rw [List.map_cons,List.flatten_cons,lG] at hx
   simp at hx
   subst hx
   exact Nat.le_refl _
 have key:∀ (l m:List Tr),(∀ v∈l,v∈t.ks)->(l.map (lb (d+1))).flatten ++ R=(m.map (lb (d+1))).flatten ++ Q->l.map er=m.map er/\R=Q:=by
  intro l
  induction l with
  | nil=>
   intro m _ e
   cases m with
   | nil=>exact⟨rfl,by simpa using e⟩
   | cons v m=>
    exfalso
    rw [List.map_cons,List.flatten_cons,lG] at e
    simp at e
    have:=hR _ (by rw [e];rfl)
    simp at this
    omega
  | cons v l ih2=>
   intro m hl e
   cases m with
   | nil=>
    exfalso
    rw [List.map_cons,List.flatten_cons,lG] at e
    simp at e
    have:=hQ _ (by rw [<- e];rfl)
    simp at this
    omega
   | cons y m=>
    rw [List.map_cons,List.flatten_cons,List.map_cons,List.flatten_cons,List.append_assoc,List.append_assoc] at e
    obtain⟨e1,e2⟩:=ih v (hl v (List.mem_cons_self ..)) (d+1) y _ _ (head_out l R hR) (head_out m Q hQ) e
    obtain⟨e3,e4⟩:=ih2 m (fun z hz=>hl z (List.mem_cons_of_mem _ hz)) e2
    exact⟨by rw [List.map_cons,List.map_cons,e1,e3],e4⟩
 obtain⟨e1,e2⟩:=key t.ks u.ks (fun v hv=>hv) h2
 refine⟨(sG t u).2 ?_,e2⟩
 simp only [lbl,Prod.mk.injEq] at hl
 exact⟨hl.1,hl.2.1,hl.2.2.1,hl.2.2.2.1,hl.2.2.2.2,e1⟩
theorem yB{c f:Bool}{t u:Tr}(ht:aM c f 0 0 (pp [] t)=0)(hu:aM c f 0 0 (pp [] u)=0)(h:bQ c (pp [] t)=bQ c (pp [] u)):er t=er u:=by
 have h1:=nA _ _ (wT ht) (wT hu) h
 have h2:lb 0 t ++ []=lb 0 u ++ []:=by simpa [lb] using h1
 exact(aG3 t 0 u [] [] (fun x hx=>by simp at hx) (fun x hx=>by simp at hx) h2).1
theorem zV(t:Tr):∀ (d:Nat) (u:Tr),er t=er u->lb d t=lb d u:=by
 refine Tr.ind (P:=fun t=>∀ (d:Nat) (u:Tr),er t=er u->lb d t=lb d u) (fun t ih d u h=>?_) t
 obtain⟨h1,h2,h3,h4,h5,h6⟩:=(sG t u).1 h
 rw [lG,lG,show lbl t.f=lbl u.f by simp [lbl,h1,h2,h3,h4,h5]]
 have key:∀ (l m:List Tr),(∀ v∈l,v∈t.ks)->l.map er=m.map er->l.map (lb (d+1))=m.map (lb (d+1)):=by
  intro l
  induction l with
  | nil=>intro m _ e;cases m with | nil=>rfl | cons v m=>simp at e
  | cons v l ih2=>
   intro m hl e
   cases m with
   | nil=>simp at e
   | cons y m=>
    rw [List.map_cons,List.map_cons] at e
    obtain⟨e1,e2⟩:=List.cons.inj e
    rw [List.map_cons,List.map_cons,ih v (hl v (List.mem_cons_self ..)) (d+1) y e1,ih2 m (fun z hz=>hl z (List.mem_cons_of_mem _ hz)) e2]
 rw [key t.ks u.ks (fun v hv=>hv) h6]
theorem lN(c:Bool)(L:List El):bQ c L=(cP L).flatMap fun x=>List.replicate (2 * x.1) 32 ++ eK c x.2.1 x.2.2.1 x.2.2.2.1 x.2.2.2.2.1 x.2.2.2.2.2 ++ [10]:=by
 simp only [cP,List.flatMap_map,bQ,fQ,lbl]
theorem vE{c:Bool}{t u:Tr}(h:er t=er u):bQ c (pp [] t)=bQ c (pp [] u):=by
 have:=zV t 0 u h
 rw [lN,lN]
 have e:cP (pp [] t)=cP (pp [] u):=by simpa [lb] using this
 rw [e]
theorem uM{m:Md}{t u:Tr}(ht:aM m.c m.f 0 0 (pp [] t)=0)(hu:aM m.c m.f 0 0 (pp [] u)=0)(hl:(prE m.c (er t)).length<=2000)(h:prE m.c (er t)=prE m.c (er u)):er t=er u:=by
 obtain⟨x,T,hx,e1⟩:=kU (s:=txt (prE m.c (er t))) ht (by simp [txt]) (by rw [aU];exact hl)
 obtain⟨y,U,hy,e2⟩:=kU (s:=txt (prE m.c (er t))) hu (by simp [txt,h]) (by rw [aU];exact hl)
 have e3:T=U:=Except.ok.inj (hx.lex.symm.trans hy.lex)
 subst e3
 have e4:=zM hx.wf hy.wf (hx.pfl.trans hy.pfl.symm)
 rw [<- e1,<- e2,e4]
structure LP(w:World)(t u:Tr)(m:Md)(W:World):Prop where
 nd:BoxN W w.heap.size t.f
 ne:BoxN W (w.heap.size+1) u.f
 md:W.heap[w.heap.size+1+1]?=some (.cells #[.bool m.c,.bool m.f] 27 (0,0))
 bel:Below w.heap.size w W
 ta:TB W t
 tu:TB W u
theorem LP.kept{w:World}{t u:Tr}{m:Md}{W W':World}(h:LP w t u m W)(hb:Below W.heap.size W W'):LP w t u m W':=
 ⟨(hb.block _ (aA h.nd)).trans h.nd,(hb.block _ (aA h.ne)).trans h.ne,(hb.block _ (aA h.md)).trans h.md,aF h.bel hb lz9,h.ta.kept hb,h.tu.kept hb⟩
theorem LP.new{w:World}{t u:Tr}(m:Md)(h:TB w t)(k:TB w u):LP w t u m (((w.alloc (.cells #[.int .i64 t.f.k,.int .i64 t.f.n,.int .i64 t.f.mn,.int .i64 t.f.mx,.slice t.f.rq t.f.rs.length t.f.rc,.slice t.f.kq t.f.kl t.f.kc] 25)).alloc (.cells #[.int .i64 u.f.k,.int .i64 u.f.n,.int .i64 u.f.mn,.int .i64 u.f.mx,.slice u.f.rq u.f.rs.length u.f.rc,.slice u.f.kq u.f.kl u.f.kc] 25)).alloc (.cells #[.bool m.c,.bool m.f] 27)):=by
 have N1:=aE w (.cells #[.int .i64 t.f.k,.int .i64 t.f.n,.int .i64 t.f.mn,.int .i64 t.f.mx,.slice t.f.rq t.f.rs.length t.f.rc,.slice t.f.kq t.f.kl t.f.kc] 25)
 have N2:=aE (w.alloc (.cells #[.int .i64 t.f.k,.int .i64 t.f.n,.int .i64 t.f.mn,.int .i64 t.f.mx,.slice t.f.rq t.f.rs.length t.f.rc,.slice t.f.kq t.f.kl t.f.kc] 25)) (.cells #[.int .i64 u.f.k,.int .i64 u.f.n,.int .i64 u.f.mn,.int .i64 u.f.mx,.slice u.f.rq u.f.rs.length u.f.rc,.slice u.f.kq u.f.kl u.f.kc] 25)
 have N3:=aE ((w.alloc (.cells #[.int .i64 t.f.k,.int .i64 t.f.n,.int .i64 t.f.mn,.int .i64 t.f.mx,.slice t.f.rq t.f.rs.length t.f.rc,.slice t.f.kq t.f.kl t.f.kc] 25)).alloc (.cells #[.int .i64 u.f.k,.int .i64 u.f.n,.int .i64 u.f.mn,.int .i64 u.f.mx,.slice u.f.rq u.f.rs.length u.f.rc,.slice u.f.kq u.f.kl u.f.kc] 25)) (.cells #[.bool m.c,.bool m.f] 27)
 rw [World.size_alloc] at N2
 rw [World.size_alloc,World.size_alloc] at N3
 have B:Below w.heap.size w (((w.alloc (.cells #[.int .i64 t.f.k,.int .i64 t.f.n,.int .i64 t.f.mn,.int .i64 t.f.mx,.slice t.f.rq t.f.rs.length t.f.rc,.slice t.f.kq t.f.kl t.f.kc] 25)).alloc (.cells #[.int .i64 u.f.k,.int .i64 u.f.n,.int .i64 u.f.mn,.int .i64 u.f.mx,.slice u.f.rq u.f.rs.length u.f.rc,.slice u.f.kq u.f.kl u.f.kc] 25)).alloc (.cells #[.bool m.c,.bool m.f] 27)):=((bz9).alloc (by simp) _).alloc (by simp;omega) _
 refine⟨?_,?_,N3,B,h.kept B,k.kept B⟩
 ·exact(Below.heap_alloc _ _ _ (by simp;omega)).trans ((Below.heap_alloc _ _ _ (by simp)).trans N1)
 ·exact(Below.heap_alloc _ _ _ (by simp)).trans N2
theorem qA{w:World}{t u:Tr}(m:Md)(hT:TB w t)(hU:TB w u)(hG:Glb w) :
  Calls Tryz.prog 5 #[.agg #[.int .i64 t.f.k,.int .i64 t.f.n,.int .i64 t.f.mn,.int .i64 t.f.mx,.slice t.f.rq t.f.rs.length t.f.rc,.slice t.f.kq t.f.kl t.f.kc],.agg #[.int .i64 u.f.k,.int .i64 u.f.n,.int .i64 u.f.mn,.int .i64 u.f.mx,.slice u.f.rq u.f.rs.length u.f.rc,.slice u.f.kq u.f.kl u.f.kc],.agg #[.bool m.c,.bool m.f]] w fun e w'=>e=.returned (.bool true)/\Below w.heap.size w w':=by
 have L1:=aB (LP.new m hT hU)
 have EX:=aB (fun W (hW:Below w.heap.size w W)=>oJ (hG.kept hW))
 have PT:=aB (fun W (hW:LP w t u m W)=>jS m.c m.f hW.ta (hG.kept hW.bel))
 have PU:=aB (fun W (hW:LP w t u m W)=>jS m.c m.f hW.tu (hG.kept hW.bel))
 have DT:=aB (fun W (hW:LP w t u m W)=>lO m.c m.f hW.ta (hG.kept hW.bel))
 have DU:=aB (fun W (hW:LP w t u m W)=>lO m.c m.f hW.tu (hG.kept hW.bel))
 have SM:=aB (fun W (hW:LP w t u m W)=>zC hW.ta hW.tu)
 obtain⟨p,hp⟩:∃ o,fA m.c m.f t=o:=⟨_,rfl⟩
 obtain⟨q,hq⟩:∃ o,fA m.c m.f u=o:=⟨_,rfl⟩
 obtain⟨x,hx⟩:∃ o,fR m.c m.f t=o:=⟨_,rfl⟩
 obtain⟨y,hy⟩:∃ o,fR m.c m.f u=o:=⟨_,rfl⟩
 obtain⟨sm,hs⟩:∃ o,(!decide (2000 < (pp [] t).length) && !decide (2000 < (pp [] u).length) && fX (er t) (er u))=o:=⟨_,rfl⟩
 have KEY:Hid (p.2=0->q.2=0->x.2=0/\y.2=0/\(p.1==q.1)=sm/\(x.1==y.1)=sm):=fun h1 h2=>by
  have rt:aM m.c m.f 0 0 (pp [] t)=0:=Classical.byContradiction fun z=>by
   unfold fA at hp;rw [if_pos z] at hp;rw [<- hp] at h1;exact z h1
  have ru:aM m.c m.f 0 0 (pp [] u)=0:=Classical.byContradiction fun z=>by
   unfold fA at hq;rw [if_pos z] at hq;rw [<- hq] at h2;exact z h2
  unfold fA at hp hq
  rw [if_neg (by simpa using rt)] at hp
  rw [if_neg (by simpa using ru)] at hq
  have lt:¬ 2000 < (prE m.c (er t)).length:=fun z=>by rw [if_pos z] at hp;rw [<- hp] at h1;cases h1
  have lu:¬ 2000 < (prE m.c (er u)).length:=fun z=>by rw [if_pos z] at hq;rw [<- hq] at h2;cases h2
  rw [if_neg lt] at hp
  rw [if_neg lu] at hq
  unfold fR at hx hy
  rw [if_neg (by simpa using rt)] at hx
  rw [if_neg (by simpa using ru)] at hy
  have l1:=eY rt
  have l2:=eY ru
  rw [decide_eq_false (by omega),decide_eq_false (by omega)] at hs
  simp only [Bool.not_false,Bool.true_and] at hs
  subst hp hq hx hy
  refine⟨rfl,rfl,?_⟩
  by_cases he:er t=er u
  ·have e:sm=true:=by rw [<- hs,he];exact(eW _ _).2 rfl
   rw [e]
   dsimp only
   rw [he,vE (c:=m.c) he]
   exact⟨beq_self_eq_true _,beq_self_eq_true _⟩
  ·have e:sm=false:=by
    rw [<- hs]
    cases h:fX (er t) (er u) with
    | false=>rfl
    | true=>exact absurd ((eW _ _).1 h) he
   rw [e]
   refine⟨?_,?_⟩
   ·exact beq_eq_false_iff_ne.2 fun z=>he (uM rt ru (by omega) z)
   ·exact beq_eq_false_iff_ne.2 fun z=>he (yB rt ru z)
 rw [hp] at PT
 rw [hq] at PU
 rw [hx] at DT
 rw [hy] at DU
 rw [hs] at SM
 clear hT hU hG hp hq hx hy hs
 obtain⟨l1,e1⟩:=p
 obtain⟨l2,e2⟩:=q
 obtain⟨l3,e3⟩:=x
 obtain⟨l4,e4⟩:=y
 dsimp only at PT PU DT DU KEY
 go_enter Tryz.func5,Tryz.ntmps5
 go_upto_region 1 with fail
 generalize (((w.alloc (.cells #[.int .i64 t.f.k,.int .i64 t.f.n,.int .i64 t.f.mn,.int .i64 t.f.mx,.slice t.f.rq t.f.rs.length t.f.rc,.slice t.f.kq t.f.kl t.f.kc] 25)).alloc (.cells #[.int .i64 u.f.k,.int .i64 u.f.n,.int .i64 u.f.mn,.int .i64 u.f.mx,.slice u.f.rq u.f.rs.length u.f.rc,.slice u.f.kq u.f.kl u.f.kc] 25)).alloc (.cells #[.bool m.c,.bool m.f] 27))=w1 at L1 ⊢
 go_upto_region 2 with (go_at_call 9;refine(EX.out _ L1.out.bel).mono ?_;rintro e w2 ⟨rfl,h2⟩;have L2:=aB (L1.out.kept h2);clear h2;obtain⟨n0,n1,n2,n3,n4,n5⟩:=L2.out.nd.six;simp only [Nat.zero_add] at n1 n2 n3 n4 n5;have a0:=aC L2.out.md (i:=0) rfl;have a1:=aC L2.out.md (i:=1) rfl)
 go_upto_region 3 with (go_at_call 10;refine(PT.out _ L2.out).mono ?_;rintro e w3 ⟨rfl,h3⟩;have L3:=aB (L2.out.kept h3);clear h3;obtain⟨o0,o1,o2,o3,o4,o5⟩:=L3.out.ne.six;simp only [Nat.zero_add] at o1 o2 o3 o4 o5;have b0:=aC L3.out.md (i:=0) rfl;have b1:=aC L3.out.md (i:=1) rfl)
 clear n0 n1 n2 n3 n4 n5 a0 a1
 go_upto_region 4 with (go_at_call 10;refine(PU.out _ L3.out).mono ?_;rintro e w4 ⟨rfl,h4⟩;have L4:=aB (L3.out.kept h4);clear h4)
 clear o0 o1 o2 o3 o4 o5 b0 b1
 by_cases z1:e1=0
 ·by_cases z2:e2=0
  ·obtain⟨k1,k2,k3,k4⟩:=KEY.out z1 z2
   subst z1 z2 k1 k2
   have K3:=aB k3
   have K4:=aB k4
   clear k3 k4 KEY
   obtain⟨n0,n1,n2,n3,n4,n5⟩:=L4.out.nd.six
   simp only [Nat.zero_add] at n1 n2 n3 n4 n5
   have a0:=aC L4.out.md (i:=0) rfl
   have a1:=aC L4.out.md (i:=1) rfl
   go_upto_region 7 with (go_at_call 14;refine(DT.out _ L4.out).mono ?_;rintro e w5 ⟨rfl,h5⟩;have L5:=aB (L4.out.kept h5);clear h5;obtain⟨o0,o1,o2,o3,o4,o5⟩:=L5.out.ne.six;simp only [Nat.zero_add] at o1 o2 o3 o4 o5;have b0:=aC L5.out.md (i:=0) rfl;have b1:=aC L5.out.md (i:=1) rfl)
   clear n0 n1 n2 n3 n4 n5 a0 a1
   go_upto_region 8 with (go_at_call 14;refine(DU.out _ L5.out).mono ?_;rintro e w6 ⟨rfl,h6⟩;have L6:=aB (L5.out.kept h6);clear h6)
   clear o0 o1 o2 o3 o4 o5 b0 b1
   obtain⟨n0,n1,n2,n3,n4,n5⟩:=L6.out.nd.six
   simp only [Nat.zero_add] at n1 n2 n3 n4 n5
   obtain⟨o0,o1,o2,o3,o4,o5⟩:=L6.out.ne.six
   simp only [Nat.zero_add] at o1 o2 o3 o4 o5
   have k3:((txt l1).toList==(txt l2).toList)=sm:=by rw [eC,eC];exact K3.out
   have k4:((txt l3).toList==(txt l4).toList)=sm:=by rw [eC,eC];exact K4.out
   go_wp2_with (go_at_call 13;refine(SM.out _ L6.out).mono ?_;rintro e w7 ⟨rfl,h7⟩;have L7:=aB (L6.out.kept h7);clear h7)
   go_ret
   exact⟨by simp,L7.out.bel⟩
  ·have q0:(e2 != 0)=true:=by simpa using z2
   subst z1
   go_wp2_with fail
   go_ret
   exact⟨rfl,L4.out.bel⟩
 ·have q0:(e1 != 0)=true:=by simpa using z1
  go_wp2_with fail
  go_ret
  exact⟨rfl,L4.out.bel⟩
section
open Go Go.ChangeShapes Go.WideShapes Go.ChangeAt Go.RowKit
theorem lR:Tryz.prog.cellsOf 25=6:=by kernel_rfl
theorem vH:Tryz.prog.cellsOf 48=2:=by kernel_rfl
theorem sN:Tryz.prog.cellsOf 22=1:=by kernel_rfl
theorem sO:Tryz.prog.cellsOf 23=1:=by kernel_rfl
theorem vI:Tryz.prog.bytesOf 48=16:=by kernel_rfl
theorem kC{H:Type}{P:Program}{e:TypeId}{d:DataW H}{n:Nat}:∀ {l:List (DataW H)},d∈l->n∈d.weights P e->n∈DataW.weightsAll P e l
 | [],h,_=>by cases h
 | x :: r,h,hn=>by
  simp only [DataW.weightsAll,List.mem_append]
  rcases List.mem_cons.1 h with rfl | h
  ·exact .inl hn
  ·exact .inr (kC h hn)
theorem qT{w:World}{g o:Nat}{v:Value}(h:w.cell? ⟨g,o,none⟩=some v):g < w.heap.size:=by
 rcases Nat.lt_or_ge g w.heap.size with h' | h'
 ·exact h'
 ·have:w.heap[g]?=none:=Array.getElem?_eq_none h'
  simp [World.cell?,this] at h
theorem rA{a:Addr}{W:World}{v:Value}(h:W.cell? (a.add 0)=some v):∃ b off,a=⟨b,off,none⟩:=by
 obtain⟨b,off,spot⟩:=a
 cases spot with
 | none=>exact⟨b,off,rfl⟩
 | some k=>
  exfalso
  unfold Addr.add World.cell? at h
  simp at h
  split at h <;> simp_all
theorem uS{H:Type}{enc:TypeId × Value->H}{W:World}{fuel:Nat}{v:Value}{x:DataW H × List MemPlace}(hf:DataW.trod enc Tryz.prog W 0 (fun _=>true) true fuel 22 [v]=some x)(hw:∀ n∈x.1.weights Tryz.prog 22,n<=reachBytes) :
  ∃ (rs:List (Int × Int)) (q:Option Addr) (c:Nat),v=.slice q rs.length c/\ArgR W v rs/\Fit rs/\rs.length+3<=8796093022208:=by
 rcases Deep.open_slice_pairs Tryz.underlying22 Tryz.underlying48 vH rfl rfl jY jY hf with⟨h1,h2⟩ | ⟨a,len,cap,m,n,V0,V1,D0,D1,P0,P1,h1,_,hlc,hcap,hm,h2,hx⟩
 ·cases h1
  exact⟨[],none,0,rfl,.inl ⟨none,0,rfl,rfl,fun _=>rfl⟩,jA,by simp⟩
 ·cases h1
  rw [if_pos rfl] at hm
  subst hm
  by_cases hc:m=0
  ·have hl:len=0:=by omega
   subst hc hl
   exact⟨[],some a,0,rfl,.inl ⟨some a,0,rfl,rfl,fun q=>(by cases q)⟩,jA,by simp⟩
  ·have hp:∀ i,i < m->∃ q:Int × Int,V0 i=.int .i64 q.1/\V1 i=.int .i64 q.2/\(Lit.int .i64 q.1).wf=true/\(Lit.int .i64 q.2).wf=true:=fun i hi=>by
    obtain⟨_,_,g0,g1⟩:=hx i hi
    obtain⟨x0,e0,_,w0⟩:=DataW.trod_int Tryz.underlying3 g0
    obtain⟨x1,e1,_,w1⟩:=DataW.trod_int Tryz.underlying3 g1
    exact⟨(x0,x1),by simpa using e0,by simpa using e1,w0,w1⟩
   obtain⟨q,hq⟩:=Deep.choose_lt hp
   have c0:=(hx 0 (by omega)).1
   obtain⟨b,off,rfl⟩:=rA (by simpa using c0)
   have hadd:∀ j,(⟨b,off,none⟩:Addr).add j=⟨b,off+j,none⟩:=fun j=>by unfold Addr.add;split <;> simp_all
   have hb:b < W.heap.size:=by rw [hadd] at c0;exact qT c0
   refine⟨(List.range len).map q,some ⟨b,off,none⟩,m,by simp,.inr ⟨b,off,m,by simp,hb,by simpa using hlc,hcap,fun i r hi'=>?_⟩,fun r hr=>?_,?_⟩
   ·have hil:i < len:=by have:=(List.getElem?_eq_some_iff.1 hi').1;simpa using this
    have hqi:q i=r:=by simpa [hil] using hi'
    obtain⟨k0,k1,_,_⟩:=hx i (by omega)
    rw [hadd,Nat.mul_comm] at k0
    rw [hadd,Nat.mul_comm,<- Nat.add_assoc] at k1
    obtain⟨r0,r1,_,_⟩:=hq i (by omega)
    rw [hqi] at r0 r1
    exact⟨by rw [k0,r0],by rw [k1,r1]⟩
   ·obtain⟨i,hi,rfl⟩:=List.mem_map.1 hr
    have hil:i < len:=List.mem_range.1 hi
    obtain⟨_,_,w0,w1⟩:=hq i (by omega)
    exact⟨oW w0,oW w1⟩
   ·obtain⟨es,sp,e1,e2⟩:∃ es sp,x.1=.slice es sp/\es.length=len:=⟨_,_,congrArg Prod.fst h2,by simp⟩
    have h3:=hw ((es.length+sp.length) * Tryz.prog.bytesOf 48) (by rw [e1];simp [DataW.weights,Tryz.underlying22])
    rw [vI] at h3
    have r:reachBytes=140737488351232:=by decide
    simp
    omega
theorem rX{H:Type}{enc:TypeId × Value->H}{W:World}:∀ (fuel:Nat) (cs:List Value) (x:DataW H × List MemPlace),DataW.trod enc Tryz.prog W 0 (fun _=>true) true fuel 25 cs=some x->(∀ n∈x.1.weights Tryz.prog 25,n<=reachBytes) ->
  ∃ t:Tr,TB W t/\cs=[.int .i64 t.f.k,.int .i64 t.f.n,.int .i64 t.f.mn,.int .i64 t.f.mx,.slice t.f.rq t.f.rs.length t.f.rc,.slice t.f.kq t.f.kl t.f.kc]:=by
 intro fuel
 induction fuel using Nat.strongRecOn with
 | ind fuel ih=>
  intro cs x hf hw
  obtain⟨xs,k,hk,hxy,hcl,hxl,hfs⟩:=DataW.trod_struct Tryz.underlying25 hf
  have hD:x.1=.agg (xs.map (·.1)):=(congrArg Prod.fst hxy)
  rw [hD] at hw
  simp only [DataW.weights,Tryz.underlying25] at hw
  rw [lR] at hcl
  clear hD hxy hf
  match xs,hxl,cs,hcl,hfs,hw with
  | [y0,y1,y2,y3,y4,y5],_,[v0,v1,v2,v3,v4,v5],_,hf,hwi=>
   have F0:=hf 0 _ rfl
   have F1:=hf 1 _ rfl
   have F2:=hf 2 _ rfl
   have F3:=hf 3 _ rfl
   have F4:=hf 4 _ rfl
   have F5:=hf 5 _ rfl
   simp [jY,sN,sO] at F0 F1 F2 F3 F4 F5
   obtain⟨x0,e0,_,w0⟩:=DataW.trod_int Tryz.underlying3 F0
   obtain⟨x1,e1,_,w1⟩:=DataW.trod_int Tryz.underlying3 F1
   obtain⟨x2,e2,_,w2⟩:=DataW.trod_int Tryz.underlying3 F2
   obtain⟨x3,e3,_,w3⟩:=DataW.trod_int Tryz.underlying3 F3
   obtain⟨rs,q,c,rfl,hr,hfit,hlen⟩:=uS F4 (fun n hn=>hwi n (DataW.weights_mem_each (j:=4) (t:=22) rfl rfl n hn))
   cases e0;cases e1;cases e2;cases e3
   have hwk:=fun n hn=>hwi n (DataW.weights_mem_each (j:=5) (t:=23) (d:=y5.1) rfl rfl n hn)
   rcases DataW.trod_slice Tryz.underlying23 F5 with⟨h1,h2⟩ | ⟨a,len,cap,elems,rest,n,hn,h1,h2,_,hlc,hcap,hel,hx,-,-⟩
   ·cases h1
    exact⟨.mk ⟨x0,x1,x2,x3,rs,q,c,none,0,0⟩ [],(bE _).2 ⟨⟨hr,.inl ⟨none,0,rfl,rfl,fun _=>rfl⟩,hfit,hlen⟩,(bP _).2 fun u hu=>by cases hu⟩,rfl⟩
   ·cases h1
    by_cases hl:len=0
    ·subst hl
     exact⟨.mk ⟨x0,x1,x2,x3,rs,q,c,some a,0,cap⟩ [],(bE _).2 ⟨⟨hr,.inl ⟨some a,cap,rfl,rfl,fun z=>by cases z⟩,hfit,hlen⟩,(bP _).2 fun u hu=>by cases hu⟩,rfl⟩
    ·have each:∀ i,i < len->∃ t:Tr,TB W t/\∀ j v,[Value.int .i64 t.f.k,.int .i64 t.f.n,.int .i64 t.f.mn,.int .i64 t.f.mx,.slice t.f.rq t.f.rs.length t.f.rc,.slice t.f.kq t.f.kl t.f.kc][j]?=some v->W.cell? (a.add (i * 6+j))=some v:=by
      intro i hi
      have hxi:=hx i hi
      rw [List.getElem?_eq_getElem (by omega)] at hxi
      obtain⟨cs',g1,g2⟩:=Option.bind_eq_some_iff.1 hxi
      rw [lR] at g1
      obtain⟨_,hlc',hcell⟩:=World.cells?_some g1
      obtain⟨t,ht,hcs⟩:=ih n (by omega) cs' _ g2 (fun m hm=>hwk m (by
       rw [show y5.1=.slice (elems.map (·.1)) (rest.map (·.1)) from congrArg Prod.fst h2]
       simp only [DataW.weights,Tryz.underlying23,List.mem_cons,List.mem_append]
       exact .inr (.inl (kC (List.mem_map.2 ⟨_,List.getElem_mem _,rfl⟩) hm))))
      refine⟨t,ht,fun j v hj=>?_⟩
      have hj6:j < 6:=by have:=(List.getElem?_eq_some_iff.1 hj).1;simpa using this
      have:=hcell j (by omega)
      rw [Deep.add_add] at this
      rw [this,hcs]
      exact hj
     have:Inhabited Tr:=⟨.mk ⟨0,0,0,0,[],none,0,none,0,0⟩ []⟩
     obtain⟨tt,htt⟩:=Deep.choose_lt each
     have c0:=(htt 0 (by omega)).2 0 _ rfl
     obtain⟨b,off,rfl⟩:=rA (by simpa using c0)
     have hadd:∀ j,(⟨b,off,none⟩:Addr).add j=⟨b,off+j,none⟩:=fun j=>by unfold Addr.add;split <;> simp_all
     have hb:b < W.heap.size:=by rw [hadd] at c0;exact qT c0
     refine⟨.mk ⟨x0,x1,x2,x3,rs,q,c,some ⟨b,off,none⟩,len,cap⟩ ((List.range len).map tt),(bE _).2 ⟨⟨hr,.inr ⟨b,off,cap,by simp [Tr.f,Tr.ks],hb,by simpa [Tr.ks] using hlc,hcap,fun i t hi=>?_⟩,hfit,hlen⟩,(bP _).2 fun u hu=>?_⟩,rfl⟩
     ·have hi':((List.range len).map tt)[i]?=some t:=hi
      have hil:i < len:=by have:=(List.getElem?_eq_some_iff.1 hi').1;simpa using this
      have hqi:tt i=t:=by simpa [hil] using hi'
      have hh:=(htt i hil).2
      rw [hqi] at hh
      simp only [hadd,<- Nat.add_assoc] at hh
      exact⟨hh 0 _ rfl,hh 1 _ rfl,hh 2 _ rfl,hh 3 _ rfl,hh 4 _ rfl,hh 5 _ rfl⟩
     ·have hu':u∈(List.range len).map tt:=hu
      obtain⟨i,hi,rfl⟩:=List.mem_map.1 hu'
      exact(htt i (List.mem_range.1 hi)).1
theorem mX{H:Type}{enc:TypeId × Value->H}{W:World}{base:Nat}{v:Value}{d:DataW H}{p:List MemPlace}(hok:Value.okWide Tryz.prog W .any base 25 v)
  (h:DataW.Trod enc Tryz.prog W 0 (fun _=>true) true 25 v d p) (hw:∀ n∈d.weights Tryz.prog 25,n<=reachBytes):∃ t:Tr,TB W t/\v=.agg #[.int .i64 t.f.k,.int .i64 t.f.n,.int .i64 t.f.mn,.int .i64 t.f.mx,.slice t.f.rq t.f.rs.length t.f.rc,.slice t.f.kq t.f.kl t.f.kc]:=by
 obtain⟨cs,rfl,hsz⟩:=okWide_struct Tryz.underlying25 hok
 obtain⟨fuel,hf⟩:=h
 obtain⟨t,ht,hcs⟩:=rX fuel _ _ hf hw
 refine⟨t,ht,?_⟩
 obtain⟨l⟩:=cs
 simp [Value.cells] at hcs
 rw [hcs]
end
end Go.Proofs.YticfnglebbakkaaGreatDoor
