/-
  Parts of the proof.
-/
import Derived.Test.YticfnglebbakkaaGreatDoorClassProof10B18
import Derived.Test.YticfnglebbakkaaGreatDoorClassProof10B17
import Derived.Test.YticfnglebbakkaaGreatDoorClassProof10B16
import Derived.Test.YticfnglebbakkaaGreatDoorClassProof10B0
import Derived.Deep.SlicePairs
import Derived.SizedLaws
import Derived.ChangeMaps5
set_option maxRecDepth 100000
set_option maxHeartbeats 8000000
namespace Go.Proofs.YticfnglebbakkaaGreatDoor
open Go Go.RowKit
section
open Go Go.RowKit Go.Shelf
attribute [local go_sem] Oper.semAt_some
def iL(c:Bool)(d:Nat)(F:Fl):List UInt8:=List.replicate (2 * d) 32 ++ kE c F.k F.n F.mn F.mx F.rs ++ [10]
def dK(c:Bool)(L:List El):List UInt8:=L.flatMap fun x=>iL c x.1.length x.2.f
theorem oU(c:Bool)(L:List El)(x:El):dK c (L ++ [x])=dK c L ++ iL c x.1.length x.2.f:=by simp [dK]
theorem nE{c f:Bool}{F:Fl}(h:Okn c f F):(kE c F.k F.n F.mn F.mx F.rs).length<=112000010:=by
 unfold kE
 split
 ·rename_i q
  have h1:=gQ (h.set q).1
  have h2:=kL (txt (dM c F.rs))
  rw [aK] at h2
  simp;omega
 split
 ·simp
 split
 ·simp
 split
 ·simp
 split
 ·simp
 split
 ·rename_i q
  have:=h.grp q
  have:=dR (n:=F.n) this.1 (by omega)
  simp;omega
 split
 ·rename_i q
  have:=h.back q
  have:=dR (n:=F.n) this.1 (by omega)
  simp;omega
 split
 ·rename_i q
  have hb:=h.rep q
  have hbd:0<=F.mn/\F.mn<=255/\(F.mx=-1\/(0<=F.mx/\F.mx<=255)):=by
   simp only [gU,Bool.and_eq_true,Bool.or_eq_true,decide_eq_true_eq,beq_iff_eq] at hb
   omega
  have h1:=dR hbd.1 hbd.2.1
  have h2:(if F.mx=-1 then [45] else bR F.mx.toNat:List UInt8).length<=3:=by
   split
   ·simp
   ·exact dR (by omega) (by omega)
  simp;omega
 ·simp
theorem sX{c f:Bool}{F:Fl}(h:Okn c f F){d:Nat}(hd:d<=40):(iL c d F).length<=112000100:=by
 have:=nE h
 unfold iL
 simp;omega
theorem nF{c f:Bool}:∀ (L:List El),(∀ x∈L,Okn c f x.2.f/\x.1.length<=40)->(dK c L).length<=112000100 * L.length
 | [],_=>by simp [dK]
 | x :: L,h=>by
  have h1:=nF L (fun y hy=>h y (List.mem_cons_of_mem _ hy))
  have h2:=h x (List.mem_cons_self ..)
  have h3:=sX h2.1 h2.2
  have e:dK c (x :: L)=iL c x.1.length x.2.f ++ dK c L:=by simp [dK]
  rw [e,List.length_append,List.length_cons]
  omega
theorem wV{c f:Bool}{t:Tr}(h:aW c f 0 0 (pp [] t)=0):∀ x∈pp [] t,Okn c f x.2.f/\x.1.length<=40:=by
 intro x hx
 refine⟨?_,?_⟩
 ·have:=nA t [] (oO h) x hx
  exact((bM x.2).1 this).1
 ·obtain⟨pre,post,e⟩:=List.append_of_mem hx
  have hk:=fA _ 0 0 h pre x post e
  unfold dI at hk
  split at hk
  ·cases hk
  split at hk
  ·cases hk
  omega
theorem uQ(n:Nat):Lib.repeatL [32,32] n=List.replicate (2 * n) 32:=by
 induction n with
 | zero=>rfl
 | succ n ih=>rw [Lib.repeatL,ih,Nat.mul_add];rfl
noncomputable def gO (c f:Bool) (t:Tr):List UInt8 × Int:=if aW c f 0 0 (pp [] t)≠0 then ([],aW c f 0 0 (pp [] t)) else (dK c (pp [] t),0)
structure DI(w:World)(t:Tr)(c f:Bool)(bm bl:Nat)(pre:List (El × Fl))(V:World):Prop where
 md:V.heap[bm]?=some (.cells #[.bool c,.bool f] 27 (0,0))
 bld:BL 54 w.heap.size V bl [] (dK c (pre.map (·.1)))
 pfx:pre.map (·.1) <+: (pp [] t).take 2000
 bel:Below w.heap.size w V
theorem BL.row{T:TypeId}{base B:Nat}{V V':World}{b:Nat}{pr:List Value}{l:List UInt8}{row:Option Nat}(h:BL T base V b pr l)(hg:V.grownBy V' row)(hr:∀ r,row=some r->B<=r/\∃ o:Obj,V.heap[r]?=some o/\o.isCells=false):BL T base V' b pr l:=by
 obtain⟨p,v,h1,h2,h3,h4,h5⟩:=h
 refine⟨p,v,bA hg hr h1,h2,⟨h3.1,?_⟩,h4,h5⟩
 rcases h3.2 with z | ⟨g,cap,cur,z1,z2,z3,z4⟩
 ·exact .inl z
 ·exact .inr ⟨g,cap,cur,z1,z2,bA hg hr z3,z4⟩
theorem DI.row{w:World}{t:Tr}{c f:Bool}{bm bl B:Nat}{pre:List (El × Fl)}{V V':World}{row:Option Nat}(h:DI w t c f bm bl pre V)(hn:w.heap.size<=B)(hg:V.grownBy V' row)(hr:∀ r,row=some r->B<=r/\∃ o:Obj,V.heap[r]?=some o/\o.isCells=false):DI w t c f bm bl pre V':=
 ⟨bA hg hr h.md,h.bld.row hg hr,h.pfx,fI h.bel lz9 hn hg hr⟩
theorem DI.len{w:World}{t:Tr}{c f:Bool}{bm bl:Nat}{pre:List (El × Fl)}{V:World}(h:DI w t c f bm bl pre V):pre.length<=2000:=by
 have:=h.pfx.length_le
 rw [List.length_map,List.length_take] at this
 omega
theorem qR{b B:Nat}{V V':World}{T:TypeId}{cs:Array Value}(h:Oth b V V')(hs:V.heap.size<=V'.heap.size)(hb:V.heap[b]?=some (.cells cs T (0,0))):KeepsFrom B V V':=
 ⟨hs,fun k o _ hc ho=>h k o hc (fun e=>by injection e with e;subst e;rw [hb] at hc;cases hc;cases ho) (fun cs fz e=>by subst e;cases ho)⟩
theorem wU{b B:Nat}{V V':World}{z:El × Fl}(h:Oth b V V')(hs:V.heap.size<=V'.heap.size)(hb:b < B):KX B z V V':=
 ⟨hs,fun k cur ty fr hk ht hc=>h k _ hc (fun e=>by injection e with e;omega) (fun cs fz e=>by injection e with _ e2 _;exact ht e2)⟩
end
section
open Go Go.RowKit Go.Shelf
attribute [local go_sem] Oper.semAt_some
theorem mL{b:Nat}{W W':World}{base:Nat}{e:TypeId}{size n:Nat}{v:Value}{xs:List Value}(h:W.ownsRow base e size v n xs)(hc:Oth b W W')(he:e≠5)(hb:v.ownBlock≠some b):W'.ownsRow base e size v n xs:=by
 refine⟨h.1,?_⟩
 rcases h.2 with q | ⟨g,cap,cur,z1,z2,z3,z4⟩
 ·exact .inl q
 ·exact .inr ⟨g,cap,cur,z1,z2,hc _ _ z3 (fun e=>hb (by rw [z1];exact e)) (fun cs fz e=>by injection e with _ e2 _;exact he e2),z4⟩
theorem vO(n:Nat)(hn:4<=n){w:World}{t:Tr}(c f:Bool)(hta:TB w t)(hG:Glb w) :
  CallsIn Fence.wide n Tryz.prog 14 #[.agg #[.int .i64 t.f.k,.int .i64 t.f.n,.int .i64 t.f.mn,.int .i64 t.f.mx,.slice t.f.rq t.f.rs.length t.f.rc,.slice t.f.kq t.f.kl t.f.kc],.agg #[.bool c,.bool f]] w fun e w'=>e=.returned (.tuple #[.string (txt (gO c f t).1),.int .i64 (gO c f t).2])/\Below w.heap.size w w':=by
 have hfn:∀ f,Fence.wide.fn f:=fun _=>trivial
 refine callsIn_of_wp_marks Tryz.func14 rfl trivial ?_ rfl
 simp only [Tryz.ntmps14,List.size_toArray,List.length_cons,List.length_nil,Nat.reduceAdd,Nat.reduceSub,Array.replicate_succ,Array.replicate_zero,List.push_toArray,List.append_toArray,List.nil_append,List.cons_append]
 refine wpIn_wide.2 ?_
 have HTA:=aB hta
 have HG:=aB hG
 have B1:Hid (Below w.heap.size w ((w.alloc (.cells #[.int .i64 t.f.k,.int .i64 t.f.n,.int .i64 t.f.mn,.int .i64 t.f.mx,.slice t.f.rq t.f.rs.length t.f.rc,.slice t.f.kq t.f.kl t.f.kc] 25)).alloc (.cells #[.bool c,.bool f] 27))):=(bz9).alloc (by simp) _
 have X1:Hid (BoxN ((w.alloc (.cells #[.int .i64 t.f.k,.int .i64 t.f.n,.int .i64 t.f.mn,.int .i64 t.f.mx,.slice t.f.rq t.f.rs.length t.f.rc,.slice t.f.kq t.f.kl t.f.kc] 25)).alloc (.cells #[.bool c,.bool f] 27)) w.heap.size t.f):=(Below.heap_alloc _ _ _ (by simp)).trans (aE w _)
 have X2:Hid (((w.alloc (.cells #[.int .i64 t.f.k,.int .i64 t.f.n,.int .i64 t.f.mn,.int .i64 t.f.mx,.slice t.f.rq t.f.rs.length t.f.rc,.slice t.f.kq t.f.kl t.f.kc] 25)).alloc (.cells #[.bool c,.bool f] 27)).heap[w.heap.size+1]?=some (.cells #[.bool c,.bool f] 27 (0,0))):=aB (by have:=aE (w.alloc (.cells #[.int .i64 t.f.k,.int .i64 t.f.n,.int .i64 t.f.mn,.int .i64 t.f.mx,.slice t.f.rq t.f.rs.length t.f.rc,.slice t.f.kq t.f.kl t.f.kc] 25)) (.cells #[.bool c,.bool f] 27);simpa using this)
 obtain⟨out,ho⟩:∃ o,gO c f t=o:=⟨_,rfl⟩
 have HO:=aB ho
 rw [ho]
 clear hta hG ho
 go_upto_region 1 with fail
 generalize ((w.alloc (.cells #[.int .i64 t.f.k,.int .i64 t.f.n,.int .i64 t.f.mn,.int .i64 t.f.mx,.slice t.f.rq t.f.rs.length t.f.rc,.slice t.f.kq t.f.kl t.f.kc] 25)).alloc (.cells #[.bool c,.bool f] 27))=w1 at B1 X1 X2 ⊢
 obtain⟨n0,n1,n2,n3,n4,n5⟩:=X1.out.six
 simp only [Nat.zero_add] at n1 n2 n3 n4 n5
 have a0:=aA X2.out (i:=0) rfl
 have a1:=aA X2.out (i:=1) rfl
 have RT:=aB (mH c f (HTA.out.kept B1.out))
 obtain⟨r,hr⟩:∃ r,aW c f 0 0 (pp [] t)=r:=⟨_,rfl⟩
 have HR:=aB hr
 rw [hr] at RT
 clear hr
 by_cases hr0:r=0
 ·subst hr0
  have OK:=aB (wV HR.out)
  have HLEN:=aB (kN HR.out)
  go_upto_region 4 with (go_at_call 11;refine(RT.out).mono ?_;rintro e w2 ⟨rfl,h2⟩;have B2:=aB (aF B1.out h2 lz9);have Y1:Hid (BoxN w2 w.heap.size t.f):=(h2.block _ (aC X1.out)).trans X1.out;have Y2:Hid (w2.heap[w.heap.size+1]?=some (.cells #[.bool c,.bool f] 27 (0,0))):=(h2.block _ (aC X2.out)).trans X2.out;clear h2)
  obtain⟨m0,m1,m2,m3,m4,m5⟩:=Y1.out.six
  simp only [Nat.zero_add] at m1 m2 m3 m4 m5
  have hs2:=B2.out.size
  have B3:Hid (Below w2.heap.size w2 (w2.alloc (.cells #[.pointer none,.slice none 0 0] 54))):=bz9
  have BLN:Hid (BL 54 w.heap.size (w2.alloc (.cells #[.pointer none,.slice none 0 0] 54)) w2.heap.size [] []):=⟨.pointer none,.slice none 0 0,aE w2 _,.inl rfl,⟨rfl,.inl ⟨rfl,rfl⟩⟩,fun _=>rfl,hs2⟩
  go_upto_region 5 with fail
  have Z1:Hid (BoxN (w2.alloc (.cells #[.pointer none,.slice none 0 0] 54)) w.heap.size t.f):=(B3.out.block _ (aC Y1.out)).trans Y1.out
  have Z2:Hid ((w2.alloc (.cells #[.pointer none,.slice none 0 0] 54)).heap[w.heap.size+1]?=some (.cells #[.bool c,.bool f] 27 (0,0))):=(B3.out.block _ (aC Y2.out)).trans Y2.out
  have B4:Hid (Below w.heap.size w (w2.alloc (.cells #[.pointer none,.slice none 0 0] 54))):=aF B2.out B3.out lz9
  generalize hbl:w2.heap.size=bl at BLN ⊢
  have hblw:w.heap.size<=bl:=by omega
  generalize (w2.alloc (.cells #[.pointer none,.slice none 0 0] 54))=w3 at BLN Z1 Z2 B4 ⊢
  clear hbl B3 m0 m1 m2 m3 m4 m5 n0 n1 n2 n3 n4 n5 a0 a1
  obtain⟨z0,z1,z2,z3,z4,z5⟩:=Z1.out.six
  simp only [Nat.zero_add] at z1 z2 z3 z4 z5
  go_wp2_with (go_at_call 35;(with_reducible refine(yF _ _).mono ?_);rintro e w7 ⟨rfl,rfl⟩)
  have K5:Below w3.heap.size w3 (w3.alloc (.cells #[.int .i64 t.f.k,.int .i64 t.f.n,.int .i64 t.f.mn,.int .i64 t.f.mx,.slice t.f.rq t.f.rs.length t.f.rc,.slice t.f.kq t.f.kl t.f.kc] 25)):=bz9
  have L5:BoxN (w3.alloc (.cells #[.int .i64 t.f.k,.int .i64 t.f.n,.int .i64 t.f.mn,.int .i64 t.f.mx,.slice t.f.rq t.f.rs.length t.f.rc,.slice t.f.kq t.f.kl t.f.kc] 25)) w3.heap.size t.f:=aE w3 _
  have BL5:=BLN.out.kept K5
  have M5:=(K5.block _ (aC Z2.out)).trans Z2.out
  have B5:=aF B4.out K5 lz9
  have HX:=aB (⟨L5,BL5,M5,B5⟩:_/\_/\_/\_)
  have hlb:bl < w3.heap.size:=by obtain⟨p,v,h1,-⟩:=BLN.out;exact aC h1
  have hlb5:bl < (w3.alloc (.cells #[.int .i64 t.f.k,.int .i64 t.f.n,.int .i64 t.f.mn,.int .i64 t.f.mx,.slice t.f.rq t.f.rs.length t.f.rc,.slice t.f.kq t.f.kl t.f.kc] 25)).heap.size:=by simp;omega
  clear L5 BL5 M5 B5 K5
  generalize (w3.alloc (.cells #[.int .i64 t.f.k,.int .i64 t.f.n,.int .i64 t.f.mn,.int .i64 t.f.mx,.slice t.f.rq t.f.rs.length t.f.rc,.slice t.f.kq t.f.kl t.f.kc] 25))=w5 at HX hlb5 ⊢
  generalize w3.heap.size=bq at HX ⊢
  obtain⟨L5,BL5,M5,B5⟩:=HX.out
  have HLB:=aB hlb5
  clear HX hlb hlb5 z0 z1 z2 z3 z4 z5 Z1 Z2 B4 BLN Y1 Y2
  refine(wpIn_wide (n:=n)).1 ?_
  refine sD hn 18 19 bq rfl rfl L5 HTA.out (CK.of_below B5) (DI w t c f (w.heap.size+1) bl) (fun _ _ _=>False) (fun pre A A' row h hg hr=>h.row B5.size hg hr) (fun _ _ _ _ _ h _ _=>h) (fun pre W h=>by have:=h.len;omega) ⟨M5,BL5,List.nil_prefix,B5⟩
   (fun s y x a' W=>∃ bx,BoxN W bx x.2/\a'={ y with tmps:=(y.tmps.setIfInBounds 8 (.int .i64 ((x.1.1.length:Int)+1))).setIfInBounds 9 (.pointer (some ⟨bx,0,none⟩)) }) ?_ ?_ ?_ ?_ (fun _ _ _ _ _ _ h _=>h.elim)
  ·rintro s y x a' _ A A' row ⟨bx,h1,h2⟩ hg hr
   exact⟨bx,bA hg hr h1,h2⟩
  ·intro l pre x V K _ _ hK
   simp only [fO]
   gi_wp2
   exact hK _ _ (bz9) ⟨_,aE V _,rfl⟩
  ·rintro l pre x a' V0 V h ht ⟨bx,hbx,rfl⟩ hk0 hv0
   have hin:x.1∈pp [] t:=by
    have:=ht.pfx.subset (show x.1∈(pre ++ [x]).map (·.1) by simp)
    exact List.mem_of_mem_take this
   obtain⟨ok1,hd40⟩:=OK.out x.1 hin
   have okx:Okn c f x.2:=⟨fun q=>by rw [ht.ok.rs];exact ok1.set (by rw [<- ht.ok.k];exact q),fun q=>by rw [ht.ok.n];exact ok1.back (by rw [<- ht.ok.k];exact q),fun q=>by rw [ht.ok.mn,ht.ok.mx];exact ok1.rep (by rw [<- ht.ok.k];exact q),fun q=>by rw [ht.ok.n];exact ok1.grp (by rw [<- ht.ok.k];exact q)⟩
   have LE:Hid (iL c x.1.1.length x.1.2.f=List.replicate (2 * x.1.1.length) 32 ++ kE c x.2.k x.2.n x.2.mn x.2.mx x.2.rs ++ [10]):=aB (by unfold iL;rw [ht.ok.k,ht.ok.n,ht.ok.mn,ht.ok.mx,ht.ok.rs])
   have hlen:=h.len
   have hpl:pre.map (·.1) <+: pp [] t:=h.pfx.trans (List.take_prefix _ _)
   have ROOM:Hid ((dK c (pre.map (·.1))).length<=224000200000):=aB (by
    have h1:=nF (c:=c) (f:=f) (pre.map (·.1)) (fun y hy=>OK.out y (hpl.subset hy))
    rw [List.length_map] at h1
    have:112000100 * pre.length<=112000100 * 2000:=Nat.mul_le_mul_left _ hlen
    omega)
   have DL:=aB (nE okx)
   have hVs:w.heap.size<=V.heap.size:=h.bel.size
   have HH:=aB h
   have HT:=aB ht
   have HK0:=aB hk0
   have HBX:=aB hbx
   have HOK:=aB okx
   obtain⟨d,hd⟩:∃ d,x.1.1.length=d:=⟨_,rfl⟩
   have HDD:=aB hd
   rw [hd] at LE hd40
   have hw1:IntKind.wrap .i64 ((d:Int)+1 - 1)=(d:Int):=by rw [show (d:Int)+1 - 1=(d:Int) by omega];exact wrap_small _ (by omega) (by omega)
   have hw2:(d:Int)+1 - 1=(d:Int):=by omega
   have RP:=aB (Tryz.strings_Repeat ⟨#[32,32]⟩ d V (by omega) (by show 2 * d<=140737488355328;omega))
   rw [show (⟨#[32,32]⟩:ByteArray).data.toList=[32,32] from rfl,uQ] at RP
   simp only [fO]
   rw [hd]
   clear h ht hk0 hbx okx hin ok1 hpl hd
   gi_wp2
   obtain⟨pB,vB,hbl,-⟩:=HH.out.bld
   have NB:=aB (show bx≠bl from fun e=>by subst e;have:=HBX.out;unfold BoxN at this;rw [hbl] at this;cases this)
   have NM:=aB (show w.heap.size+1≠bl from fun e=>by have:=HH.out.md;rw [e,hbl] at this;cases this)
   have HBL:=aB hbl
   clear hbl
   refine⟨(fun z=>by cases z),(CallsIn.inRound l (callsIn_wide.2 (RP.out))).mono ?_⟩
   rintro e V1 ⟨rfl,h1⟩
   have P1:=aB (PrPost.start HH.out.bld h1 hVs)
   have W1:=aB (dW bt0 P1.out.1 (List.replicate (2 * d) 32) (by have:=ROOM.out;simp;omega) (Nat.le_trans hVs P1.out.2.1.size))
   clear h1
   gi_wp2
   refine⟨(fun z=>by cases z),(CallsIn.inRound l (callsIn_wide.2 (W1.out))).mono ?_⟩
   rintro e V2 ⟨rfl,h2⟩
   have P2:=aB (PrPost.trans P1.out h2)
   have X2:Hid (BoxN V2 bx x.2):=P2.out.2.2 _ _ HBX.out (fun e=>by injection e with e;exact NB.out e) (fun cs fz e=>by cases e)
   have M2:Hid (V2.heap[w.heap.size+1]?=some (.cells #[.bool c,.bool f] 27 (0,0))):=P2.out.2.2 _ _ HH.out.md (fun e=>by injection e with e;exact NM.out e) (fun cs fz e=>by cases e)
   obtain⟨k0,k1,k2,k3,k4,k5⟩:=X2.out.six
   simp only [Nat.zero_add] at k1 k2 k3 k4 k5
   have y0:=aA M2.out (i:=0) rfl
   have y1:=aA M2.out (i:=1) rfl
   have DS:=aB (nG x.2 c f (RR.arg (mL HT.out.ok.rr P2.out.2.2 (by decide) (bK HT.out.ok.rr HBL.out (by decide)))) HOK.out (HG.out.kept (HH.out.bel.trans P2.out.2.1)))
   clear h2
   gi_wp2
   refine⟨(fun z=>by cases z),(CallsIn.inRound l (callsIn_wide.2 (DS.out))).mono ?_⟩
   rintro e V3 ⟨rfl,h3⟩
   have P3:=aB (PrPost.then P2.out h3 hVs)
   have W3:=aB (dW bt0 P3.out.1 (kE c x.2.k x.2.n x.2.mn x.2.mx x.2.rs) (by have:=ROOM.out;have:=DL.out;simp;omega) (Nat.le_trans hVs P3.out.2.1.size))
   clear h3 k0 k1 k2 k3 k4 k5 y0 y1
   gi_wp2
   refine⟨(fun z=>by cases z),(CallsIn.inRound l (callsIn_wide.2 (W3.out))).mono ?_⟩
   rintro e V4 ⟨rfl,h4⟩
   have P4:=aB (PrPost.trans P3.out h4)
   have W4:=aB (lX bt0 P4.out.1 10 (by have:=ROOM.out;have:=DL.out;simp;omega) (Nat.le_trans hVs P4.out.2.1.size))
   clear h4
   gi_wp2
   refine⟨(fun z=>by cases z),(CallsIn.inRound l (callsIn_wide.2 (W4.out))).mono ?_⟩
   rintro e V5 ⟨rfl,h5⟩
   have P5:=aB (PrPost.trans P4.out h5)
   clear h5
   gi_wp2
   refine⟨qR P5.out.2.2 P5.out.2.1.size HBL.out,HK0.out.trans (wU P5.out.2.2 P5.out.2.1.size HLB.out),⟨P5.out.2.2 _ _ HH.out.md (fun e=>by injection e with e;exact NM.out e) (fun cs fz e=>by cases e),?_,HT.out.pfx,HH.out.bel.trans P5.out.2.1⟩⟩
   have:=P5.out.1
   rw [List.map_append,List.map_cons,List.map_nil,oU,HDD.out,LE.out]
   simpa using this
  ·rintro D xs V hD hxs h hK
   have he:xs.map (·.1)=pp [] t:=by rw [hxs,List.take_of_length_le HLEN.out]
   have SG:=aB (mA h.bld)
   rw [he] at SG
   obtain⟨pB,vB,hbl,-⟩:=h.bld
   have ND:=aB (show D≠bl from fun e=>by subst e;rw [hbl] at hK;cases hK)
   have HB:=aB h.bel
   have HK:=aB hK
   have HD:=aB hD
   have E:Hid (out=(dK c (pp [] t),0)):=aB (by rw [<- HO.out];unfold gO;rw [if_neg (by rw [HR.out];simp)])
   clear h hK hD hbl he hxs
   simp only [cO]
   go_wp2_with (go_at_call 25;refine(SG.out).mono ?_;rintro e V6 ⟨rfl,h6,o6⟩;have B6:=aB (HB.out.trans h6);have D6:Hid (V6.heap[D]?=some (.deferred (some []))):=o6 _ _ HK.out (fun e=>by injection e with e;exact ND.out e) (fun cs fz e=>by cases e);clear h6 o6)
   refine⟨by simp,.inl ⟨_,_,rfl,run_takeDeferred D6.out,?_⟩⟩
   exact⟨.tuple #[.string (txt out.1),.int .i64 out.2],by simp [results,Tryz.results14,go_sem,E.out],rfl,gW _ B6.out (Nat.le_trans B5.size HD.out)⟩
 ·have E:Hid (out=([],r)):=by
   refine aB ?_
   rw [<- HO.out]
   unfold gO
   rw [HR.out,if_pos hr0]
  have q0:(r != 0)=true:=by simpa using hr0
  have q1:(r==0)=false:=by simpa using hr0
  clear hr0
  go_wp2_with (go_at_call 11;refine(RT.out).mono ?_;rintro e w2 ⟨rfl,h2⟩;have B2:=aB (aF B1.out h2 lz9);clear h2)
  exact⟨.tuple #[.string (txt out.1),.int .i64 out.2],by simp [results,Tryz.results14,go_sem,E.out,txt],rfl,B2.out⟩
theorem tR{w:World}{t:Tr}(c f:Bool)(hta:TB w t)(hG:Glb w) :
  Calls Tryz.prog 14 #[.agg #[.int .i64 t.f.k,.int .i64 t.f.n,.int .i64 t.f.mn,.int .i64 t.f.mx,.slice t.f.rq t.f.rs.length t.f.rc,.slice t.f.kq t.f.kl t.f.kc],.agg #[.bool c,.bool f]] w fun e w'=>e=.returned (.tuple #[.string (txt (gO c f t).1),.int .i64 (gO c f t).2])/\Below w.heap.size w w':=callsIn_wide.1 (vO 4 (by decide) c f hta hG)
end
theorem lU(W:World)(lo hi:Int):ArgR (W.alloc (.cells #[.int .i64 lo,.int .i64 hi] 48)) (.slice (some ⟨W.heap.size,0,none⟩) 1 1) [(lo,hi)]:=by
 refine .inr ⟨W.heap.size,0,1,rfl,by simp,by simp,by unfold maxLen;omega,fun i r hr=>?_⟩
 match i,hr with
 | 0,hr=>
  simp at hr
  subst hr
  exact⟨aA (aE W _) rfl,aA (aE W _) rfl⟩
 | i+1,hr=>simp at hr
theorem lN{c:Bool}{a b:Int}(h:a<=b)(h0:0<=a)(h1:b < 128):IsC [(a,b)] (fun x=>In [(a,b)] x/\aI c x):=by
 refine⟨⟨fun r hr=>by simp at hr;subst hr;exact h,by simp⟩,fun r hr=>by simp at hr;subst hr;simp only;omega,fun x=>⟨fun q=>⟨q,?_⟩,fun q=>q.1⟩⟩
 rw [cL] at q
 simp only at q
 unfold aI top
 cases c <;> simp <;> omega
def exT(s:Nat):Tr:=.mk ⟨5,0,0,0,[],none,0,some ⟨s+2,0,none⟩,2,2⟩ [.mk ⟨3,0,0,0,[],none,0,none,0,0⟩ [],.mk ⟨9,0,2,5,[],none,0,some ⟨s+1,0,none⟩,1,1⟩ [.mk ⟨2,0,0,0,[(97,97)],some ⟨s,0,none⟩,1,none,0,0⟩ []]]
def exE:Er:=.mk 5 0 0 0 [] [.mk 3 0 0 0 [] [],.mk 9 0 2 5 [] [.mk 2 0 0 0 [(97,97)] []]]
theorem wG(s:Nat):er (exT s)=exE:=by simp [exT,exE,er,ers]
def exP:Ps:=.row [.lf 3 0 [],.rep 2 5 (.lf 2 0 [(97,97)])]
theorem mZ(s:Nat):aW false false 0 0 (pp [] (exT s))=0:=by
 refine sG (x:=exP) (by rw [wG];simp [exE,exP,te,tes]) ?_ ?_ ?_ (by simp [exP,Ps.dp,iA]) (by simp [exP,Ps.sz,jD])
 ·simp only [exP,wf,wfs,yG]
  refine⟨by simp,fun i x hx=>?_,by simp [kR]⟩
  match i,hx with
  | 0,hx=>simp at hx;subst hx;simp [mV,Ps.kd]
  | 1,hx=>simp at hx;subst hx;simp [mV,Ps.kd]
  | i+2,hx=>simp at hx
 ·intro q hq
  simp only [exP,pfl,kB,List.append_nil,List.cons_append,List.nil_append,List.mem_cons,List.not_mem_nil,or_false] at hq
  rcases hq with rfl | rfl | rfl
  ·exact⟨fun q=>absurd q (by decide),fun _=>rfl,fun q=>absurd q (by decide),fun _=>rfl⟩
  ·exact⟨fun _=>⟨⟨lN (by decide) (by decide) (by decide),fun q=>by cases q⟩,rfl⟩,fun q=>absurd rfl q,fun q=>absurd q (by decide),fun _=>rfl⟩
  ·rfl
 ·simp only [exP,pfl,kB,List.append_nil,List.cons_append,List.nil_append]
  refine⟨fun q=>absurd q (by decide),⟨fun q=>absurd q (by decide),rfl⟩⟩
theorem wI:dM false [(97,97)]=[97]:=by kernel_rfl
theorem tL:prE false exE=[94,97,92,123,50,44,53,92,125]:=by
 simp [exE,prE,bZ,eJ,wI,cX,fR]
theorem yJ:fK (txt [97])=[97]:=by decide +kernel
theorem xY(s:Nat):(pp [] (exT s)).map (fun x=>(x.1.length,x.2.f.k,x.2.f.n,x.2.f.mn,x.2.f.mx,x.2.f.rs))=[(0,5,0,0,0,[]),(1,3,0,0,0,[]),(1,9,0,2,5,[]),(2,2,0,0,0,[(97,97)])]:=by
 simp [exT,dP,bJ,bI,Tr.f,Tr.ks]
theorem tQ(c:Bool)(L:List El):dK c L=(L.map (fun x=>(x.1.length,x.2.f.k,x.2.f.n,x.2.f.mn,x.2.f.mx,x.2.f.rs))).flatMap fun y=>List.replicate (2 * y.1) 32 ++ kE c y.2.1 y.2.2.1 y.2.2.2.1 y.2.2.2.2.1 y.2.2.2.2.2 ++ [10]:=by
 unfold dK iL
 rw [List.flatMap_map]
theorem vJ(s:Nat):dK false (pp [] (exT s))=[99,97,116,10,32,32,98,101,103,105,110,10,32,32,114,101,112,32,50,32,53,10,32,32,32,32,115,101,116,32,97,10]:=by
 rw [tQ,xY]
 simp [kE,wI,yJ,fR,List.replicate]
theorem tM(s:Nat):iJ false false (exT s)=([94,97,92,123,50,44,53,92,125],0):=by
 unfold iJ
 rw [if_neg (by rw [mZ];simp),wG,tL,if_neg (by decide)]
theorem tN(s:Nat):gO false false (exT s)=([99,97,116,10,32,32,98,101,103,105,110,10,32,32,114,101,112,32,50,32,53,10,32,32,32,32,115,101,116,32,97,10],0):=by
 unfold gO
 rw [if_neg (by rw [mZ];simp),vJ]
theorem xX{W:World}{s:Nat}(h0:W.heap[s]?=some (.cells #[.int .i64 97,.int .i64 97] 48 (0,0)))(h1:W.heap[s+1]?=some (.cells #[.int .i64 2,.int .i64 0,.int .i64 0,.int .i64 0,.slice (some ⟨s,0,none⟩) 1 1,.slice none 0 0] 25 (0,0)))
  (h2:W.heap[s+2]?=some (.cells #[.int .i64 3,.int .i64 0,.int .i64 0,.int .i64 0,.slice none 0 0,.slice none 0 0,.int .i64 9,.int .i64 0,.int .i64 2,.int .i64 5,.slice none 0 0,.slice (some ⟨s+1,0,none⟩) 1 1] 25 (0,0))):TB W (exT s):=by
 have r0:ArgR W (.slice none 0 0) []:=.inl ⟨none,0,rfl,rfl,fun _=>rfl⟩
 have k0:ArgK W (.slice none 0 0) []:=.inl ⟨none,0,rfl,rfl,fun _=>rfl⟩
 have f0:Fit []:=fun r hr=>by cases hr
 have leaf:∀ (k n mn mx:Int),NB W (.mk ⟨k,n,mn,mx,[],none,0,none,0,0⟩ []):=fun k n mn mx=>⟨r0,k0,f0,by simp [Tr.f]⟩
 have set:NB W (.mk ⟨2,0,0,0,[(97,97)],some ⟨s,0,none⟩,1,none,0,0⟩ []):=by
  refine⟨.inr ⟨s,0,1,rfl,aC h0,by simp [Tr.f],by unfold maxLen;omega,fun i r hr=>?_⟩,k0,fun r hr=>by simp [Tr.f] at hr;subst hr;simp,by simp [Tr.f]⟩
  ·match i,hr with
   | 0,hr=>
    simp [Tr.f] at hr
    subst hr
    exact⟨aA h0 rfl,aA h0 rfl⟩
   | i+1,hr=>simp [Tr.f] at hr
 have rep:NB W (.mk ⟨9,0,2,5,[],none,0,some ⟨s+1,0,none⟩,1,1⟩ [.mk ⟨2,0,0,0,[(97,97)],some ⟨s,0,none⟩,1,none,0,0⟩ []]):=by
  refine⟨r0,.inr ⟨s+1,0,1,rfl,aC h1,by simp [Tr.ks],by unfold maxLen;omega,fun i t ht=>?_⟩,f0,by simp [Tr.f]⟩
  ·match i,ht with
   | 0,ht=>
    simp [Tr.ks] at ht
    subst ht
    exact⟨aA h1 rfl,aA h1 rfl,aA h1 rfl,aA h1 rfl,aA h1 rfl,aA h1 rfl⟩
   | i+1,ht=>simp [Tr.ks] at ht
 have cat:NB W (exT s):=by
  refine⟨r0,.inr ⟨s+2,0,2,rfl,aC h2,by simp [exT,Tr.ks],by unfold maxLen;omega,fun i t ht=>?_⟩,f0,by simp [exT,Tr.f]⟩
  ·match i,ht with
   | 0,ht=>
    simp [exT,Tr.ks] at ht
    subst ht
    exact⟨aA h2 rfl,aA h2 rfl,aA h2 rfl,aA h2 rfl,aA h2 rfl,aA h2 rfl⟩
   | 1,ht=>
    simp [exT,Tr.ks] at ht
    subst ht
    exact⟨aA h2 rfl,aA h2 rfl,aA h2 rfl,aA h2 rfl,aA h2 rfl,aA h2 rfl⟩
   | i+2,ht=>simp [exT,Tr.ks] at ht
 refine(bM _).2 ⟨cat,(cF _).2 fun u hu=>?_⟩
 simp [exT,Tr.ks] at hu
 rcases hu with rfl | rfl
 ·exact(bM _).2 ⟨leaf 3 0 0 0,(cF _).2 fun u hu=>by simp [Tr.ks] at hu⟩
 ·refine(bM _).2 ⟨rep,(cF _).2 fun u hu=>?_⟩
  simp [Tr.ks] at hu
  subst hu
  exact(bM _).2 ⟨set,(cF _).2 fun u hu=>by simp [Tr.ks] at hu⟩
theorem nY(l:List UInt8):(txt l).toList=l:=by rw [Lib.toList_data];rfl
theorem yD:dM false [(93,94)]=[91,91,46,93,46,93,45,91,46,94,46,93,93]:=by kernel_rfl
theorem yC:dM false [(42,42)]=[92,42]:=by kernel_rfl
theorem yB:¬ IsC [(5,4)] (fun x=>In [(5,4)] x/\aI false x):=fun h=>by have:=h.cls.some (5,4) (by simp);simp at this
theorem lP{w:World}(hG:Glb w):Calls Tryz.prog 9 #[] w fun e w'=>e=.returned (.bool true)/\Below w.heap.size w w':=by
 have HG:=aB hG
 have CA:=aB (fun (W:World)=>(iF (w:=W.alloc (.cells #[.int .i64 93,.int .i64 94] 48)) false false (lU W 93 94) (lN (by decide) (by decide) (by decide))))
 have CB:=aB (fun (W:World)=>(iF (w:=W.alloc (.cells #[.int .i64 42,.int .i64 42] 48)) false false (lU W 42 42) (lN (by decide) (by decide) (by decide))))
 have CC:=aB (fun (W:World)=>(jN (w:=W.alloc (.cells #[.int .i64 5,.int .i64 4] 48)) false false (lU W 5 4) (fun r hr=>by simp at hr;subst hr;simp) (by simp) yB))
 rw [yD] at CA
 rw [yC] at CB
 have PN:=aB (fun (W:World) (s:Nat) (hT:TB W (exT s)) (hW:Below w.heap.size w W)=>qM false false hT (hG.kept hW))
 have DN:=aB (fun (W:World) (s:Nat) (hT:TB W (exT s)) (hW:Below w.heap.size w W)=>tR false false hT (hG.kept hW))
 simp only [tM] at PN
 simp only [tN] at DN
 clear hG
 go_enter Tryz.func9,Tryz.ntmps9
 go_upto_region 4 with first
  |(go_at_call 15;refine(CC.out _).mono ?_;rintro e w3 ⟨rfl,h3⟩;have B3:=aB (aF B2.out (h3.mono (by simp)  |> fun q=>((bz9).trans q)) lz9);clear h3)
  |(go_at_call 15;refine(CB.out _).mono ?_;rintro e w2 ⟨rfl,h2⟩;have B2:=aB (aF B1.out ((bz9).trans (h2.mono (by simp))) lz9);clear h2)
  |(go_at_call 15;refine(CA.out _).mono ?_;rintro e w1 ⟨rfl,h1⟩;have B1:=aB ((bz9).trans (h1.mono (by simp)));clear h1)
 have X0:Hid (((((w3.alloc (.cells #[.int .i64 97,.int .i64 97] 48)).alloc (.cells #[.int .i64 2,.int .i64 0,.int .i64 0,.int .i64 0,.slice (some ⟨w3.heap.size,0,none⟩) 1 1,.slice none 0 0] 25)).alloc (.cells #[.int .i64 3,.int .i64 0,.int .i64 0,.int .i64 0,.slice none 0 0,.slice none 0 0,.int .i64 9,.int .i64 0,.int .i64 2,.int .i64 5,.slice none 0 0,.slice (some ⟨w3.heap.size+1,0,none⟩) 1 1] 25)).alloc (.cells #[.int .i64 5,.int .i64 0,.int .i64 0,.int .i64 0,.slice none 0 0,.slice (some ⟨w3.heap.size+1+1,0,none⟩) 2 2] 25)).heap[w3.heap.size]?=some (.cells #[.int .i64 97,.int .i64 97] 48 (0,0))):=(Below.heap_alloc _ _ _ (by simp only [World.size_alloc];omega)).trans ((Below.heap_alloc _ _ _ (by simp only [World.size_alloc];omega)).trans ((Below.heap_alloc _ _ _ (by simp only [World.size_alloc];omega)).trans (aE w3 _)))
 have X1:Hid (((((w3.alloc (.cells #[.int .i64 97,.int .i64 97] 48)).alloc (.cells #[.int .i64 2,.int .i64 0,.int .i64 0,.int .i64 0,.slice (some ⟨w3.heap.size,0,none⟩) 1 1,.slice none 0 0] 25)).alloc (.cells #[.int .i64 3,.int .i64 0,.int .i64 0,.int .i64 0,.slice none 0 0,.slice none 0 0,.int .i64 9,.int .i64 0,.int .i64 2,.int .i64 5,.slice none 0 0,.slice (some ⟨w3.heap.size+1,0,none⟩) 1 1] 25)).alloc (.cells #[.int .i64 5,.int .i64 0,.int .i64 0,.int .i64 0,.slice none 0 0,.slice (some ⟨w3.heap.size+1+1,0,none⟩) 2 2] 25)).heap[w3.heap.size+1]?=some (.cells #[.int .i64 2,.int .i64 0,.int .i64 0,.int .i64 0,.slice (some ⟨w3.heap.size,0,none⟩) 1 1,.slice none 0 0] 25 (0,0))):=(Below.heap_alloc _ _ _ (by simp only [World.size_alloc];omega)).trans ((Below.heap_alloc _ _ _ (by simp only [World.size_alloc];omega)).trans (by have:=aE (w3.alloc (.cells #[.int .i64 97,.int .i64 97] 48)) (.cells #[.int .i64 2,.int .i64 0,.int .i64 0,.int .i64 0,.slice (some ⟨w3.heap.size,0,none⟩) 1 1,.slice none 0 0] 25);rwa [World.size_alloc] at this))
 have X2:Hid (((((w3.alloc (.cells #[.int .i64 97,.int .i64 97] 48)).alloc (.cells #[.int .i64 2,.int .i64 0,.int .i64 0,.int .i64 0,.slice (some ⟨w3.heap.size,0,none⟩) 1 1,.slice none 0 0] 25)).alloc (.cells #[.int .i64 3,.int .i64 0,.int .i64 0,.int .i64 0,.slice none 0 0,.slice none 0 0,.int .i64 9,.int .i64 0,.int .i64 2,.int .i64 5,.slice none 0 0,.slice (some ⟨w3.heap.size+1,0,none⟩) 1 1] 25)).alloc (.cells #[.int .i64 5,.int .i64 0,.int .i64 0,.int .i64 0,.slice none 0 0,.slice (some ⟨w3.heap.size+1+1,0,none⟩) 2 2] 25)).heap[w3.heap.size+2]?=some (.cells #[.int .i64 3,.int .i64 0,.int .i64 0,.int .i64 0,.slice none 0 0,.slice none 0 0,.int .i64 9,.int .i64 0,.int .i64 2,.int .i64 5,.slice none 0 0,.slice (some ⟨w3.heap.size+1,0,none⟩) 1 1] 25 (0,0))):=(Below.heap_alloc _ _ _ (by simp only [World.size_alloc];omega)).trans (by have:=aE ((w3.alloc (.cells #[.int .i64 97,.int .i64 97] 48)).alloc (.cells #[.int .i64 2,.int .i64 0,.int .i64 0,.int .i64 0,.slice (some ⟨w3.heap.size,0,none⟩) 1 1,.slice none 0 0] 25)) (.cells #[.int .i64 3,.int .i64 0,.int .i64 0,.int .i64 0,.slice none 0 0,.slice none 0 0,.int .i64 9,.int .i64 0,.int .i64 2,.int .i64 5,.slice none 0 0,.slice (some ⟨w3.heap.size+1,0,none⟩) 1 1] 25);rwa [World.size_alloc,World.size_alloc] at this)
 have X3:Hid (((((w3.alloc (.cells #[.int .i64 97,.int .i64 97] 48)).alloc (.cells #[.int .i64 2,.int .i64 0,.int .i64 0,.int .i64 0,.slice (some ⟨w3.heap.size,0,none⟩) 1 1,.slice none 0 0] 25)).alloc (.cells #[.int .i64 3,.int .i64 0,.int .i64 0,.int .i64 0,.slice none 0 0,.slice none 0 0,.int .i64 9,.int .i64 0,.int .i64 2,.int .i64 5,.slice none 0 0,.slice (some ⟨w3.heap.size+1,0,none⟩) 1 1] 25)).alloc (.cells #[.int .i64 5,.int .i64 0,.int .i64 0,.int .i64 0,.slice none 0 0,.slice (some ⟨w3.heap.size+1+1,0,none⟩) 2 2] 25)).heap[w3.heap.size+1+1+1]?=some (.cells #[.int .i64 5,.int .i64 0,.int .i64 0,.int .i64 0,.slice none 0 0,.slice (some ⟨w3.heap.size+1+1,0,none⟩) 2 2] 25 (0,0))):=(by have:=aE (((w3.alloc (.cells #[.int .i64 97,.int .i64 97] 48)).alloc (.cells #[.int .i64 2,.int .i64 0,.int .i64 0,.int .i64 0,.slice (some ⟨w3.heap.size,0,none⟩) 1 1,.slice none 0 0] 25)).alloc (.cells #[.int .i64 3,.int .i64 0,.int .i64 0,.int .i64 0,.slice none 0 0,.slice none 0 0,.int .i64 9,.int .i64 0,.int .i64 2,.int .i64 5,.slice none 0 0,.slice (some ⟨w3.heap.size+1,0,none⟩) 1 1] 25)) (.cells #[.int .i64 5,.int .i64 0,.int .i64 0,.int .i64 0,.slice none 0 0,.slice (some ⟨w3.heap.size+1+1,0,none⟩) 2 2] 25);rwa [World.size_alloc,World.size_alloc,World.size_alloc] at this)
 have B4:Hid (Below w.heap.size w ((((w3.alloc (.cells #[.int .i64 97,.int .i64 97] 48)).alloc (.cells #[.int .i64 2,.int .i64 0,.int .i64 0,.int .i64 0,.slice (some ⟨w3.heap.size,0,none⟩) 1 1,.slice none 0 0] 25)).alloc (.cells #[.int .i64 3,.int .i64 0,.int .i64 0,.int .i64 0,.slice none 0 0,.slice none 0 0,.int .i64 9,.int .i64 0,.int .i64 2,.int .i64 5,.slice none 0 0,.slice (some ⟨w3.heap.size+1,0,none⟩) 1 1] 25)).alloc (.cells #[.int .i64 5,.int .i64 0,.int .i64 0,.int .i64 0,.slice none 0 0,.slice (some ⟨w3.heap.size+1+1,0,none⟩) 2 2] 25))):=aF B3.out ((((bz9).alloc (by simp only [World.size_alloc];omega) _).alloc (by simp only [World.size_alloc];omega) _).alloc (by simp only [World.size_alloc];omega) _) lz9
 go_upto_region 5 with fail
 generalize ((((w3.alloc (.cells #[.int .i64 97,.int .i64 97] 48)).alloc (.cells #[.int .i64 2,.int .i64 0,.int .i64 0,.int .i64 0,.slice (some ⟨w3.heap.size,0,none⟩) 1 1,.slice none 0 0] 25)).alloc (.cells #[.int .i64 3,.int .i64 0,.int .i64 0,.int .i64 0,.slice none 0 0,.slice none 0 0,.int .i64 9,.int .i64 0,.int .i64 2,.int .i64 5,.slice none 0 0,.slice (some ⟨w3.heap.size+1,0,none⟩) 1 1] 25)).alloc (.cells #[.int .i64 5,.int .i64 0,.int .i64 0,.int .i64 0,.slice none 0 0,.slice (some ⟨w3.heap.size+1+1,0,none⟩) 2 2] 25))=w4 at X0 X1 X2 X3 B4 ⊢
 have TE:=aB (xX X0.out X1.out X2.out)
 have a0:=aA X3.out (i:=0) rfl
 have a1:=aA X3.out (i:=1) rfl
 have a2:=aA X3.out (i:=2) rfl
 have a3:=aA X3.out (i:=3) rfl
 have a4:=aA X3.out (i:=4) rfl
 have a5:=aA X3.out (i:=5) rfl
 have P4:=aB (PN.out w4 w3.heap.size TE.out B4.out)
 have TL:=nY
 go_wp2_with first
  |(go_at_call 14;refine(D5.out).mono ?_;rintro e w6 ⟨rfl,h6⟩;have B6:=aB (aF B5.out h6 lz9);clear h6)
  |(go_at_call 10;refine(P4.out).mono ?_;rintro e w5 ⟨rfl,h5⟩;have B5:=aB (aF B4.out h5 lz9);have Y3:Hid _:=(h5.block _ (aC X3.out)).trans X3.out;have b0:=aA Y3.out (i:=0) rfl;have b1:=aA Y3.out (i:=1) rfl;have b2:=aA Y3.out (i:=2) rfl;have b3:=aA Y3.out (i:=3) rfl;have b4:=aA Y3.out (i:=4) rfl;have b5:=aA Y3.out (i:=5) rfl;have D5:=aB (DN.out w5 w3.heap.size (TE.out.kept h5) B5.out);clear h5)
 all_goals go_ret
 all_goals exact⟨rfl,B6.out⟩
structure LQ(w:World)(m:Md)(v:Value)(L:List (Int × Int))(X:Nat)(W:World):Prop where
 md:W.heap[w.heap.size]?=some (.cells #[.bool m.c,.bool m.f] 27 (0,0))
 bel:Below w.heap.size w W
 arg:ArgR W v L
 cop:XAt W X L
theorem LQ.kept{w:World}{m:Md}{v:Value}{L:List (Int × Int)}{X:Nat}{W W':World}(h:LQ w m v L X W)(hb:Below W.heap.size W W'):LQ w m v L X W':=
 ⟨(hb.block _ (aC h.md)).trans h.md,aF h.bel hb lz9,h.arg.kept hb,h.cop.kept hb⟩
theorem LQ.drew{w:World}{m:Md}{v:Value}{L:List (Int × Int)}{X:Nat}{W:World}(h:LQ w m v L X W):LQ w m v L X W.drew:=h.kept (Below.refl _ _).drew
theorem nI(m:Md){L:List (Int × Int)}(hF:Fit L)(hl:L.length<=1048576):∃ (t:List UInt8) (e:Int),
  (∀ (W:World) (v:Value),ArgR W v L->Calls Tryz.prog 15 #[v,.agg #[.bool m.c,.bool m.f]] W fun r w'=>r=.returned (.tuple #[.string (txt t),.int .i64 e])/\Below W.heap.size W w') /\
  (∀ (W:World) (v:Value),ArgR W v L->Calls Tryz.prog 21 #[v,.agg #[.bool m.c,.bool m.f]] W fun r w'=>r=.returned (.tuple #[.string (txt t),.int .i64 e])/\Below W.heap.size W w'):=by
 by_cases hS:IsC L (fun x=>In L x/\aI m.c x)
 ·exact⟨dM m.c L,0,fun W v h=>iF m.c m.f h hS,fun W v h=>qK m h hF (by omega) hS⟩
 ·exact⟨[],50,fun W v h=>jN m.c m.f h hF (by omega) hS,fun W v h=>oH m h hF (by omega) hS⟩
theorem mS{w:World}{v:Value}{L:List (Int × Int)}(m:Md)(h:ArgR w v L)(hF:Fit L)(hl:L.length<=1048576)(hG:Glb w) :
  Calls Tryz.prog 8 #[v,.agg #[.bool m.c,.bool m.f]] w fun e w'=>e=.returned (.bool true)/\Below w.heap.size w w':=by
 obtain⟨tx,er0,hC,hD⟩:=nI m hF hl
 have PC:=aB hC
 have DC:=aB hD
 have EX:=aB (fun W (hW:Below w.heap.size w W)=>lP (hG.kept hW))
 have C1:=aB (CM.new m h)
 obtain⟨q,cap,rfl,-,-,-⟩:=h.slice
 have m0:=mQ (L.length+1) (by omega)
 have hnew:∀ W:World,(W.alloc (.cells (madeCells #[.int .i64 0,.int .i64 0] ((L.length+1) * 2)) 48)).heap[W.heap.size]?=some (.cells (madeCells #[.int .i64 0,.int .i64 0] ((L.length+1) * 2)) 48 (0,0)):=fun W=>aE W _
 obtain⟨Z,hZ⟩:∃ Z,Z=(madeCells #[.int .i64 0,.int .i64 0] ((L.length+1) * 2)).toList.drop (aG L).length:=⟨_,rfl⟩
 have HZ:Hid (Z.length=2/\(madeCells #[.int .i64 0,.int .i64 0] ((L.length+1) * 2)).toList.drop (aG L).length=Z/\(aG L).length<=(madeCells #[.int .i64 0,.int .i64 0] ((L.length+1) * 2)).size):=⟨by rw [hZ,List.length_drop,Array.length_toList,size_madeCells,aP];omega,hZ.symm,by rw [size_madeCells,aP];omega⟩
 have HN:Hid _:=hnew
 have wn:IntKind.wrap .i64 ((L.length:Int)+1)=(L.length:Int)+1:=by rw [IntKind.wrap_i64];omega
 have m1:∀ W:World,(Instr.makeSlice 22 (.int .i64 ((L.length:Int)+1)) (.int .i64 ((L.length:Int)+1))).run Tryz.prog W=_:=m0
 clear hZ hnew h m0 hC hD hG
 generalize madeCells #[.int .i64 0,.int .i64 0] ((L.length+1) * 2)=M at m1 HZ HN
 have i0:(0:Int)<=(L.length:Int):=by omega
 have i1:(L.length:Int) < (L.length:Int)+1:=by omega
 have i2:(L.length:Int)<=(L.length:Int)+1:=by omega
 have b7:((-7:Int)==-7)=true:=rfl
 have b8:((7:Int)==7)=true:=rfl
 go_enter Tryz.func8,Tryz.ntmps8
 go_upto_region 1 with fail
 generalize (w.alloc (.cells #[.bool m.c,.bool m.f] 27))=w1 at C1 ⊢
 go_upto_region 2 with (go_at_call 9;refine(EX.out _ C1.out.bel).mono ?_;rintro e w2 ⟨rfl,h2⟩;have C2:=aB (C1.out.kept h2);clear h2)
 have B1:Hid (Below w2.heap.size w2 (w2.alloc (.cells M 48))):=bz9
 go_upto_region 4 with (refine iN rfl _ _ 22 22 rfl 48 aO rS w2.heap.size (L.length+1) (L.length+1) q L.length cap rfl rfl _ _ (HN.out w2) (aG L) (aP L) (by omega) (C2.out.arg.kept B1.out).src HZ.out.2.2 (eG L) ?_;rw [HZ.out.2.1];intro w4 hg4 hb4;have V4:Hid (Below w2.heap.size w2 w4):=B1.out.trans hb4;have G4:=aB hg4.out;clear hg4 hb4)
 obtain⟨⟨y1,c1⟩,⟨y2,c2⟩,f4⟩:=oR G4.out HZ.out.1
 have hlt:w2.heap.size < w4.heap.size:=aC G4.out
 have K5:Hid (LQ w m (.slice q L.length cap) L w2.heap.size ((w4.setCell ⟨w2.heap.size,L.length * 2,none⟩ (.int .i64 (-7))).setCell ⟨w2.heap.size,L.length * 2+1,none⟩ (.int .i64 7))):=by
  have B5:Below w2.heap.size w2 ((w4.setCell ⟨w2.heap.size,L.length * 2,none⟩ (.int .i64 (-7))).setCell ⟨w2.heap.size,L.length * 2+1,none⟩ (.int .i64 7)):=(V4.out.setCell (p:=⟨w2.heap.size,L.length * 2,none⟩) lz9 _).setCell (p:=⟨w2.heap.size,L.length * 2+1,none⟩) lz9 _
  have C5:=C2.out.kept B5
  exact⟨C5.md,C5.bel,C5.arg,qV G4.out HZ.out.1⟩
 go_upto_region 5 with fail
 clear c1 c2 f4 m1
 generalize ((w4.setCell ⟨w2.heap.size,L.length * 2,none⟩ (.int .i64 (-7))).setCell ⟨w2.heap.size,L.length * 2+1,none⟩ (.int .i64 7))=w5 at K5 ⊢
 generalize w2.heap.size=X at K5 ⊢
 have a0:=aA K5.out.md (i:=0) rfl
 have a1:=aA K5.out.md (i:=1) rfl
 have AX:Hid (∀ W,LQ w m (.slice q L.length cap) L X W->ArgR W (.slice (some ⟨X,0,none⟩) L.length (L.length+1)) L):=fun W hW=>hW.cop.arg (by unfold maxLen;omega)
 go_region_with (go_at_call 15;refine(PC.out _ _ (AX.out _ K5.out.drew)).mono ?_;rintro e w6 ⟨rfl,h6⟩;have K6:=aB (K5.out.drew.kept h6);clear h6;have d0:=aA K6.out.md (i:=0) rfl;have d1:=aA K6.out.md (i:=1) rfl)
 all_goals clear a0 a1
 all_goals go_wp2_with first
  |(go_at_call 21;refine(DC.out _ _ K6.out.arg).mono ?_;rintro e w7 ⟨rfl,h7⟩;have K7:=aB (K6.out.kept h7);clear h7)
  |(go_at_call 22;refine(lV (AX.out _ K7.out) K7.out.arg).mono ?_;rw [decide_eq_true rfl];rintro e w8 ⟨rfl,h8⟩;have K8:=aB (K7.out.kept h8);have hm:=K8.out.cop.get (i:=L.length) (r:=(-7,7)) (by simp);have m1:=hm.1;have m2:=hm.2;rw [Nat.mul_comm] at m1 m2;clear h8 hm;have hX:=aC K8.out.cop)
 all_goals (
  go_ret
  exact⟨by simp,K8.out.bel⟩)
section
open Go Go.ChangeShapes Go.WideShapes Go.ChangeAt Go.RowKit
theorem nL:Tryz.prog.cellsOf 48=2:=by kernel_rfl
theorem mN{H:Type}{enc:TypeId × Value->H}{W:World}{base:Nat}{v:Value}{d:DataW H}{p:List MemPlace}(hok:Value.okWide Tryz.prog W .any base 22 v)
  (h:DataW.Trod enc Tryz.prog W 0 (fun _=>true) true 22 v d p):∃ rs:List (Int × Int),ArgR W v rs/\Fit rs/\(rs.length=0\/∃ es sp,d=.slice es sp/\es.length=rs.length):=by
 obtain⟨a',len',cap',rfl⟩:=okWide_slice Tryz.underlying22 hok
 obtain⟨fuel,hf⟩:=h
 rcases Deep.open_slice_pairs Tryz.underlying22 Tryz.underlying48 nL rfl rfl kX kX hf with⟨h1,h2⟩ | ⟨a,len,cap,m,n,V0,V1,D0,D1,P0,P1,h1,_,hlc,hcap,hm,h2,hx⟩
 ·have h1':Value.slice a' len' cap'=.slice none 0 0:=by simpa [Value.cells] using h1
  cases h1'
  exact⟨[],.inl ⟨none,0,rfl,rfl,fun _=>rfl⟩,dU,.inl rfl⟩
 ·have h1':Value.slice a' len' cap'=.slice (some a) len cap:=by simpa [Value.cells] using h1
  cases h1'
  rw [if_pos rfl] at hm
  subst hm
  by_cases hc:m=0
  ·have hl:len'=0:=by omega
   subst hc hl
   exact⟨[],.inl ⟨some a,0,rfl,rfl,fun q=>(by cases q)⟩,dU,.inl rfl⟩
  ·have hp:∀ i,i < m->∃ q:Int × Int,V0 i=.int .i64 q.1/\V1 i=.int .i64 q.2/\(Lit.int .i64 q.1).wf=true/\(Lit.int .i64 q.2).wf=true:=fun i hi=>by
    obtain⟨_,_,g0,g1⟩:=hx i hi
    obtain⟨x0,e0,_,w0⟩:=DataW.trod_int Tryz.underlying3 g0
    obtain⟨x1,e1,_,w1⟩:=DataW.trod_int Tryz.underlying3 g1
    exact⟨(x0,x1),by simpa using e0,by simpa using e1,w0,w1⟩
   obtain⟨q,hq⟩:=Deep.choose_lt hp
   obtain⟨b,off,spot⟩:=a
   have c0:=(hx 0 (by omega)).1
   have hs:spot=none:=by
    cases spot with
    | none=>rfl
    | some k=>
     exfalso
     unfold Addr.add World.cell? at c0
     simp at c0
     split at c0 <;> simp_all
   subst hs
   have hadd:∀ j,(⟨b,off,none⟩:Addr).add j=⟨b,off+j,none⟩:=fun j=>by unfold Addr.add;split <;> simp_all
   have hb:b < W.heap.size:=by
    rw [hadd] at c0
    rcases Nat.lt_or_ge b W.heap.size with h | h
    ·exact h
    ·have:W.heap[b]?=none:=Array.getElem?_eq_none h
     simp [World.cell?,this] at c0
   refine⟨(List.range len').map q,.inr ⟨b,off,m,by simp,hb,by simpa using hlc,hcap,fun i r hi'=>?_⟩,fun r hr=>?_,.inr ⟨_,_,(Prod.mk.inj h2).1,by simp⟩⟩
   ·have hil:i < len':=by have:=(List.getElem?_eq_some_iff.1 hi').1;simpa using this
    have hqi:q i=r:=by simpa [hil] using hi'
    obtain⟨k0,k1,_,_⟩:=hx i (by omega)
    rw [hadd,Nat.mul_comm] at k0
    rw [hadd,Nat.mul_comm,<- Nat.add_assoc] at k1
    obtain⟨r0,r1,_,_⟩:=hq i (by omega)
    rw [hqi] at r0 r1
    exact⟨by rw [k0,r0],by rw [k1,r1]⟩
   ·obtain⟨i,hi,rfl⟩:=List.mem_map.1 hr
    have hil:i < len':=List.mem_range.1 hi
    obtain⟨_,_,w0,w1⟩:=hq i (by omega)
    exact⟨lY w0,lY w1⟩
theorem uC{H:Type}(d:DataW H):1<=Rows.uptoBulk d:=by
 cases d with
 | lit l=>cases l <;> simp [Rows.uptoBulk]
 | nil=>simp [Rows.uptoBulk]
 | ptr d=>simp [Rows.uptoBulk]
 | slice elems spare=>simp [Rows.uptoBulk]
 | agg parts=>simp [Rows.uptoBulk]
 | iface t d=>simp [Rows.uptoBulk]
 | map entries=>simp [Rows.uptoBulk]
 | held h=>simp [Rows.uptoBulk]
theorem rC{H:Type}{d:DataW H}{l:List (DataW H)}(h:d∈l):Rows.uptoBulk d<=Rows.uptoBulkAll l:=by
 induction l with
 | nil=>cases h
 | cons x r ih=>
  simp only [Rows.uptoBulkAll]
  cases List.mem_cons.1 h with
  | inl e=>subst e;omega
  | inr e=>have:=ih e;omega
theorem uD{H:Type}(l:List (DataW H)):l.length<=Rows.uptoBulkAll l:=by
 induction l with
 | nil=>simp [Rows.uptoBulkAll]
 | cons x r ih=>have:=uC x;simp only [Rows.uptoBulkAll,List.length_cons];omega
theorem vS{H:Type}{d:DataW H}{l:List (DataW H)}(hk:Rows.uptoSmall H l=true)(h:d∈l):Rows.uptoBulk d<=1048576:=Nat.le_trans (rC h) (of_decide_eq_true hk)
theorem nO{H:Type}{d:DataW H}{rs:List (Int × Int)}{l:List (DataW H)}(hk:Rows.uptoSmall H l=true)(h:d∈l)(hz:rs.length=0\/∃ es sp,d=.slice es sp/\es.length=rs.length):rs.length<=1048576:=by
 have:=vS hk h
 rcases hz with e | ⟨es,sp,rfl,he⟩
 ·omega
 ·have h1:=uD es
  simp only [Rows.uptoBulk] at this
  omega
end
end Go.Proofs.YticfnglebbakkaaGreatDoor
