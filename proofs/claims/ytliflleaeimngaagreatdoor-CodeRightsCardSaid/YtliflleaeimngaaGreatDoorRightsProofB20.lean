/-
  Parts of the proof.
-/
import Derived.Test.YtliflleaeimngaaGreatDoorRightsProofA0
import Derived.Test.YtliflleaeimngaaGreatDoorRightsProofB19
import Derived.Deep.LoopGhost
import Derived.Test.YtliflleaeimngaaGreatDoorRightsProofB17
import Derived.Lib.AppendIntMem
import Derived.Test.YtliflleaeimngaaGreatDoorRightsProofB3
import Derived.Deep.RegionWith
import Derived.Deep.RegionLaw
import Derived.Deep.DeepCutAuto
set_option linter.unusedSimpArgs false
set_option maxRecDepth 100000
set_option maxHeartbeats 8000000
namespace Go.Proofs.YtliflleaeimngaaGreatDoor
open Go Go.RowKit
section
attribute [local go_sem] Oper.semAt_some
theorem aA3:∀ j,j<=4->(hd0++(smL.take j).flatMap lnI).length<=100:=by decide +kernel
theorem iF:∀ i∈smL,wds i≠[]/\(wds i).length<=100/\(Lib.join (wds i) [32]).length<=100:=by decide +kernel
theorem tx4:hd0++(smL.take 4).flatMap lnI=tx0:=by kernel_rfl
theorem aE2{j:Nat}(h:¬ j<4)(hj:j<=4):hd0++(smL.take j).flatMap lnI=tx0:=by
 have e:j=4:=by omega
 rw [e]
 exact tx4
theorem nF{w:World}{p:Pg}(h:PgI w p)(hT:z1_Tab w)(hL:p.L=smL)(hg:p.g=0)(hk:p.k=0)(hf:p.f=false) :
  Calls Tryz.prog 10 #[.agg #[.slice p.q p.L.length p.c,.int .i64 p.g,.int .i64 p.k,.bool p.f]] w fun e w'=>e=.returned (.tuple #[.string (txt tx0),.int .i64 0])/\wBl w w':=by
 obtain⟨pq,pL,pc,pg,pk,pf⟩:=p
 simp only at hL hg hk hf
 subst hL hg hk hf
 show Calls Tryz.prog 10 #[.agg #[.slice pq 4 pc,.int .i64 0,.int .i64 0,.bool false]] w _
 have B1:Hid (wBl w (w.alloc (.cells #[.slice pq 4 pc,.int .i64 0,.int .i64 0,.bool false] 24))):=bz9
 have X1:Hid ((w.alloc (.cells #[.slice pq 4 pc,.int .i64 0,.int .i64 0,.bool false] 24)).heap[w.heap.size]?=some (.cells #[.slice pq 4 pc,.int .i64 0,.int .i64 0,.bool false] 24 (0,0))):=aE w _
 have HC:Hid (Calls Tryz.prog 9 #[.agg #[.slice pq 4 pc,.int .i64 0,.int .i64 0,.bool false]] (w.alloc (.cells #[.slice pq 4 pc,.int .i64 0,.int .i64 0,.bool false] 24)) (RtP ⟨pq,smL,pc,0,0,false⟩ (w.alloc (.cells #[.slice pq 4 pc,.int .i64 0,.int .i64 0,.bool false] 24)))):=eI (h.kept B1.o)
 have H:=aD h
 have HT:=aD hT
 unfold RtP at HC
 rw [fV] at HC
 clear h hT
 go_enter Tryz.func10,Tryz.ntmps10
 go_upto_region 1 with fail
 generalize (w.alloc (.cells #[.slice pq 4 pc,.int .i64 0,.int .i64 0,.bool false] 24))=w1 at B1 X1 HC ⊢
 have l1:=aC X1.o
 have p0:w1.cell? ⟨w.heap.size,0,none⟩=some (.slice pq 4 pc):=aA X1.o (i:=0) rfl
 have p1:w1.cell? ⟨w.heap.size,1,none⟩=some (.int .i64 0):=aA X1.o (i:=1) rfl
 have p2:w1.cell? ⟨w.heap.size,2,none⟩=some (.int .i64 0):=aA X1.o (i:=2) rfl
 have p3:w1.cell? ⟨w.heap.size,3,none⟩=some (.bool false):=aA X1.o (i:=3) rfl
 go_upto_region 5 with (go_at_call 9;(with_reducible refine(HC.o).mono ?_);rintro e w2 ⟨rfl,h2⟩;have B2:=aD (aF B1.o h2 lz9);have X2:=aD ((h2.block _ l1).trans X1.o);clear h2)
 clear p0 p1 p2 p3
 have l2:=aC X2.o
 have L3:Hid (BL 67 w2.heap.size (w2.alloc (.cells #[.pointer none,.slice none 0 0] 67)) w2.heap.size [] []):=⟨_,_,aE w2 _,.inl rfl,j8 _ _ _ _,fun _=>rfl,j9 _⟩
 have B3:Hid (wBl w (w2.alloc (.cells #[.pointer none,.slice none 0 0] 67))):=aF B2.o (bz9) lz9
 have X3:Hid ((w2.alloc (.cells #[.pointer none,.slice none 0 0] 67)).heap[w.heap.size]?=some (.cells #[.slice pq 4 pc,.int .i64 0,.int .i64 0,.bool false] 24 (0,0))):=(Below.heap_alloc _ _ _ l2).trans X2.o
 have s3:(w2.alloc (.cells #[.pointer none,.slice none 0 0] 67)).heap.size=w2.heap.size+1:=by simp
 generalize (w2.alloc (.cells #[.pointer none,.slice none 0 0] 67))=w3 at B3 X3 L3 s3 ⊢
 have p0:w3.cell? ⟨w.heap.size,0,none⟩=some (.slice pq 4 pc):=aA X3.o (i:=0) rfl
 have p1:w3.cell? ⟨w.heap.size,1,none⟩=some (.int .i64 0):=aA X3.o (i:=1) rfl
 have p2:w3.cell? ⟨w.heap.size,2,none⟩=some (.int .i64 0):=aA X3.o (i:=2) rfl
 have p3:w3.cell? ⟨w.heap.size,3,none⟩=some (.bool false):=aA X3.o (i:=3) rfl
 go_upto_region 6 with first
  |(go_at_call 26;(with_reducible refine(aG9 pq 4 pc).mono ?_);rintro e w4 ⟨v4,rfl,h41,h42⟩;obtain⟨g4,c4,rfl,-⟩:=SR.split h41 (by simp);have L4:=aD (L3.o.keptB h42);have B4:=aD h42;have AL:=aD (jW (n:=3) (r:=[112,114,111,103,114,97,109,32,48,32,48]) L4.o h41 rfl (by simp) rfl (by decide) (by decide) (by have:=h42.size;omega));clear h41 h42)
  |(go_at_call 25;(with_reducible refine(AL.o).mono ?_);rintro e w5 ⟨rfl,h51,h52,h53⟩;have L5:=aD h51;have B5:=aD h52;clear h51 h52 h53)
 have B6:Hid (Below w2.heap.size w3 w5):=aD ((B4.o.mono (by omega)).trans B5.o)
 have X6:=aD ((B6.o.block _ l2).trans X3.o)
 clear p0 p1 p2 p3 B4 B5 L4 AL
 have p0:w5.cell? ⟨w.heap.size,0,none⟩=some (.slice pq 4 pc):=aA X6.o (i:=0) rfl
 go_wp2
 have LL:Hid (BL 67 w2.heap.size w5 w2.heap.size [] hd0):=L5.o
 have BA:Hid (wBl w w5):=aD (B3.o.trans (B6.o.mono (by have:=B2.o.size;omega)))
 have SL:Hid (smL.length=4):=rfl
 clear p0 L5
 go_loopw [23] (fun i wr=>∃ j:Nat,j<=4/\i=.int .i64 (j:Int)/\BL 67 w2.heap.size wr w2.heap.size [] (hd0++(smL.take j).flatMap lnI)/\Below w2.heap.size w5 wr) (fun i _=>4-(intOf i).toNat)
 case atStart=>exact⟨0,by omega,rfl,by rw [List.take_zero,List.flatMap_nil,o5];exact LL.o,Below.refl _ _⟩
 case round=>
  obtain⟨j,hj,rfl,hbl,hbe⟩:=hrel
  have L7:=aD hbl
  have B7:=aD hbe
  have BW:Hid (wBl w wr):=aD (BA.o.trans (hbe.mono (by have:=B2.o.size;omega)))
  have sz:w2.heap.size+1<=wr.heap.size:=by have h1:=B6.o.size;have h2:=hbe.size;omega
  clear hbl hbe
  by_cases hjl:j<4
  ·have i0:(j:Int)<4:=by omega
   obtain⟨i,hi⟩:∃ i,smL[j]?=some i:=⟨_,i8 (by have:=SL.o;omega)⟩
   obtain⟨g1,o1,hq1,hl1,c0,c1,c2,c3,c4,c5,c6,c7,c8,c9⟩:=(H.o.kept BW.o).li.ten hi
   simp only at hq1
   have hm:=n6 hi
   have TK:Hid (hd0++(smL.take (j+1)).flatMap lnI=hd0++(smL.take j).flatMap lnI++Lib.join (wds i) [32]++[10]):=aD (by rw [n5,hi,List.flatMap_append];simp [lnI])
   have PL:=aD (aA3 j (by omega))
   obtain⟨wd1,wd2,wd3⟩:=iF i hm
   have WD:=aD (And.intro wd1 (And.intro wd2 wd3))
   have BX:wBl wr (wr.alloc (.cells #[.int .i64 i.op,.int .i64 i.x,.int .i64 i.y,.int .i64 i.n,.int .i64 i.mn,.int .i64 i.mx,.int .u64 (aB i.s 0),.int .u64 (aB i.s 1),.int .u64 (aB i.s 2),.int .u64 (aB i.s 3)] 54)):=bz9
   have IW:=aD (yK ((HT.o.below BW.o).below BX) hm)
   have L8:=aD (L7.o.keptB BX)
   clear wd1 wd2 wd3 hm BX
   rw [hq1]
   clear hi
   go_wp2_with first
    |(go_at_call 27;(with_reducible refine(IW.o).mono ?_);rintro e w6 ⟨v6,rfl,h61,h62⟩;obtain⟨g6,c6',rfl,-⟩:=SR.split h61 WD.o.1;have L9:=aD (L8.o.keptB h62);have B9:Hid (wBl wr w6):=aD (aF (bz9) h62 lz9);have AL:=aD (jW L9.o h61 rfl WD.o.1 rfl (by have:=PL.o;have:=WD.o.2.2;omega) (by have:=WD.o.2.1;omega) (by have:=B9.o.size;omega));clear h61 h62)
    |(go_at_call 25;(with_reducible refine(AL.o).mono ?_);rintro e w7 ⟨rfl,h71,h72,h73⟩;have LA:=aD h71;have BB:=aD h72;clear h71 h72 h73)
   go_roundw
   case rel=>exact⟨j+1,by omega,by go_num,by rw [TK.o];exact LA.o,B7.o.trans ((B9.o.mono (by omega)).trans BB.o)⟩
   case measure=>simp only [intOf];omega
  ·have i0:¬ (j:Int)<4:=by omega
   have TX:Hid (BL 67 w2.heap.size wr w2.heap.size [] tx0):=aD (by have h1:=L7.o;rw [aE2 hjl hj] at h1;exact h1)
   have ST:Hid (Calls Tryz.prog 28 #[.pointer (some ⟨w2.heap.size,0,none⟩)] wr fun e w'=>e=.returned (.string (txt tx0))/\Below w2.heap.size wr w'/\Oth w2.heap.size wr w'):=lP (pre:=[]) (l:=tx0) TX.o
   go_wp2_with (go_at_call 28;(with_reducible refine(ST.o).mono ?_);rintro e w8 ⟨rfl,h8,-⟩;have B8:=aD h8;clear h8)
   go_ret2
   exact⟨rfl,BW.o.trans (B8.o.mono (by have:=B2.o.size;omega))⟩
end
section
attribute [local go_sem] Oper.semAt_some
def tsL(k:Nat):List UInt8:=(smL.drop k).flatMap lnI
theorem aE6:cL 10 (tsL 0)=(Lib.join (wds ⟨2,1,3,0,0,0,0#256⟩) [32],tsL 1,true):=by kernel_rfl
theorem aE5:cL 10 (tsL 1)=(Lib.join (wds ⟨1,0,0,0,0,0,aS⟩) [32],tsL 2,true):=by kernel_rfl
theorem aE4:cL 10 (tsL 2)=(Lib.join (wds ⟨3,0,0,0,0,0,0#256⟩) [32],tsL 3,true):=by kernel_rfl
theorem aE3:cL 10 (tsL 3)=(Lib.join (wds ⟨11,0,0,0,0,0,0#256⟩) [32],tsL 4,true):=by kernel_rfl
theorem zE{k:Nat}(hk:k<4){i:Ins}(hi:smL[k]?=some i):cL 10 (tsL k)=(Lib.join (wds i) [32],tsL (k+1),true):=by
 obtain rfl | rfl | rfl | rfl:k=0\/k=1\/k=2\/k=3:=by omega
 ·obtain rfl:=j3 hi;exact aE6
 ·obtain rfl:=j3 hi;exact aE5
 ·obtain rfl:=j3 hi;exact aE4
 ·obtain rfl:=j3 hi;exact aE3
theorem zC:∀ k,k<5->(tsL k).length<=1000:=by decide +kernel
theorem xQ{w:World}{b:Nat}{a:Int}{i:Ins}(hT:z1_Tab w)(h:LB w b (Lib.join (wds i) [32]) true a)(h2:2<b)(hi:i∈smL):Calls Tryz.prog 61 #[.pointer (some ⟨b,0,none⟩)] w (InP w b a i):=by
 simp only [smL,k9,l0,or_false] at hi
 rcases hi with rfl | rfl | rfl | rfl
 ·exact aG6 hT ((show Lib.join (wds ⟨2,1,3,0,0,0,0#256⟩) [32]=[115,112,108,105,116,32,49,32,51] by kernel_rfl) ▸ h) h2
 ·exact aG7 hT ((show Lib.join (wds ⟨1,0,0,0,0,0,aS⟩) [32]=[98,121,116,101,32,54,49] by kernel_rfl) ▸ h) h2
 ·exact aG5 hT ((show Lib.join (wds ⟨3,0,0,0,0,0,0#256⟩) [32]=[106,117,109,112,32,48] by kernel_rfl) ▸ h) h2
 ·exact aB3 hT ((show Lib.join (wds ⟨11,0,0,0,0,0,0#256⟩) [32]=[109,97,116,99,104] by kernel_rfl) ▸ h) h2
def bC(L:List Ins):List Value:=L.flatMap inC
theorem cY(L:List Ins):(bC L).length=L.length*10:=by
 induction L with
 | nil=>rfl
 | cons x L ih=>simp only [bC,List.flatMap_cons,j2,p8] at ih ⊢;rw [ih,dJ];omega
theorem fI(L M:List Ins):bC (L++M)=bC L++bC M:=by simp [bC]
theorem iR{L:List Ins}{j:Nat}{i:Ins}(h:L[j]?=some i)(m:Nat)(v:Value)(hm:(inC i)[m]?=some v):(bC L)[j*10+m]?=some v:=by
 induction L generalizing j with
 | nil=>cases h
 | cons x L ih=>
  have hm10:m<10:=by have:=(g7.1 hm).1;rwa [dJ] at this
  cases j with
  | zero=>
   cases h
   show (inC i++bC L)[0*10+m]?=some v
   rw [j7 (by rw [dJ];omega),Nat.zero_mul,Nat.zero_add]
   exact hm
  | succ j=>
   show (inC x++bC L)[(j+1)*10+m]?=some v
   rw [o3 (by rw [dJ];omega),dJ,show (j+1)*10+m-10=j*10+m by omega]
   exact ih h
theorem LI.of_row{w:World}{base c n:Nat}{q:Option Addr}{L:List Ins}(h:w.ownsRow base 54 10 (.slice q n c) n (bC L)):LI w q L:=fun j i hi=>by
 rcases h.2 with⟨e,hn⟩ | ⟨g,cap,cur,e,h1,h2,h3,h4,h5,h6⟩
 ·have:=h.1
  rw [cY,hn] at this
  have:=(g7.1 hi).1
  omega
 ·cases e
  refine⟨g,0,rfl,aC h2,fun m v hm=>?_⟩
  have h8:=h.cells (g:=g) rfl (j*10+m) v (iR hi m v hm)
  rw [Nat.zero_add]
  have e2:(⟨g,0,none⟩:Addr).add (j*10+m)=⟨g,j*10+m,none⟩:=by
   unfold Addr.add
   split
   ·next hz=>simp_all
   ·simp
  rw [e2] at h8
  exact h8
end
section
attribute [local go_sem] Oper.semAt_some
theorem qN{w w2 w3:World}{b g:Nat}(h:Fr (At1 b) w w2)(k:Fr (At1 g) w2 w3)(hg:w.heap.size<=g):Fr (At1 b) w w3:=
 ⟨k.os.trans h.os,k.tape.trans h.tape,k.output.trans h.output,j4 h.size k.size,fun i hi hs=>(k.block i (j5 hi h.size) (by show ¬ (i=g);omega)).trans (h.block i hi hs)⟩
theorem jJ:(Tryz.prog.info? 54).map (fun i=>(i.zero,i.size,i.bytes))=some (some (.agg #[.int .i64 0,.int .i64 0,.int .i64 0,.int .i64 0,.int .i64 0,.int .i64 0,.int .u64 0,.int .u64 0,.int .u64 0,.int .u64 0]),10,80):=by kernel_rfl
def zP:Obj:=.cells #[.slice none 0 0,.int .i64 0,.int .i64 0,.bool false] 24
structure PI4(w wr:World)(b g3 k:Nat)(a:Int)(pv bv:Value)(M:List Value):Prop where
 rb:RB wr b (tsL k) a bv
 a0:0<=a
 a1:a<=1000*(k+1)
 x2:wr.heap[w.heap.size]?=some zP
 x3:wr.heap[g3]?=some (.cells #[pv,.int .i64 0,.int .i64 0,.bool false] 24 (0,0))
 hp:wr.ownsRow w.heap.size 54 10 pv k (bC (smL.take k))
 hb:wr.ownsRow w.heap.size 3 1 bv k M
 fr:Fr (At1 b) w wr
def PrP(w:World)(b:Nat)(e:Ending)(w':World):Prop:=∃ q c,e=.returned (.agg #[.slice q 4 c,.int .i64 0,.int .i64 0,.bool false])/\w'.ownsRow w.heap.size 54 10 (.slice q 4 c) 4 (bC smL)/\Fr (At1 b) w w'
theorem zA:cL 10 tx0=([112,114,111,103,114,97,109,32,48,32,48],tsL 0,true):=by kernel_rfl
theorem qO{w W W':World}{b:Nat}{row:Option Nat}(h:Fr (At1 b) w W)(hg:W.grownBy W' row)(hr:∀ k,row=some k->w.heap.size<=k):Fr (At1 b) w W':=
 ⟨hg.os.trans h.os,hg.tape.trans h.tape,hg.output.trans h.output,j4 h.size hg.size,fun i hi hs=>(hg.block i (j5 hi h.size) (fun e=>by have:=hr i e.symm;omega)).trans (h.block i hi hs)⟩
theorem qH(W:World)(cs:List Value)(t:TypeId):∀ (j:Nat) (u:Value),cs[j]?=some u->(W.alloc (.cells cs.toArray t)).cell? ((⟨W.heap.size,0,none⟩:Addr).add j)=some u:=fun j u hj=>by
 have e2:(⟨W.heap.size,0,none⟩:Addr).add j=⟨W.heap.size,j,none⟩:=by
  unfold Addr.add
  split
  ·next hz=>simp_all
  ·simp
 rw [e2]
 exact aA (aE W _) (by simpa using hj)
def stZ:Option Value->Nat
 | some (.string s)=>s.size
 | _=>0
def mzR(b:Nat)(wr:World):Nat:=stZ (wr.cell? ⟨b,0,none⟩)
theorem xN{w:World}{b:Nat}{r:List UInt8}{a:Int}{v:Value}(h:RB w b r a v):mzR b w=r.length:=by
 unfold mzR
 rw [aA h (i:=0) rfl]
 exact aR r
theorem wL:∀ k,k<4->(tsL (k+1)).length<(tsL k).length:=by decide +kernel
theorem zD:∀ k,k<4->(txt (tsL k)).toList.isEmpty=false:=by decide +kernel
theorem zB:tsL 4=[]:=rfl
theorem nN{w:World}{b:Nat}(hT:z1_Tab w)(h:RB w b tx0 0 (.slice none 0 0))(h2:2<b):Calls Tryz.prog 40 #[.pointer (some ⟨b,0,none⟩)] w (PrP w b):=by
 have lb:=aC h
 have B1:Hid (wBl w (w.alloc (.cells #[.slice none 0 0,.int .i64 0,.int .i64 0,.bool false] 24))):=bz9
 have X1:Hid ((w.alloc (.cells #[.slice none 0 0,.int .i64 0,.int .i64 0,.bool false] 24)).heap[w.heap.size]?=some (.cells #[.slice none 0 0,.int .i64 0,.int .i64 0,.bool false] 24 (0,0))):=aE w _
 have HL:=aD (pY (h.kept B1.o) zA (by decide) (by decide) (by decide) (by decide))
 have HT:=aD hT
 have H2:=aD h2
 clear hT h
 go_enter Tryz.func40,Tryz.ntmps40
 go_upto_region 1 with fail
 generalize (w.alloc (.cells #[.slice none 0 0,.int .i64 0,.int .i64 0,.bool false] 24))=w1 at B1 X1 HL ⊢
 have l1:=aC X1.o
 go_upto_region 2 with first
  |(go_at_call 59;(with_reducible refine(HL.o).mono ?_);rintro e w2 ⟨g,rfl,hg,h21,h22,h23⟩;have R2:=aD h22;have G2:=aD hg;have X2:=aD ((h23.block _ l1 (by show ¬ (w.heap.size=b);omega)).trans X1.o);have FF:=aD ((Fr.of_below (S:=At1 b) B1.o).trans h23);have HH:=aD (aA8 h21);clear h21 h22 h23 hg)
  |(go_at_call 60;(with_reducible refine(HH.o).mono ?_);rintro e w3 ⟨rfl,h3⟩;have F3:=aD (qN FF.o h3 (by have:=G2.o;omega));have X3:=aD ((h3.block _ (aC X2.o) (by show ¬ (w.heap.size=g);have:=G2.o;omega)).trans X2.o);have R3:=aD ((h3.block _ (aC R2.o) (by show ¬ (b=g);have:=G2.o;omega)).trans R2.o);clear h3)
 have BA:wBl w3 (w3.alloc (.cells #[.slice none 0 0,.int .i64 0,.int .i64 0,.bool false] 24)):=bz9
 have P0:Hid (PI4 w (w3.alloc (.cells #[.slice none 0 0,.int .i64 0,.int .i64 0,.bool false] 24)) b w3.heap.size 0 12 (.slice none 0 0) (.slice none 0 0) []):=⟨RB.kept R3.o BA,by decide,by decide,(BA.block _ (aC X3.o)).trans X3.o,aE w3 _,j8 _ _ _ _,j8 _ _ _ _,F3.o.then BA⟩
 have s3:=F3.o.size
 have s4:=aC X3.o
 clear BA
 generalize (w3.alloc (.cells #[.slice none 0 0,.int .i64 0,.int .i64 0,.bool false] 24))=w4 at P0 ⊢
 clear R2 X2 HH R3 X3 HL X1
 go_loopw [] (fun wr=>∃ k a pv bv M,k<=4/\PI4 w wr b w3.heap.size k a pv bv M) (fun wr=>mzR b wr)
 case atStart=>exact⟨0,_,_,_,_,by omega,P0.o⟩
 case round=>
  obtain⟨k,a,pv,bv,M,hk,hP⟩:=hrel
  have P:=aD hP
  clear hP
  have c0:wr.cell? ⟨b,0,none⟩=some (.string (txt (tsL k))):=aA P.o.rb (i:=0) rfl
  by_cases hk4:k<4
  ·obtain⟨i,hi⟩:∃ i,smL[k]?=some i:=⟨_,i8 (by show k<4;exact hk4)⟩
   have LC:=aD (pY P.o.rb (zE hk4 hi) (by have:=zC k (by omega);omega) P.o.a0 (by have:=P.o.a1;omega) (by have:=(iF i (n6 hi)).2.2;omega))
   obtain⟨X,hX⟩:∃ X,txt (tsL k)=X:=⟨_,rfl⟩
   have hne:X.toList.isEmpty=false:=by rw [<- hX];exact zD k hk4
   rw [hX] at c0
   have MI:=aD (n6 hi)
   have HI:=aD hi
   clear hX hi
   go_upto_region 5 with first
    |(go_at_call 59;(with_reducible refine(LC.o).mono ?_);rintro e v1 ⟨gl,rfl,hg,h21,h22,h23⟩;have R1:=aD h22;have GL:=aD hg;have L1:=aD h21;have F1:=aD h23;have FW:=aD (P.o.fr.trans h23);have II:=aD (xQ (nG HT.o FW.o h2) h21 (by have:=P.o.fr.size;omega) MI.o);clear h21 h22 h23 hg)
    |(go_at_call 61;(with_reducible refine(II.o).mono ?_);rintro e v2 ⟨rfl,h31,h32⟩;have L2:=aD h31;have F2:=aD h32;clear h31 h32)
   have BX:wBl v2 (v2.alloc (.cells #[.int .i64 i.op,.int .i64 i.x,.int .i64 i.y,.int .i64 i.n,.int .i64 i.mn,.int .i64 i.mx,.int .u64 (aB i.s 0),.int .u64 (aB i.s 1),.int .u64 (aB i.s 2),.int .u64 (aB i.s 3)] 54)):=bz9
   have FA:Hid (Fr (At1 b) wr (v2.alloc (.cells #[.int .i64 i.op,.int .i64 i.x,.int .i64 i.y,.int .i64 i.n,.int .i64 i.mn,.int .i64 i.mx,.int .u64 (aB i.s 0),.int .u64 (aB i.s 1),.int .u64 (aB i.s 2),.int .u64 (aB i.s 3)] 54))):=aD ((qN F1.o F2.o GL.o).then BX)
   have sw:=P.o.fr.size
   have gl1:=GL.o
   have R5:Hid (RB (v2.alloc (.cells #[.int .i64 i.op,.int .i64 i.x,.int .i64 i.y,.int .i64 i.n,.int .i64 i.mn,.int .i64 i.mx,.int .u64 (aB i.s 0),.int .u64 (aB i.s 1),.int .u64 (aB i.s 2),.int .u64 (aB i.s 3)] 54)) b (tsL (k+1)) (a+((Lib.join (wds i) [32]).length+1)) bv):=aD (RB.kept ((F2.o.block _ (aC R1.o) (by show ¬ (b=gl);omega)).trans R1.o) BX)
   have L5:Hid (LB (v2.alloc (.cells #[.int .i64 i.op,.int .i64 i.x,.int .i64 i.y,.int .i64 i.n,.int .i64 i.mn,.int .i64 i.mx,.int .u64 (aB i.s 0),.int .u64 (aB i.s 1),.int .u64 (aB i.s 2),.int .u64 (aB i.s 3)] 54)) gl [] false a):=aD (L2.o.kept BX)
   have I5:Hid ((v2.alloc (.cells #[.int .i64 i.op,.int .i64 i.x,.int .i64 i.y,.int .i64 i.n,.int .i64 i.mn,.int .i64 i.mx,.int .u64 (aB i.s 0),.int .u64 (aB i.s 1),.int .u64 (aB i.s 2),.int .u64 (aB i.s 3)] 54)).heap[v2.heap.size]?=some (.cells #[.int .i64 i.op,.int .i64 i.x,.int .i64 i.y,.int .i64 i.n,.int .i64 i.mn,.int .i64 i.mx,.int .u64 (aB i.s 0),.int .u64 (aB i.s 1),.int .u64 (aB i.s 2),.int .u64 (aB i.s 3)] 54 (0,0))):=aE v2 _
   have X5:=aD ((FA.o.block _ (aC P.o.x2) (by show ¬ (w.heap.size=b);omega)).trans P.o.x2)
   have Y5:=aD ((FA.o.block _ (aC P.o.x3) (by show ¬ (w3.heap.size=b);omega)).trans P.o.x3)
   have HP5:=aD (aL P.o.hp FA.o (fun z hz e=>by have h1:=(aH P.o.hp hz).1;have h2:z=b:=e;omega))
   have HB5:=aD (aL P.o.hb FA.o (fun z hz e=>by have h1:=(aH P.o.hb hz).1;have h2:z=b:=e;omega))
   have F5:=aD (P.o.fr.trans FA.o)
   have s2:=F2.o.size
   have s1:=F1.o.size
   clear BX
   generalize (v2.alloc (.cells #[.int .i64 i.op,.int .i64 i.x,.int .i64 i.y,.int .i64 i.n,.int .i64 i.mn,.int .i64 i.mx,.int .u64 (aB i.s 0),.int .u64 (aB i.s 1),.int .u64 (aB i.s 2),.int .u64 (aB i.s 3)] 54))=W5 at FA R5 L5 I5 X5 Y5 HP5 HB5 F5 ⊢
   obtain⟨q,c,rfl⟩:=aK HP5.o
   obtain⟨bq,bc,rfl⟩:=aK HB5.o
   have y0:=aA Y5.o (i:=0) rfl
   have ly:=aC Y5.o
   have lI:=aC I5.o
   have e0:=aA I5.o (i:=0) rfl
   have e1:=aA I5.o (i:=1) rfl
   have e2:=aA I5.o (i:=2) rfl
   have e3:=aA I5.o (i:=3) rfl
   have e4:=aA I5.o (i:=4) rfl
   have e5:=aA I5.o (i:=5) rfl
   have e6:=aA I5.o (i:=6) rfl
   have e7:=aA I5.o (i:=7) rfl
   have e8:=aA I5.o (i:=8) rfl
   have e9:=aA I5.o (i:=9) rfl
   have k40:(k:Int)<=40000:=by omega
   obtain⟨t0,ti,tz0,tz1,tz2⟩:=info_parts jJ
   go_upto_region 7 with (at_builtin;refine wpList_append_own_at _ rfl _ _ 22 rfl w.heap.size 54 t0 (.agg #[.int .i64 0,.int .i64 0,.int .i64 0,.int .i64 0,.int .i64 0,.int .i64 0,.int .u64 0,.int .u64 0,.int .u64 0,.int .u64 0]) 10 80 fD ti tz0 tz1 tz2 rfl (by decide) (.slice q k c) k (bC (smL.take k)) rfl (i9 HP5.o _) ⟨W5.heap.size,0,none⟩ 1 1 (inC i) rfl rfl (qH W5 (inC i) _) (kW i) (by unfold maxLen;omega) (by omega) (by have:=F5.o.size;simp;omega) ?_;intro v6 W6 hown hgrow _ hblk;have G6:=aD hgrow;have O6:=aD hown;have Y6:=aD ((hgrow.block _ (by simp;omega) (fun e=>aJ HP5.o Y5.o (by decide) e.symm)).trans ((Below.heap_alloc _ _ _ ly).trans Y5.o));have z0:=aA Y6.o (i:=0) rfl;have zf:=aG Y6.o 0;obtain⟨q6,c6,rfl⟩:=aK hown;clear hown hgrow hblk)
   have FS:Hid (Fr (fun z=>(Value.slice q k c).ownBlock=some z\/z=w3.heap.size) W5 (W6.setCell ⟨w3.heap.size,0,none⟩ (.slice q6 (k+1) c6))):=aD (Fr.setCell (S:=fun z=>(Value.slice q k c).ownBlock=some z\/z=w3.heap.size) (((Fr.refl _ W5).alloc _).grown G6.o (fun z hz=>.inl hz)) (p:=⟨w3.heap.size,0,none⟩) (.inr rfl) _)
   have F7:Hid (Fr (At1 b) w (W6.setCell ⟨w3.heap.size,0,none⟩ (.slice q6 (k+1) c6))):=aD (Fr.setNew (qO (F5.o.alloc _) G6.o (fun z hz=>(aH HP5.o hz).1)) (p:=⟨w3.heap.size,0,none⟩) (by show w.heap.size<=w3.heap.size;omega) _)
   have Y7:Hid ((W6.setCell ⟨w3.heap.size,0,none⟩ (.slice q6 (k+1) c6)).heap[w3.heap.size]?=some (.cells #[.slice q6 (k+1) c6,.int .i64 0,.int .i64 0,.bool false] 24 (0,0))):=aI Y6.o 0 _
   have O7:=aD (aL O6.o ((Fr.refl (At1 w3.heap.size) W6).setCell (p:=⟨w3.heap.size,0,none⟩) rfl (.slice q6 (k+1) c6)) (fun z hz e=>aJ O6.o Y6.o (by decide) (by rw [hz,show z=_ from e])))
   have R7:=aD ((FS.o.block _ (aC R5.o) (fun q=>q.elim (fun e=>aJ HP5.o R5.o (by decide) e) (fun e=>by omega))).trans R5.o)
   have L7:=aD ((FS.o.block _ (aC L5.o) (fun q=>q.elim (fun e=>aJ HP5.o L5.o (by decide) e) (fun e=>by have:=P.o.fr.size;have:=aC P.o.x3;omega))).trans L5.o)
   have X7:=aD ((FS.o.block _ (aC X5.o) (fun q=>q.elim (fun e=>aJ HP5.o X5.o (by decide) e) (fun e=>by omega))).trans X5.o)
   have HB7:=aD (aL HB5.o FS.o (fun z hz=>by
    obtain⟨_,_,cur,hc⟩:=aH HB5.o hz
    rintro (e | e)
    ·exact aJ HP5.o hc (by decide) e
    ·rw [e] at hc
     exact qI hc Y5.o (by decide) rfl))
   clear y0 e0 e1 e2 e3 e4 e5 e6 e7 e8 e9 z0 zf
   generalize (W6.setCell ⟨w3.heap.size,0,none⟩ (.slice q6 (k+1) c6))=W7 at FS F7 Y7 O7 R7 L7 X7 HB7 ⊢
   have r2:=aA R7.o (i:=2) rfl
   have rf:=aG R7.o 2
   have lr:=aC R7.o
   have m2:=aA L7.o (i:=2) rfl
   have lm:=aC L7.o
   have sz7:=F7.o.size
   obtain⟨n0,ni,nz0,nz1,nz2⟩:=info_parts fT
   go_region_law (refine eD rfl _ _ 31 rfl w.heap.size 3 n0 (.int .i64 0) 1 8 dQ ni nz0 nz1 nz2 rfl (by decide) (.slice bq k bc) k M (by simp [Act.eval]) (World.ownsRow.drew (i9 HB7.o _)) ⟨W7.heap.size,0,none⟩ 1 1 [.int .i64 a] (by simp [Act.eval]) rfl (qH W7 [.int .i64 a] _) (by simp [Value.oneCell']) (by unfold maxLen;omega) (by omega) (by simp;omega) ?_;intro v8 W8 hown hgrow hblk;have G8:=aD hgrow;have O8:=aD hown;have R8:=aD ((hgrow.block _ (by simp;omega) (fun e=>aJ HB7.o R7.o (by decide) e.symm)).trans ((Below.heap_alloc _ _ _ lr).trans R7.o));have z2:=aA R8.o (i:=2) rfl;have zf:=aG R8.o 2;obtain⟨q8,c8,rfl⟩:=aK hown;clear hown hgrow hblk)
   all_goals
    have FT:Hid (Fr (fun z=>(Value.slice bq k bc).ownBlock=some z\/z=b) W7 (W8.setCell ⟨b,2,none⟩ (.slice q8 (k+1) c8))):=aD (Fr.setCell (S:=fun z=>(Value.slice bq k bc).ownBlock=some z\/z=b) ((((Fr.refl _ W7).alloc _).drew).grown G8.o (fun z hz=>.inl hz)) (p:=⟨b,2,none⟩) (.inr rfl) _)
    have F9:Hid (Fr (At1 b) w (W8.setCell ⟨b,2,none⟩ (.slice q8 (k+1) c8))):=aD (Fr.setCell (S:=At1 b) (qO ((F7.o.alloc _).drew) G8.o (fun z hz=>(aH HB7.o hz).1)) (p:=⟨b,2,none⟩) rfl _)
    have R9:Hid (RB (W8.setCell ⟨b,2,none⟩ (.slice q8 (k+1) c8)) b (tsL (k+1)) (a+((Lib.join (wds i) [32]).length+1)) (.slice q8 (k+1) c8)):=aI R8.o 2 _
    have X9:=aD ((FT.o.block _ (aC X7.o) (fun q=>q.elim (fun e=>aJ HB7.o X7.o (by decide) e) (fun e=>by omega))).trans X7.o)
    have Y9:=aD ((FT.o.block _ (aC Y7.o) (fun q=>q.elim (fun e=>aJ HB7.o Y7.o (by decide) e) (fun e=>by omega))).trans Y7.o)
    have O9:=aD (aL O7.o FT.o (fun z hz=>by
     obtain⟨hz1,_,cur,hc⟩:=aH O7.o hz
     exact fun q=>q.elim (fun e=>aJ HB7.o hc (by decide) e) (fun e=>by omega)))
    have B9:=aD (aL O8.o ((Fr.refl (At1 b) W8).setCell (p:=⟨b,2,none⟩) rfl (.slice q8 (k+1) c8)) (fun z hz e=>by have h1:=(aH O8.o hz).1;have h2:z=b:=e;omega))
    have TK:Hid (bC (smL.take (k+1))=bC (smL.take k)++inC i):=aD (by rw [n5,HI.o,fI];simp [bC])
    have WJ:=aD (iF i MI.o)
    clear r2 rf m2 z2 zf
    go_wp2
    go_roundw
    case rel=>exact⟨k+1,_,_,_,_,by omega,⟨R9.o,by have:=P.o.a0;omega,by have h1:=P.o.a1;have h3:=WJ.o.2.2;omega,X9.o,Y9.o,by rw [TK.o];exact O9.o,B9.o,F9.o⟩⟩
    case measure=>rw [xN R9.o,xN P.o.rb];exact wL k hk4
  ·obtain rfl:k=4:=by omega
   rw [zB] at c0
   obtain⟨q,c,rfl⟩:=aK P.o.hp
   have y0:=aA P.o.x3 (i:=0) rfl
   have y1:=aA P.o.x3 (i:=1) rfl
   have y2:=aA P.o.x3 (i:=2) rfl
   have y3:=aA P.o.x3 (i:=3) rfl
   have x0:=aA P.o.x2 (i:=0) rfl
   have x1:=aA P.o.x2 (i:=1) rfl
   have x2:=aA P.o.x2 (i:=2) rfl
   have x3:=aA P.o.x2 (i:=3) rfl
   have f0:=aG P.o.x2 0
   have f1:=aG P.o.x2 1
   have f2:=aG P.o.x2 2
   have f3:=aG P.o.x2 3
   have hc:wr.cell? ⟨b,0,none⟩=some (.string ⟨#[]⟩):=c0
   clear c0
   go_wp2
   refine bodyPost_ret (v:=.agg #[.slice q 4 c,.int .i64 0,.int .i64 0,.bool false]) (by simp [results,Tryz.results40,go_sem,x0,x1,x2,x3]) rfl ⟨q,c,rfl,?_,?_⟩
   ·exact aL P.o.hp (eQ _ _ _ _ _ _) (fun z hz e=>aJ P.o.hp P.o.x2 (by decide) (by rw [hz,show z=_ from e]))
   ·exact Fr.setNew (Fr.setNew (Fr.setNew (Fr.setNew P.o.fr (p:=⟨w.heap.size,0,none⟩) lz9 _) (p:=⟨w.heap.size,1,none⟩) lz9 _) (p:=⟨w.heap.size,2,none⟩) lz9 _) (p:=⟨w.heap.size,3,none⟩) lz9 _
end
section
attribute [local go_sem] Oper.semAt_some
theorem LI.newsL{w:World}{ad:Addr}{L:List Ins}(h:LI w (some ad) L)(hn:L≠[]):∃ g o,ad=⟨g,o,none⟩/\g<w.heap.size/\∀ j u,(bC L)[j]?=some u->w.cell? ⟨g,o+j,none⟩=some u:=by
 obtain⟨x,r,rfl⟩:=List.exists_cons_of_ne_nil hn
 obtain⟨g,o,h1,h2,_⟩:=h 0 x rfl
 obtain rfl:=j3 h1
 refine⟨g,o,rfl,h2,fun j u hj=>?_⟩
 have hjl:j<(x :: r).length*10:=by have:=(g7.1 hj).1;rwa [cY] at this
 have hq:j/10<(x :: r).length:=by omega
 obtain⟨i,hi⟩:∃ i,(x :: r)[j/10]?=some i:=⟨_,i8 hq⟩
 obtain⟨g',o',e,_,h3⟩:=h (j/10) i hi
 obtain⟨rfl,rfl⟩:g=g'/\o=o':=by have:=j3 e;cases this;exact⟨rfl,rfl⟩
 have hm:j%10<(inC i).length:=by rw [dJ];omega
 have h4:=iR hi (j%10) _ (i8 hm)
 rw [show j/10*10+j%10=j by omega,hj] at h4
 have h5:=h3 (j%10) _ (i8 hm)
 rw [show o+j/10*10+j%10=o+j by omega,<- j3 h4] at h5
 exact h5
theorem LI.news{w:World}{ad:Addr}{L:List Ins}(h:LI w (some ad) L):∀ j u,(bC L)[j]?=some u->w.cell? (ad.add j)=some u:=fun j u hj=>by
 by_cases hn:L=[]
 ·rw [hn] at hj;cases hj
 ·obtain⟨g,o,rfl,_,h3⟩:=h.newsL hn
  have e2:(⟨g,o,none⟩:Addr).add j=⟨g,o+j,none⟩:=by
   unfold Addr.add
   split
   ·next hz=>simp_all
   ·simp
  rw [e2]
  exact h3 j u hj
theorem eF{w:World}{base:Nat}{e:TypeId}{size n:Nat}{v:Value}{xs:List Value}(h:w.ownsRow base e size v n xs)(hn:0<n):∃ g c,v=.slice (some ⟨g,0,none⟩) n c/\n<=c:=by
 rcases h.2 with⟨_,hz⟩ | ⟨g,cap,cur,hv,_,_,h3,_⟩
 ·omega
 ·exact⟨g,cap,hv,h3⟩
theorem vP(L:List Ins):∀ v∈bC L,v.oneCell'=true:=fun v hv=>by
 obtain⟨i,_,hi⟩:=List.mem_flatMap.1 hv
 exact kW i v hi
def mkI:Ins:=⟨-7,0,0,0,0,0,0#256⟩
theorem kT:bC [mkI,mkI]=[.int .i64 (-7),.int .i64 0,.int .i64 0,.int .i64 0,.int .i64 0,.int .i64 0,.int .u64 0,.int .u64 0,.int .u64 0,.int .u64 0,.int .i64 (-7),.int .i64 0,.int .i64 0,.int .i64 0,.int .i64 0,.int .i64 0,.int .u64 0,.int .u64 0,.int .u64 0,.int .u64 0]:=by simp [bC,inC,mkI,bA]
theorem aG4{w:World}{base c n:Nat}{q:Option Addr}{L:List Ins}(h:w.ownsRow base 54 10 (.slice q n c) n (bC L++[.int .i64 (-7),.int .i64 0,.int .i64 0,.int .i64 0,.int .i64 0,.int .i64 0,.int .u64 0,.int .u64 0,.int .u64 0,.int .u64 0,.int .i64 (-7),.int .i64 0,.int .i64 0,.int .i64 0,.int .i64 0,.int .i64 0,.int .u64 0,.int .u64 0,.int .u64 0,.int .u64 0])):LI w q L:=fun j i hi=>by
 rw [<- kT,<- fI] at h
 exact LI.of_row h j i (by rw [j7 (g7.1 hi).1];exact hi)
abbrev wA(w:World)(p:Pg):World:=(w.alloc (.cells #[.slice p.q p.L.length p.c,.int .i64 p.g,.int .i64 p.k,.bool p.f] 24)).alloc (.cells #[.slice none 0 0,.int .i64 0,.int .i64 0,.bool false] 24)
end
section
attribute [local go_sem] Oper.semAt_some
theorem cW{w w':World}{base:Nat}{t:TypeId}{s n:Nat}{v:Value}{xs:List Value}(h:w.ownsRow base t s v n xs)(hb:wBl w w'):w'.ownsRow base t s v n xs:=aL h (Fr.of_below (S:=fun _=>False) hb) (fun _ _ e=>e)
def prW(rs:lIi):List (List UInt8):=rs.map fun r=>rgW r.1.toNat r.2.toNat
def stW(s:aQ):List UInt8:=if aT (aP s)=[] then [110,111,110,101] else Lib.join (prW (aT (aP s))) [44]
theorem kP(lo hi:Nat):(rgW lo hi).length<=5:=by
 unfold rgW hxW
 split <;> simp
theorem fB(sep:List UInt8)(m:Nat):∀ (xs:List (List UInt8)),(∀ x∈xs,x.length<=m)->(Lib.join xs sep).length<=xs.length*(m+sep.length)
 | [],_=>by simp [Lib.join]
 | [x],h=>by
  have:=h x (by simp)
  simp [Lib.join]
  omega
 | x :: y :: r,h=>by
  have h1:=h x (by simp)
  have h2:=fB sep m (y :: r) (fun z hz=>h z (by simp at hz ⊢;exact .inr hz))
  have e:Lib.join (x :: y :: r) sep=x++(sep++Lib.join (y :: r) sep):=by simp [Lib.join,List.intercalate,List.intersperse]
  rw [e,j2,j2,p8,Nat.add_mul,Nat.one_mul]
  omega
theorem aK6(g k:Nat):(⟨g,0,none⟩:Addr).add k=⟨g,k,none⟩:=by
 unfold Addr.add
 split
 ·next hz=>simp_all
 ·simp
theorem aC8:∀ (n:Nat) (l:List cH),l.length=n->∀ r∈aT l,0<=r.1/\r.1<=r.2/\r.2<=255
 | 0,l,h,r,hr=>by
  obtain rfl:=r6 h
  simp [aT] at hr
 | n+1,l,h,r,hr=>by
  rcases n8 l with rfl | ⟨m,x,rfl⟩
  ·simp at h
  rw [n9] at h hr
  have h1:=aC8 n m (by simpa using h)
  have hx:=x.2
  rw [bQ] at hr
  rcases n8 (aT m) with he | ⟨acc,p,he⟩
  ·rw [he,eY] at hr
   simp at hr
   subst hr
   dsimp only
   omega
  ·rw [n9] at he
   obtain⟨lo,hi⟩:=p
   rw [he] at h1 hr
   have hp:=h1 (lo,hi) (by simp)
   dsimp only at hp
   by_cases hh:hi=x.1-1
   ·rw [dP _ _ _ _ hh] at hr
    rcases o4.1 hr with hm | hm
    ·exact h1 r (by simp [hm])
    ·simp at hm;subst hm;dsimp only;omega
   ·rw [dF _ _ _ _ hh] at hr
    rcases o4.1 hr with hm | hm
    ·exact h1 r hm
    ·simp at hm;subst hm;dsimp only;omega
theorem qP{rs:lIi}{j:Nat}{r:Int×Int}(h:rs[j]?=some r):(cG rs)[j*2]?=some (.int .i64 r.1)/\(cG rs)[j*2+1]?=some (.int .i64 r.2):=by
 induction rs generalizing j with
 | nil=>simp at h
 | cons x t ih=>
  cases j with
  | zero=>
   obtain rfl:x=r:=by simpa using h
   exact⟨rfl,rfl⟩
  | succ j=>
   have:=ih (j:=j) (by simpa using h)
   rw [show (j+1)*2=j*2+1+1 by omega]
   exact this
theorem rJ{w:World}(hT:z1_Tab w)(s:aQ):Calls Tryz.prog 53 #[.agg #[.int .u64 (aB s 0),.int .u64 (aB s 1),.int .u64 (aB s 2),.int .u64 (aB s 3)]] w fun e w'=>e=.returned (.string (txt (stW s)))/\wBl w w':=by
 have B1:Hid (wBl w (w.alloc (.cells #[.int .u64 (aB s 0),.int .u64 (aB s 1),.int .u64 (aB s 2),.int .u64 (aB s 3)] 52))):=bz9
 have HC:=aD (fJ s (w.alloc (.cells #[.int .u64 (aB s 0),.int .u64 (aB s 1),.int .u64 (aB s 2),.int .u64 (aB s 3)] 52)) (hT.below B1.o))
 have CV:=aD (aC8 _ (aP s) rfl)
 have hlen:(aT (aP s)).length<=256:=j4 (eB _) (dV s)
 unfold stW
 obtain⟨rs,hrs⟩:∃ rs,aT (aP s)=rs:=⟨_,rfl⟩
 rw [hrs] at HC CV hlen ⊢
 obtain⟨ans,hans⟩:∃ ans,(if rs=[] then [110,111,110,101] else Lib.join (prW rs) [44])=ans:=⟨_,rfl⟩
 rw [hans]
 have HE:=aD hans
 obtain⟨t0,hi,hz0,hz1,hz2⟩:=info_parts bG
 clear hT hrs hans
 go_enter Tryz.func53,Tryz.ntmps53
 go_wp2_with (go_at_call 67;(with_reducible refine(HC.o).mono ?_))
 rintro e w2 ⟨v,rfl,hrow,-,h2⟩
 have B2:=aD (aF B1.o h2 lz9)
 have RO:=aD hrow
 obtain⟨qv,cv,rfl⟩:=aK hrow
 clear hrow h2 HC B1
 go_wp2
 go_loopg [3,9] rs.length (fun k pv i wr=>∃ j:Nat,j+k=rs.length/\i=.int .i64 (j:Int)/\SR w2.heap.size wr pv (prW (rs.take j))/\wBl w2 wr)
 case atStart=>exact⟨0,by omega,rfl,j8 _ _ _ _,Below.refl _ _⟩
 case round=>
  obtain⟨j,hjk,rfl,hS,hB⟩:=hrel
  have S:=aD hS
  have B:=aD hB
  have hpl:(prW (rs.take j)).length=j:=by simp [prW];omega
  obtain⟨pq,pc,rfl⟩:=aK hS
  rw [hpl] at S ⊢
  clear hS hB
  by_cases hj:j<rs.length
  ·obtain⟨g,c,hgc,_⟩:=eF RO.o (by omega)
   injection hgc with e1 _ e2
   subst e1 e2
   obtain⟨r,hr⟩:∃ r,rs[j]?=some r:=⟨_,i8 hj⟩
   have hcv:=CV.o r (n6 hr)
   obtain⟨lo,hlo⟩:∃ lo:Nat,r.1=lo:=⟨r.1.toNat,by omega⟩
   obtain⟨hh,hhi⟩:∃ hh:Nat,r.2=hh:=⟨r.2.toNat,by omega⟩
   have lg:=(aH RO.o (g:=g) rfl).2.1
   have r0:wr.cell? ⟨g,j*2,none⟩=some (.int .i64 (lo:Int)):=(B.o.cell (p:=⟨g,j*2,none⟩) lg).trans (by rw [<- hlo,<- aK6];exact RO.o.cells (g:=g) rfl (j*2) _ (qP hr).1)
   have r1:wr.cell? ⟨g,j*2+1,none⟩=some (.int .i64 (hh:Int)):=(B.o.cell (p:=⟨g,j*2+1,none⟩) lg).trans (by rw [<- hhi,<- aK6];exact RO.o.cells (g:=g) rfl (j*2+1) _ (qP hr).2)
   have lg2:g<wr.heap.size:=j5 lg B.o.size
   have RW:=fun V=>mE lo hh (by omega) (by omega) V
   have TK:Hid (prW (rs.take (j+1))=prW (rs.take j)++[rgW lo hh]):=aD (by rw [n5,hr];simp [prW,hlo,hhi])
   have j0:(0:Int)<=(j:Int):=by omega
   have j1:(j:Int)<(rs.length:Int):=by omega
   have sz:=B.o.size
   obtain⟨x,hx⟩:∃ x,rgW lo hh=x:=⟨_,rfl⟩
   rw [hx] at RW TK
   have SO:Hid (wr.ownsRow w2.heap.size 9 1 (.slice pq j pc) j (stC (prW (rs.take j)))):=aD (by have:=S.o;unfold SR at this;rw [hpl] at this;exact this)
   clear hr hcv hlo hhi hx S
   go_wp2_with first
    |(go_at_call 68;(with_reducible refine(RW _).mono ?_);rintro e w3 ⟨rfl,h3⟩;have B3:=aD (aF B.o ((bz9).trans (h3.mono (by simp))) lz9);have S3:=aD (cW SO.o ((bz9).trans (h3.mono (by simp))));clear h3)
    |(at_builtin;refine wpList_append_own_at _ rfl _ _ 69 rfl w2.heap.size 9 t0 (.string ⟨#[]⟩) 1 16 bD hi hz0 hz1 hz2 rfl (by decide) (.slice pq j pc) j (stC (prW (rs.take j))) rfl (i9 S3.o _) ⟨w3.heap.size,0,none⟩ 1 1 [.string (txt x)] rfl rfl (bH _ _ _) (by simp [Value.oneCell']) (by unfold maxLen;omega) (by omega) (by have:=B3.o.size;simp;omega) ?_;intro v4 w4 hown hgrow _ hblk;have B4:Hid (wBl w2 w4):=aD ((B3.o.alloc (by have:=B3.o.size;omega) _).grown hgrow (by have:=B3.o.size;simp;omega) (fun k hk=>(aH S3.o hk).1));have O4:=aD hown;clear hown hgrow hblk)
   go_roundg (rs.length-(j+1))
   case measure=>omega
   case rel=>exact⟨j+1,by omega,by go_num,by
    have:=O4.o
    unfold SR
    rw [TK.o,zG,j2,hpl]
    exact this,B4.o⟩
  ·have j1:¬ (j:Int)<(rs.length:Int):=by omega
   obtain rfl:j=rs.length:=by omega
   have BB:=aD (aF B2.o B.o lz9)
   by_cases he:rs=[]
   ·subst he
    go_wp2
    go_ret
    exact⟨by rw [<- HE.o];rfl,BB.o⟩
   ·have HE2:=HE.o
    rw [if_neg he] at HE2
    have h0:0<rs.length:=List.length_pos_iff.2 he
    rw [List.take_length] at S hpl
    have hjl:=fB [44] 5 (prW rs) (fun x hx=>by
     obtain⟨r,_,rfl⟩:=List.mem_map.1 hx
     exact kP _ _)
    obtain⟨jn,hjn⟩:∃ jn,Lib.join (prW rs) [44]=jn:=⟨_,rfl⟩
    rw [hjn] at hjl
    have HE3:=aD (hjn.symm.trans HE2)
    clear HE2
    have S':Hid (wr.ownsRow w2.heap.size 9 1 (.slice pq rs.length pc) rs.length (stC (prW rs))):=aD (by have:=S.o;unfold SR at this;rw [hpl] at this;exact this)
    obtain⟨g,c,hgc,_⟩:=eF S'.o h0
    injection hgc with e1 _ e2
    subst e1 e2
    have hne:prW rs≠[]:=fun e=>by rw [e] at hpl;simp at hpl;omega
    have HJ:=aD (hZ (n:=rs.length) (c:=pc) (sb:=⟨#[44]⟩) (xs:=prW rs) [44] jn (by unfold SR;rw [hpl];exact S'.o) hpl rfl hne hjn (by simp at hjl;omega) (by omega))
    have z0:((rs.length:Int)==0)=false:=by simp;omega
    have z1:¬ ((rs.length:Int)=0):=by omega
    clear S S' hjn hjl hne he
    go_wp2_with (go_at_call 49;(with_reducible refine(HJ.o).mono ?_);rintro e w5 ⟨rfl,h5⟩;have B5:=aD (aF BB.o h5 lz9);clear h5)
    go_ret
    exact⟨by rw [<- HE3.o];rfl,B5.o⟩
end
def Tens14 (w : World) : Prop := Lib.TabIs Tryz.prog w "internal/strconv.uint64pow10" .u64 Lib.pow10Tab
theorem jI : Tryz.prog.globalNamed "internal/strconv.uint64pow10" = some 1 := by kernel_rfl
theorem Tens14.to{w w':World}(h:Tens14 w)(h1:w'.heap[1]?=w.heap[1]?):Tens14 w':=by
 unfold Tens14 Lib.TabIs World.var? at *
 rw [jI] at *
 simpa [h1] using h
structure T14(w:World):Prop where
 z:z1_Tab w
 t:Tens14 w
 s:2<w.heap.size
theorem T14.kept{w w':World}(h:T14 w)(hb:wBl w w'):T14 w':=⟨h.z.below hb,h.t.to (hb.block 1 (by have:=h.s;omega)),j5 h.s hb.size⟩
theorem dI{w:World}(hG:T14 w){n:Int}(h0:0<=n)(h1:n<=1000000):Calls Tryz.prog 51 #[.int .i64 n] w fun e w'=>e=.returned (.string (txt (Lib.itoa n)))/\wBl w w':=by
 refine(Tryz.strconv_Itoa n (by omega) (by omega) w hG.t).mono ?_
 rintro e w' ⟨rfl,k,os,rfl⟩
 exact⟨rfl,Lib.below_grow _ w lz9 k os⟩
section
attribute [local go_sem] Oper.semAt_some
def Sm(n:Int):Prop:=0<=n/\n<=1000000
theorem wI{w:World}(hT:T14 w)(i:Ins)(hi0:i.op=1):Calls Tryz.prog 27 #[.agg #[.int .i64 i.op,.int .i64 i.x,.int .i64 i.y,.int .i64 i.n,.int .i64 i.mn,.int .i64 i.mx,.int .u64 (aB i.s 0),.int .u64 (aB i.s 1),.int .u64 (aB i.s 2),.int .u64 (aB i.s 3)]] w (SRR w [[98,121,116,101],stW i.s]):=by
 have B1:Hid (wBl w (w.alloc (.cells #[.int .i64 i.op,.int .i64 i.x,.int .i64 i.y,.int .i64 i.n,.int .i64 i.mn,.int .i64 i.mx,.int .u64 (aB i.s 0),.int .u64 (aB i.s 1),.int .u64 (aB i.s 2),.int .u64 (aB i.s 3)] 54))):=bz9
 have X1:Hid ((w.alloc (.cells #[.int .i64 i.op,.int .i64 i.x,.int .i64 i.y,.int .i64 i.n,.int .i64 i.mn,.int .i64 i.mx,.int .u64 (aB i.s 0),.int .u64 (aB i.s 1),.int .u64 (aB i.s 2),.int .u64 (aB i.s 3)] 54)).heap[w.heap.size]?=some (.cells #[.int .i64 i.op,.int .i64 i.x,.int .i64 i.y,.int .i64 i.n,.int .i64 i.mn,.int .i64 i.mx,.int .u64 (aB i.s 0),.int .u64 (aB i.s 1),.int .u64 (aB i.s 2),.int .u64 (aB i.s 3)] 54 (0,0))):=aE w _
 have HT:=aD hT
 rw [hi0] at X1
 rw [hi0] at B1
 rw [hi0]
 have SWG:=aD (fun (V:World) (hV:T14 V)=>rJ hV.z i.s)
 obtain⟨ts,hts⟩:∃ t,stW i.s=t:=⟨_,rfl⟩
 rw [hts] at SWG ⊢
 clear hts
 obtain⟨t0,hi,hz0,hz1,hz2⟩:=info_parts bG
 have hs:=fun (W:World)=>(show Calls Tryz.prog 33 #[.int .i64 1] W fun e w'=>e=.returned (.tuple #[.string (txt [98,121,116,101]),.int .i64 65])/\w'=W from aO 1 W)
 have q24:hsT 65 24=false:=by decide
 have q32:hsT 65 32=false:=by decide
 have q2:hsT 65 2=false:=by decide
 have q4:hsT 65 4=false:=by decide
 have q1:hsT 65 1=true:=by decide
 clear hT hi0
 go_enter Tryz.func27,Tryz.ntmps27
 go_upto_region 1 with fail
 generalize (w.alloc (.cells #[.int .i64 1,.int .i64 i.x,.int .i64 i.y,.int .i64 i.n,.int .i64 i.mn,.int .i64 i.mx,.int .u64 (aB i.s 0),.int .u64 (aB i.s 1),.int .u64 (aB i.s 2),.int .u64 (aB i.s 3)] 54))=w1 at B1 X1 ⊢
 have c0:w1.cell? ⟨w.heap.size,0,none⟩=some (.int .i64 1):=aA X1.o (i:=0) rfl
 have l1:=aC X1.o
 go_upto_region 3 with (go_at_call 33;(with_reducible refine(hs _).mono ?_);rintro e w5 ⟨rfl,rfl⟩)
 have R2:Hid (SR w.heap.size (w5.alloc (.cells #[.string (txt [98,121,116,101])] 9)) (.slice (some ⟨w5.heap.size,0,none⟩) 1 1) [[98,121,116,101]]):=dB w5 _ (by omega)
 have B2:Hid (wBl w (w5.alloc (.cells #[.string (txt [98,121,116,101])] 9))):=aF B1.o (bz9) lz9
 have X2:Hid ((w5.alloc (.cells #[.string (txt [98,121,116,101])] 9)).heap[w.heap.size]?=some (.cells #[.int .i64 1,.int .i64 i.x,.int .i64 i.y,.int .i64 i.n,.int .i64 i.mn,.int .i64 i.mx,.int .u64 (aB i.s 0),.int .u64 (aB i.s 1),.int .u64 (aB i.s 2),.int .u64 (aB i.s 3)] 54 (0,0))):=(Below.heap_alloc _ _ _ l1).trans X1.o
 clear c0 B1 X1 hs
 generalize (w5.alloc (.cells #[.string (txt [98,121,116,101])] 9))=w6 at B2 X2 R2 ⊢
 have l2:=aC X2.o
 have d6:=aA X2.o (i:=6) rfl
 have d7:=aA X2.o (i:=7) rfl
 have d8:=aA X2.o (i:=8) rfl
 have d9:=aA X2.o (i:=9) rfl
 have SW:=aD (SWG.o _ (HT.o.kept B2.o))
 go_wp2_with first
  |(go_at_call 34;(with_reducible refine(aU _ _ _).mono ?_);rintro e w7 ⟨rfl,rfl⟩)
  |(go_at_call 53;(with_reducible refine(SW.o).mono ?_);rintro e v3 ⟨rfl,h5⟩;have R2a:=aD (aL R2.o (Fr.of_below (S:=fun _=>False) h5) (fun _ _ q=>q));have B2a:=aD (aF B2.o h5 lz9);have X2a:=aD ((h5.block _ l2).trans X2.o);clear h5)
  |(at_builtin;refine wpList_append_own_at _ rfl _ _ 69 rfl w.heap.size 9 t0 (.string ⟨#[]⟩) 1 16 bD hi hz0 hz1 hz2 rfl (by decide) _ 1 (stC [[98,121,116,101]]) rfl (i9 R2a.o _) ⟨v3.heap.size,0,none⟩ 1 1 [.string (txt ts)] rfl rfl (bH _ _ _) (by simp [Value.oneCell']) ?c3 ?c4 ?c5 ?_)
 case c3=>unfold maxLen;omega
 case c4=>omega
 case c5=>have:=B2a.o.size;simp;omega
 intro p3 w3x hown hgrow _ hblk
 have B3:Hid (wBl w w3x):=aD ((B2a.o.alloc (by have:=B2a.o.size;omega) _).grown hgrow (by have:=B2a.o.size;simp;omega) (fun k hk=>(aH R2a.o hk).1))
 have R3:Hid (SR w.heap.size w3x p3 [[98,121,116,101],ts]):=hown
 have X3:Hid (w3x.heap[w.heap.size]?=some (.cells #[.int .i64 1,.int .i64 i.x,.int .i64 i.y,.int .i64 i.n,.int .i64 i.mn,.int .i64 i.mx,.int .u64 (aB i.s 0),.int .u64 (aB i.s 1),.int .u64 (aB i.s 2),.int .u64 (aB i.s 3)] 54 (0,0))):=aD ((hgrow.block _ (by have:=aC X2a.o;simp;omega) (fun e=>aJ R2a.o X2a.o (by decide) e.symm)).trans ((Below.heap_alloc _ _ _ (aC X2a.o)).trans X2a.o))
 have l3:=aC X3.o
 obtain⟨g3,c3,rfl,-⟩:=SR.split R3.o (by simp)
 clear hown hgrow hblk
 go_wp2_with (go_at_call 34;(with_reducible refine(aU _ _ _).mono ?_);rintro e w7 ⟨rfl,rfl⟩)
 go_ret
 exact⟨_,rfl,R3.o,B3.o⟩
theorem wH{w:World}(hT:T14 w)(i:Ins)(hi0:i.op=2)(hx:Sm i.x)(hy:Sm i.y):Calls Tryz.prog 27 #[.agg #[.int .i64 i.op,.int .i64 i.x,.int .i64 i.y,.int .i64 i.n,.int .i64 i.mn,.int .i64 i.mx,.int .u64 (aB i.s 0),.int .u64 (aB i.s 1),.int .u64 (aB i.s 2),.int .u64 (aB i.s 3)]] w (SRR w [[115,112,108,105,116],Lib.itoa i.x,Lib.itoa i.y]):=by
 have B1:Hid (wBl w (w.alloc (.cells #[.int .i64 i.op,.int .i64 i.x,.int .i64 i.y,.int .i64 i.n,.int .i64 i.mn,.int .i64 i.mx,.int .u64 (aB i.s 0),.int .u64 (aB i.s 1),.int .u64 (aB i.s 2),.int .u64 (aB i.s 3)] 54))):=bz9
 have X1:Hid ((w.alloc (.cells #[.int .i64 i.op,.int .i64 i.x,.int .i64 i.y,.int .i64 i.n,.int .i64 i.mn,.int .i64 i.mx,.int .u64 (aB i.s 0),.int .u64 (aB i.s 1),.int .u64 (aB i.s 2),.int .u64 (aB i.s 3)] 54)).heap[w.heap.size]?=some (.cells #[.int .i64 i.op,.int .i64 i.x,.int .i64 i.y,.int .i64 i.n,.int .i64 i.mn,.int .i64 i.mx,.int .u64 (aB i.s 0),.int .u64 (aB i.s 1),.int .u64 (aB i.s 2),.int .u64 (aB i.s 3)] 54 (0,0))):=aE w _
 have HT:=aD hT
 rw [hi0] at X1
 rw [hi0] at B1
 rw [hi0]
 have ITx:=aD (fun (V:World) (hV:T14 V)=>dI hV hx.1 hx.2)
 have ITy:=aD (fun (V:World) (hV:T14 V)=>dI hV hy.1 hy.2)
 obtain⟨tx,htx⟩:∃ t,Lib.itoa i.x=t:=⟨_,rfl⟩
 rw [htx] at ITx ⊢
 clear htx
 obtain⟨ty,hty⟩:∃ t,Lib.itoa i.y=t:=⟨_,rfl⟩
 rw [hty] at ITy ⊢
 clear hty
 obtain⟨t0,hi,hz0,hz1,hz2⟩:=info_parts bG
 have hs:=fun (W:World)=>(show Calls Tryz.prog 33 #[.int .i64 2] W fun e w'=>e=.returned (.tuple #[.string (txt [115,112,108,105,116]),.int .i64 6])/\w'=W from aO 2 W)
 have q24:hsT 6 24=false:=by decide
 have q32:hsT 6 32=false:=by decide
 have q2:hsT 6 2=true:=by decide
 have q4:hsT 6 4=true:=by decide
 have q1:hsT 6 1=false:=by decide
 clear hT hi0
 go_enter Tryz.func27,Tryz.ntmps27
 go_upto_region 1 with fail
 generalize (w.alloc (.cells #[.int .i64 2,.int .i64 i.x,.int .i64 i.y,.int .i64 i.n,.int .i64 i.mn,.int .i64 i.mx,.int .u64 (aB i.s 0),.int .u64 (aB i.s 1),.int .u64 (aB i.s 2),.int .u64 (aB i.s 3)] 54))=w1 at B1 X1 ⊢
 have c0:w1.cell? ⟨w.heap.size,0,none⟩=some (.int .i64 2):=aA X1.o (i:=0) rfl
 have l1:=aC X1.o
 go_upto_region 3 with (go_at_call 33;(with_reducible refine(hs _).mono ?_);rintro e w5 ⟨rfl,rfl⟩)
 have R2:Hid (SR w.heap.size (w5.alloc (.cells #[.string (txt [115,112,108,105,116])] 9)) (.slice (some ⟨w5.heap.size,0,none⟩) 1 1) [[115,112,108,105,116]]):=dB w5 _ (by omega)
 have B2:Hid (wBl w (w5.alloc (.cells #[.string (txt [115,112,108,105,116])] 9))):=aF B1.o (bz9) lz9
 have X2:Hid ((w5.alloc (.cells #[.string (txt [115,112,108,105,116])] 9)).heap[w.heap.size]?=some (.cells #[.int .i64 2,.int .i64 i.x,.int .i64 i.y,.int .i64 i.n,.int .i64 i.mn,.int .i64 i.mx,.int .u64 (aB i.s 0),.int .u64 (aB i.s 1),.int .u64 (aB i.s 2),.int .u64 (aB i.s 3)] 54 (0,0))):=(Below.heap_alloc _ _ _ l1).trans X1.o
 clear c0 B1 X1 hs
 generalize (w5.alloc (.cells #[.string (txt [115,112,108,105,116])] 9))=w6 at B2 X2 R2 ⊢
 have l2:=aC X2.o
 have d1:=aA X2.o (i:=1) rfl
 have ICx:=aD (ITx.o _ (HT.o.kept B2.o))
 go_wp2_with first
  |(go_at_call 34;(with_reducible refine(aU _ _ _).mono ?_);rintro e w7 ⟨rfl,rfl⟩)
  |(go_at_call 51;(with_reducible refine(ICx.o).mono ?_);rintro e v3 ⟨rfl,h5⟩;have R2a:=aD (aL R2.o (Fr.of_below (S:=fun _=>False) h5) (fun _ _ q=>q));have B2a:=aD (aF B2.o h5 lz9);have X2a:=aD ((h5.block _ l2).trans X2.o);clear h5)
  |(at_builtin;refine wpList_append_own_at _ rfl _ _ 69 rfl w.heap.size 9 t0 (.string ⟨#[]⟩) 1 16 bD hi hz0 hz1 hz2 rfl (by decide) _ 1 (stC [[115,112,108,105,116]]) rfl (i9 R2a.o _) ⟨v3.heap.size,0,none⟩ 1 1 [.string (txt tx)] rfl rfl (bH _ _ _) (by simp [Value.oneCell']) ?c3 ?c4 ?c5 ?_)
 case c3=>unfold maxLen;omega
 case c4=>omega
 case c5=>have:=B2a.o.size;simp;omega
 intro p3 w3x hown hgrow _ hblk
 have B3:Hid (wBl w w3x):=aD ((B2a.o.alloc (by have:=B2a.o.size;omega) _).grown hgrow (by have:=B2a.o.size;simp;omega) (fun k hk=>(aH R2a.o hk).1))
 have R3:Hid (SR w.heap.size w3x p3 [[115,112,108,105,116],tx]):=hown
 have X3:Hid (w3x.heap[w.heap.size]?=some (.cells #[.int .i64 2,.int .i64 i.x,.int .i64 i.y,.int .i64 i.n,.int .i64 i.mn,.int .i64 i.mx,.int .u64 (aB i.s 0),.int .u64 (aB i.s 1),.int .u64 (aB i.s 2),.int .u64 (aB i.s 3)] 54 (0,0))):=aD ((hgrow.block _ (by have:=aC X2a.o;simp;omega) (fun e=>aJ R2a.o X2a.o (by decide) e.symm)).trans ((Below.heap_alloc _ _ _ (aC X2a.o)).trans X2a.o))
 have l3:=aC X3.o
 obtain⟨g3,c3,rfl,-⟩:=SR.split R3.o (by simp)
 clear hown hgrow hblk
 have d2:=aA X3.o (i:=2) rfl
 have ICy:=aD (ITy.o _ (HT.o.kept B3.o))
 go_wp2_with first
  |(go_at_call 34;(with_reducible refine(aU _ _ _).mono ?_);rintro e w7 ⟨rfl,rfl⟩)
  |(go_at_call 51;(with_reducible refine(ICy.o).mono ?_);rintro e v4 ⟨rfl,h5⟩;have R3a:=aD (aL R3.o (Fr.of_below (S:=fun _=>False) h5) (fun _ _ q=>q));have B3a:=aD (aF B3.o h5 lz9);have X3a:=aD ((h5.block _ l3).trans X3.o);clear h5)
  |(at_builtin;refine wpList_append_own_at _ rfl _ _ 69 rfl w.heap.size 9 t0 (.string ⟨#[]⟩) 1 16 bD hi hz0 hz1 hz2 rfl (by decide) _ 2 (stC [[115,112,108,105,116],tx]) rfl (i9 R3a.o _) ⟨v4.heap.size,0,none⟩ 1 1 [.string (txt ty)] rfl rfl (bH _ _ _) (by simp [Value.oneCell']) ?c3 ?c4 ?c5 ?_)
 case c3=>unfold maxLen;omega
 case c4=>omega
 case c5=>have:=B3a.o.size;simp;omega
 intro p4 w4x hown hgrow _ hblk
 have B4:Hid (wBl w w4x):=aD ((B3a.o.alloc (by have:=B3a.o.size;omega) _).grown hgrow (by have:=B3a.o.size;simp;omega) (fun k hk=>(aH R3a.o hk).1))
 have R4:Hid (SR w.heap.size w4x p4 [[115,112,108,105,116],tx,ty]):=hown
 have X4:Hid (w4x.heap[w.heap.size]?=some (.cells #[.int .i64 2,.int .i64 i.x,.int .i64 i.y,.int .i64 i.n,.int .i64 i.mn,.int .i64 i.mx,.int .u64 (aB i.s 0),.int .u64 (aB i.s 1),.int .u64 (aB i.s 2),.int .u64 (aB i.s 3)] 54 (0,0))):=aD ((hgrow.block _ (by have:=aC X3a.o;simp;omega) (fun e=>aJ R3a.o X3a.o (by decide) e.symm)).trans ((Below.heap_alloc _ _ _ (aC X3a.o)).trans X3a.o))
 have l4:=aC X4.o
 obtain⟨g4,c4,rfl,-⟩:=SR.split R4.o (by simp)
 clear hown hgrow hblk
 go_wp2_with (go_at_call 34;(with_reducible refine(aU _ _ _).mono ?_);rintro e w7 ⟨rfl,rfl⟩)
 go_ret
 exact⟨_,rfl,R4.o,B4.o⟩
theorem wG{w:World}(hT:T14 w)(i:Ins)(hi0:i.op=3)(hx:Sm i.x):Calls Tryz.prog 27 #[.agg #[.int .i64 i.op,.int .i64 i.x,.int .i64 i.y,.int .i64 i.n,.int .i64 i.mn,.int .i64 i.mx,.int .u64 (aB i.s 0),.int .u64 (aB i.s 1),.int .u64 (aB i.s 2),.int .u64 (aB i.s 3)]] w (SRR w [[106,117,109,112],Lib.itoa i.x]):=by
 have B1:Hid (wBl w (w.alloc (.cells #[.int .i64 i.op,.int .i64 i.x,.int .i64 i.y,.int .i64 i.n,.int .i64 i.mn,.int .i64 i.mx,.int .u64 (aB i.s 0),.int .u64 (aB i.s 1),.int .u64 (aB i.s 2),.int .u64 (aB i.s 3)] 54))):=bz9
 have X1:Hid ((w.alloc (.cells #[.int .i64 i.op,.int .i64 i.x,.int .i64 i.y,.int .i64 i.n,.int .i64 i.mn,.int .i64 i.mx,.int .u64 (aB i.s 0),.int .u64 (aB i.s 1),.int .u64 (aB i.s 2),.int .u64 (aB i.s 3)] 54)).heap[w.heap.size]?=some (.cells #[.int .i64 i.op,.int .i64 i.x,.int .i64 i.y,.int .i64 i.n,.int .i64 i.mn,.int .i64 i.mx,.int .u64 (aB i.s 0),.int .u64 (aB i.s 1),.int .u64 (aB i.s 2),.int .u64 (aB i.s 3)] 54 (0,0))):=aE w _
 have HT:=aD hT
 rw [hi0] at X1
 rw [hi0] at B1
 rw [hi0]
 have ITx:=aD (fun (V:World) (hV:T14 V)=>dI hV hx.1 hx.2)
 obtain⟨tx,htx⟩:∃ t,Lib.itoa i.x=t:=⟨_,rfl⟩
 rw [htx] at ITx ⊢
 clear htx
 obtain⟨t0,hi,hz0,hz1,hz2⟩:=info_parts bG
 have hs:=fun (W:World)=>(show Calls Tryz.prog 33 #[.int .i64 3] W fun e w'=>e=.returned (.tuple #[.string (txt [106,117,109,112]),.int .i64 2])/\w'=W from aO 3 W)
 have q24:hsT 2 24=false:=by decide
 have q32:hsT 2 32=false:=by decide
 have q2:hsT 2 2=true:=by decide
 have q4:hsT 2 4=false:=by decide
 have q1:hsT 2 1=false:=by decide
 clear hT hi0
 go_enter Tryz.func27,Tryz.ntmps27
 go_upto_region 1 with fail
 generalize (w.alloc (.cells #[.int .i64 3,.int .i64 i.x,.int .i64 i.y,.int .i64 i.n,.int .i64 i.mn,.int .i64 i.mx,.int .u64 (aB i.s 0),.int .u64 (aB i.s 1),.int .u64 (aB i.s 2),.int .u64 (aB i.s 3)] 54))=w1 at B1 X1 ⊢
 have c0:w1.cell? ⟨w.heap.size,0,none⟩=some (.int .i64 3):=aA X1.o (i:=0) rfl
 have l1:=aC X1.o
 go_upto_region 3 with (go_at_call 33;(with_reducible refine(hs _).mono ?_);rintro e w5 ⟨rfl,rfl⟩)
 have R2:Hid (SR w.heap.size (w5.alloc (.cells #[.string (txt [106,117,109,112])] 9)) (.slice (some ⟨w5.heap.size,0,none⟩) 1 1) [[106,117,109,112]]):=dB w5 _ (by omega)
 have B2:Hid (wBl w (w5.alloc (.cells #[.string (txt [106,117,109,112])] 9))):=aF B1.o (bz9) lz9
 have X2:Hid ((w5.alloc (.cells #[.string (txt [106,117,109,112])] 9)).heap[w.heap.size]?=some (.cells #[.int .i64 3,.int .i64 i.x,.int .i64 i.y,.int .i64 i.n,.int .i64 i.mn,.int .i64 i.mx,.int .u64 (aB i.s 0),.int .u64 (aB i.s 1),.int .u64 (aB i.s 2),.int .u64 (aB i.s 3)] 54 (0,0))):=(Below.heap_alloc _ _ _ l1).trans X1.o
 clear c0 B1 X1 hs
 generalize (w5.alloc (.cells #[.string (txt [106,117,109,112])] 9))=w6 at B2 X2 R2 ⊢
 have l2:=aC X2.o
 have d1:=aA X2.o (i:=1) rfl
 have ICx:=aD (ITx.o _ (HT.o.kept B2.o))
 go_wp2_with first
  |(go_at_call 34;(with_reducible refine(aU _ _ _).mono ?_);rintro e w7 ⟨rfl,rfl⟩)
  |(go_at_call 51;(with_reducible refine(ICx.o).mono ?_);rintro e v3 ⟨rfl,h5⟩;have R2a:=aD (aL R2.o (Fr.of_below (S:=fun _=>False) h5) (fun _ _ q=>q));have B2a:=aD (aF B2.o h5 lz9);have X2a:=aD ((h5.block _ l2).trans X2.o);clear h5)
  |(at_builtin;refine wpList_append_own_at _ rfl _ _ 69 rfl w.heap.size 9 t0 (.string ⟨#[]⟩) 1 16 bD hi hz0 hz1 hz2 rfl (by decide) _ 1 (stC [[106,117,109,112]]) rfl (i9 R2a.o _) ⟨v3.heap.size,0,none⟩ 1 1 [.string (txt tx)] rfl rfl (bH _ _ _) (by simp [Value.oneCell']) ?c3 ?c4 ?c5 ?_)
 case c3=>unfold maxLen;omega
 case c4=>omega
 case c5=>have:=B2a.o.size;simp;omega
 intro p3 w3x hown hgrow _ hblk
 have B3:Hid (wBl w w3x):=aD ((B2a.o.alloc (by have:=B2a.o.size;omega) _).grown hgrow (by have:=B2a.o.size;simp;omega) (fun k hk=>(aH R2a.o hk).1))
 have R3:Hid (SR w.heap.size w3x p3 [[106,117,109,112],tx]):=hown
 have X3:Hid (w3x.heap[w.heap.size]?=some (.cells #[.int .i64 3,.int .i64 i.x,.int .i64 i.y,.int .i64 i.n,.int .i64 i.mn,.int .i64 i.mx,.int .u64 (aB i.s 0),.int .u64 (aB i.s 1),.int .u64 (aB i.s 2),.int .u64 (aB i.s 3)] 54 (0,0))):=aD ((hgrow.block _ (by have:=aC X2a.o;simp;omega) (fun e=>aJ R2a.o X2a.o (by decide) e.symm)).trans ((Below.heap_alloc _ _ _ (aC X2a.o)).trans X2a.o))
 have l3:=aC X3.o
 obtain⟨g3,c3,rfl,-⟩:=SR.split R3.o (by simp)
 clear hown hgrow hblk
 go_wp2_with (go_at_call 34;(with_reducible refine(aU _ _ _).mono ?_);rintro e w7 ⟨rfl,rfl⟩)
 go_ret
 exact⟨_,rfl,R3.o,B3.o⟩
theorem wF{w:World}(hT:T14 w)(i:Ins)(hi0:i.op=4):Calls Tryz.prog 27 #[.agg #[.int .i64 i.op,.int .i64 i.x,.int .i64 i.y,.int .i64 i.n,.int .i64 i.mn,.int .i64 i.mx,.int .u64 (aB i.s 0),.int .u64 (aB i.s 1),.int .u64 (aB i.s 2),.int .u64 (aB i.s 3)]] w (SRR w [[98,101,103,105,110]]):=by
 have B1:Hid (wBl w (w.alloc (.cells #[.int .i64 i.op,.int .i64 i.x,.int .i64 i.y,.int .i64 i.n,.int .i64 i.mn,.int .i64 i.mx,.int .u64 (aB i.s 0),.int .u64 (aB i.s 1),.int .u64 (aB i.s 2),.int .u64 (aB i.s 3)] 54))):=bz9
 have X1:Hid ((w.alloc (.cells #[.int .i64 i.op,.int .i64 i.x,.int .i64 i.y,.int .i64 i.n,.int .i64 i.mn,.int .i64 i.mx,.int .u64 (aB i.s 0),.int .u64 (aB i.s 1),.int .u64 (aB i.s 2),.int .u64 (aB i.s 3)] 54)).heap[w.heap.size]?=some (.cells #[.int .i64 i.op,.int .i64 i.x,.int .i64 i.y,.int .i64 i.n,.int .i64 i.mn,.int .i64 i.mx,.int .u64 (aB i.s 0),.int .u64 (aB i.s 1),.int .u64 (aB i.s 2),.int .u64 (aB i.s 3)] 54 (0,0))):=aE w _
 have HT:=aD hT
 rw [hi0] at X1
 rw [hi0] at B1
 rw [hi0]
 obtain⟨t0,hi,hz0,hz1,hz2⟩:=info_parts bG
 have hs:=fun (W:World)=>(show Calls Tryz.prog 33 #[.int .i64 4] W fun e w'=>e=.returned (.tuple #[.string (txt [98,101,103,105,110]),.int .i64 64])/\w'=W from aO 4 W)
 have q24:hsT 64 24=false:=by decide
 have q32:hsT 64 32=false:=by decide
 have q2:hsT 64 2=false:=by decide
 have q4:hsT 64 4=false:=by decide
 have q1:hsT 64 1=false:=by decide
 clear hT hi0
 go_enter Tryz.func27,Tryz.ntmps27
 go_upto_region 1 with fail
 generalize (w.alloc (.cells #[.int .i64 4,.int .i64 i.x,.int .i64 i.y,.int .i64 i.n,.int .i64 i.mn,.int .i64 i.mx,.int .u64 (aB i.s 0),.int .u64 (aB i.s 1),.int .u64 (aB i.s 2),.int .u64 (aB i.s 3)] 54))=w1 at B1 X1 ⊢
 have c0:w1.cell? ⟨w.heap.size,0,none⟩=some (.int .i64 4):=aA X1.o (i:=0) rfl
 have l1:=aC X1.o
 go_upto_region 3 with (go_at_call 33;(with_reducible refine(hs _).mono ?_);rintro e w5 ⟨rfl,rfl⟩)
 have R2:Hid (SR w.heap.size (w5.alloc (.cells #[.string (txt [98,101,103,105,110])] 9)) (.slice (some ⟨w5.heap.size,0,none⟩) 1 1) [[98,101,103,105,110]]):=dB w5 _ (by omega)
 have B2:Hid (wBl w (w5.alloc (.cells #[.string (txt [98,101,103,105,110])] 9))):=aF B1.o (bz9) lz9
 have X2:Hid ((w5.alloc (.cells #[.string (txt [98,101,103,105,110])] 9)).heap[w.heap.size]?=some (.cells #[.int .i64 4,.int .i64 i.x,.int .i64 i.y,.int .i64 i.n,.int .i64 i.mn,.int .i64 i.mx,.int .u64 (aB i.s 0),.int .u64 (aB i.s 1),.int .u64 (aB i.s 2),.int .u64 (aB i.s 3)] 54 (0,0))):=(Below.heap_alloc _ _ _ l1).trans X1.o
 clear c0 B1 X1 hs
 generalize (w5.alloc (.cells #[.string (txt [98,101,103,105,110])] 9))=w6 at B2 X2 R2 ⊢
 have l2:=aC X2.o
 go_wp2_with (go_at_call 34;(with_reducible refine(aU _ _ _).mono ?_);rintro e w7 ⟨rfl,rfl⟩)
 go_ret
 exact⟨_,rfl,R2.o,B2.o⟩
theorem wE{w:World}(hT:T14 w)(i:Ins)(hi0:i.op=5):Calls Tryz.prog 27 #[.agg #[.int .i64 i.op,.int .i64 i.x,.int .i64 i.y,.int .i64 i.n,.int .i64 i.mn,.int .i64 i.mx,.int .u64 (aB i.s 0),.int .u64 (aB i.s 1),.int .u64 (aB i.s 2),.int .u64 (aB i.s 3)]] w (SRR w [[101,110,100]]):=by
 have B1:Hid (wBl w (w.alloc (.cells #[.int .i64 i.op,.int .i64 i.x,.int .i64 i.y,.int .i64 i.n,.int .i64 i.mn,.int .i64 i.mx,.int .u64 (aB i.s 0),.int .u64 (aB i.s 1),.int .u64 (aB i.s 2),.int .u64 (aB i.s 3)] 54))):=bz9
 have X1:Hid ((w.alloc (.cells #[.int .i64 i.op,.int .i64 i.x,.int .i64 i.y,.int .i64 i.n,.int .i64 i.mn,.int .i64 i.mx,.int .u64 (aB i.s 0),.int .u64 (aB i.s 1),.int .u64 (aB i.s 2),.int .u64 (aB i.s 3)] 54)).heap[w.heap.size]?=some (.cells #[.int .i64 i.op,.int .i64 i.x,.int .i64 i.y,.int .i64 i.n,.int .i64 i.mn,.int .i64 i.mx,.int .u64 (aB i.s 0),.int .u64 (aB i.s 1),.int .u64 (aB i.s 2),.int .u64 (aB i.s 3)] 54 (0,0))):=aE w _
 have HT:=aD hT
 rw [hi0] at X1
 rw [hi0] at B1
 rw [hi0]
 obtain⟨t0,hi,hz0,hz1,hz2⟩:=info_parts bG
 have hs:=fun (W:World)=>(show Calls Tryz.prog 33 #[.int .i64 5] W fun e w'=>e=.returned (.tuple #[.string (txt [101,110,100]),.int .i64 64])/\w'=W from aO 5 W)
 have q24:hsT 64 24=false:=by decide
 have q32:hsT 64 32=false:=by decide
 have q2:hsT 64 2=false:=by decide
 have q4:hsT 64 4=false:=by decide
 have q1:hsT 64 1=false:=by decide
 clear hT hi0
 go_enter Tryz.func27,Tryz.ntmps27
 go_upto_region 1 with fail
 generalize (w.alloc (.cells #[.int .i64 5,.int .i64 i.x,.int .i64 i.y,.int .i64 i.n,.int .i64 i.mn,.int .i64 i.mx,.int .u64 (aB i.s 0),.int .u64 (aB i.s 1),.int .u64 (aB i.s 2),.int .u64 (aB i.s 3)] 54))=w1 at B1 X1 ⊢
 have c0:w1.cell? ⟨w.heap.size,0,none⟩=some (.int .i64 5):=aA X1.o (i:=0) rfl
 have l1:=aC X1.o
 go_upto_region 3 with (go_at_call 33;(with_reducible refine(hs _).mono ?_);rintro e w5 ⟨rfl,rfl⟩)
 have R2:Hid (SR w.heap.size (w5.alloc (.cells #[.string (txt [101,110,100])] 9)) (.slice (some ⟨w5.heap.size,0,none⟩) 1 1) [[101,110,100]]):=dB w5 _ (by omega)
 have B2:Hid (wBl w (w5.alloc (.cells #[.string (txt [101,110,100])] 9))):=aF B1.o (bz9) lz9
 have X2:Hid ((w5.alloc (.cells #[.string (txt [101,110,100])] 9)).heap[w.heap.size]?=some (.cells #[.int .i64 5,.int .i64 i.x,.int .i64 i.y,.int .i64 i.n,.int .i64 i.mn,.int .i64 i.mx,.int .u64 (aB i.s 0),.int .u64 (aB i.s 1),.int .u64 (aB i.s 2),.int .u64 (aB i.s 3)] 54 (0,0))):=(Below.heap_alloc _ _ _ l1).trans X1.o
 clear c0 B1 X1 hs
 generalize (w5.alloc (.cells #[.string (txt [101,110,100])] 9))=w6 at B2 X2 R2 ⊢
 have l2:=aC X2.o
 go_wp2_with (go_at_call 34;(with_reducible refine(aU _ _ _).mono ?_);rintro e w7 ⟨rfl,rfl⟩)
 go_ret
 exact⟨_,rfl,R2.o,B2.o⟩
theorem wD{w:World}(hT:T14 w)(i:Ins)(hi0:i.op=6)(hn:Sm i.n):Calls Tryz.prog 27 #[.agg #[.int .i64 i.op,.int .i64 i.x,.int .i64 i.y,.int .i64 i.n,.int .i64 i.mn,.int .i64 i.mx,.int .u64 (aB i.s 0),.int .u64 (aB i.s 1),.int .u64 (aB i.s 2),.int .u64 (aB i.s 3)]] w (SRR w [[111,112,101,110],Lib.itoa i.n]):=by
 have B1:Hid (wBl w (w.alloc (.cells #[.int .i64 i.op,.int .i64 i.x,.int .i64 i.y,.int .i64 i.n,.int .i64 i.mn,.int .i64 i.mx,.int .u64 (aB i.s 0),.int .u64 (aB i.s 1),.int .u64 (aB i.s 2),.int .u64 (aB i.s 3)] 54))):=bz9
 have X1:Hid ((w.alloc (.cells #[.int .i64 i.op,.int .i64 i.x,.int .i64 i.y,.int .i64 i.n,.int .i64 i.mn,.int .i64 i.mx,.int .u64 (aB i.s 0),.int .u64 (aB i.s 1),.int .u64 (aB i.s 2),.int .u64 (aB i.s 3)] 54)).heap[w.heap.size]?=some (.cells #[.int .i64 i.op,.int .i64 i.x,.int .i64 i.y,.int .i64 i.n,.int .i64 i.mn,.int .i64 i.mx,.int .u64 (aB i.s 0),.int .u64 (aB i.s 1),.int .u64 (aB i.s 2),.int .u64 (aB i.s 3)] 54 (0,0))):=aE w _
 have HT:=aD hT
 rw [hi0] at X1
 rw [hi0] at B1
 rw [hi0]
 have ITn:=aD (fun (V:World) (hV:T14 V)=>dI hV hn.1 hn.2)
 obtain⟨tn,htn⟩:∃ t,Lib.itoa i.n=t:=⟨_,rfl⟩
 rw [htn] at ITn ⊢
 clear htn
 obtain⟨t0,hi,hz0,hz1,hz2⟩:=info_parts bG
 have hs:=fun (W:World)=>(show Calls Tryz.prog 33 #[.int .i64 6] W fun e w'=>e=.returned (.tuple #[.string (txt [111,112,101,110]),.int .i64 72])/\w'=W from aO 6 W)
 have q24:hsT 72 24=true:=by decide
 have q32:hsT 72 32=false:=by decide
 have q2:hsT 72 2=false:=by decide
 have q4:hsT 72 4=false:=by decide
 have q1:hsT 72 1=false:=by decide
 clear hT hi0
 go_enter Tryz.func27,Tryz.ntmps27
 go_upto_region 1 with fail
 generalize (w.alloc (.cells #[.int .i64 6,.int .i64 i.x,.int .i64 i.y,.int .i64 i.n,.int .i64 i.mn,.int .i64 i.mx,.int .u64 (aB i.s 0),.int .u64 (aB i.s 1),.int .u64 (aB i.s 2),.int .u64 (aB i.s 3)] 54))=w1 at B1 X1 ⊢
 have c0:w1.cell? ⟨w.heap.size,0,none⟩=some (.int .i64 6):=aA X1.o (i:=0) rfl
 have l1:=aC X1.o
 go_upto_region 3 with (go_at_call 33;(with_reducible refine(hs _).mono ?_);rintro e w5 ⟨rfl,rfl⟩)
 have R2:Hid (SR w.heap.size (w5.alloc (.cells #[.string (txt [111,112,101,110])] 9)) (.slice (some ⟨w5.heap.size,0,none⟩) 1 1) [[111,112,101,110]]):=dB w5 _ (by omega)
 have B2:Hid (wBl w (w5.alloc (.cells #[.string (txt [111,112,101,110])] 9))):=aF B1.o (bz9) lz9
 have X2:Hid ((w5.alloc (.cells #[.string (txt [111,112,101,110])] 9)).heap[w.heap.size]?=some (.cells #[.int .i64 6,.int .i64 i.x,.int .i64 i.y,.int .i64 i.n,.int .i64 i.mn,.int .i64 i.mx,.int .u64 (aB i.s 0),.int .u64 (aB i.s 1),.int .u64 (aB i.s 2),.int .u64 (aB i.s 3)] 54 (0,0))):=(Below.heap_alloc _ _ _ l1).trans X1.o
 clear c0 B1 X1 hs
 generalize (w5.alloc (.cells #[.string (txt [111,112,101,110])] 9))=w6 at B2 X2 R2 ⊢
 have l2:=aC X2.o
 have d3:=aA X2.o (i:=3) rfl
 have ICn:=aD (ITn.o _ (HT.o.kept B2.o))
 go_wp2_with first
  |(go_at_call 34;(with_reducible refine(aU _ _ _).mono ?_);rintro e w7 ⟨rfl,rfl⟩)
  |(go_at_call 51;(with_reducible refine(ICn.o).mono ?_);rintro e v3 ⟨rfl,h5⟩;have R2a:=aD (aL R2.o (Fr.of_below (S:=fun _=>False) h5) (fun _ _ q=>q));have B2a:=aD (aF B2.o h5 lz9);have X2a:=aD ((h5.block _ l2).trans X2.o);clear h5)
  |(at_builtin;refine wpList_append_own_at _ rfl _ _ 69 rfl w.heap.size 9 t0 (.string ⟨#[]⟩) 1 16 bD hi hz0 hz1 hz2 rfl (by decide) _ 1 (stC [[111,112,101,110]]) rfl (i9 R2a.o _) ⟨v3.heap.size,0,none⟩ 1 1 [.string (txt tn)] rfl rfl (bH _ _ _) (by simp [Value.oneCell']) ?c3 ?c4 ?c5 ?_)
 case c3=>unfold maxLen;omega
 case c4=>omega
 case c5=>have:=B2a.o.size;simp;omega
 intro p3 w3x hown hgrow _ hblk
 have B3:Hid (wBl w w3x):=aD ((B2a.o.alloc (by have:=B2a.o.size;omega) _).grown hgrow (by have:=B2a.o.size;simp;omega) (fun k hk=>(aH R2a.o hk).1))
 have R3:Hid (SR w.heap.size w3x p3 [[111,112,101,110],tn]):=hown
 have X3:Hid (w3x.heap[w.heap.size]?=some (.cells #[.int .i64 6,.int .i64 i.x,.int .i64 i.y,.int .i64 i.n,.int .i64 i.mn,.int .i64 i.mx,.int .u64 (aB i.s 0),.int .u64 (aB i.s 1),.int .u64 (aB i.s 2),.int .u64 (aB i.s 3)] 54 (0,0))):=aD ((hgrow.block _ (by have:=aC X2a.o;simp;omega) (fun e=>aJ R2a.o X2a.o (by decide) e.symm)).trans ((Below.heap_alloc _ _ _ (aC X2a.o)).trans X2a.o))
 have l3:=aC X3.o
 obtain⟨g3,c3,rfl,-⟩:=SR.split R3.o (by simp)
 clear hown hgrow hblk
 go_wp2_with (go_at_call 34;(with_reducible refine(aU _ _ _).mono ?_);rintro e w7 ⟨rfl,rfl⟩)
 go_ret
 exact⟨_,rfl,R3.o,B3.o⟩
theorem wB{w:World}(hT:T14 w)(i:Ins)(hi0:i.op=7)(hn:Sm i.n):Calls Tryz.prog 27 #[.agg #[.int .i64 i.op,.int .i64 i.x,.int .i64 i.y,.int .i64 i.n,.int .i64 i.mn,.int .i64 i.mx,.int .u64 (aB i.s 0),.int .u64 (aB i.s 1),.int .u64 (aB i.s 2),.int .u64 (aB i.s 3)]] w (SRR w [[99,108,111,115,101],Lib.itoa i.n]):=by
 have B1:Hid (wBl w (w.alloc (.cells #[.int .i64 i.op,.int .i64 i.x,.int .i64 i.y,.int .i64 i.n,.int .i64 i.mn,.int .i64 i.mx,.int .u64 (aB i.s 0),.int .u64 (aB i.s 1),.int .u64 (aB i.s 2),.int .u64 (aB i.s 3)] 54))):=bz9
 have X1:Hid ((w.alloc (.cells #[.int .i64 i.op,.int .i64 i.x,.int .i64 i.y,.int .i64 i.n,.int .i64 i.mn,.int .i64 i.mx,.int .u64 (aB i.s 0),.int .u64 (aB i.s 1),.int .u64 (aB i.s 2),.int .u64 (aB i.s 3)] 54)).heap[w.heap.size]?=some (.cells #[.int .i64 i.op,.int .i64 i.x,.int .i64 i.y,.int .i64 i.n,.int .i64 i.mn,.int .i64 i.mx,.int .u64 (aB i.s 0),.int .u64 (aB i.s 1),.int .u64 (aB i.s 2),.int .u64 (aB i.s 3)] 54 (0,0))):=aE w _
 have HT:=aD hT
 rw [hi0] at X1
 rw [hi0] at B1
 rw [hi0]
 have ITn:=aD (fun (V:World) (hV:T14 V)=>dI hV hn.1 hn.2)
 obtain⟨tn,htn⟩:∃ t,Lib.itoa i.n=t:=⟨_,rfl⟩
 rw [htn] at ITn ⊢
 clear htn
 obtain⟨t0,hi,hz0,hz1,hz2⟩:=info_parts bG
 have hs:=fun (W:World)=>(show Calls Tryz.prog 33 #[.int .i64 7] W fun e w'=>e=.returned (.tuple #[.string (txt [99,108,111,115,101]),.int .i64 72])/\w'=W from aO 7 W)
 have q24:hsT 72 24=true:=by decide
 have q32:hsT 72 32=false:=by decide
 have q2:hsT 72 2=false:=by decide
 have q4:hsT 72 4=false:=by decide
 have q1:hsT 72 1=false:=by decide
 clear hT hi0
 go_enter Tryz.func27,Tryz.ntmps27
 go_upto_region 1 with fail
 generalize (w.alloc (.cells #[.int .i64 7,.int .i64 i.x,.int .i64 i.y,.int .i64 i.n,.int .i64 i.mn,.int .i64 i.mx,.int .u64 (aB i.s 0),.int .u64 (aB i.s 1),.int .u64 (aB i.s 2),.int .u64 (aB i.s 3)] 54))=w1 at B1 X1 ⊢
 have c0:w1.cell? ⟨w.heap.size,0,none⟩=some (.int .i64 7):=aA X1.o (i:=0) rfl
 have l1:=aC X1.o
 go_upto_region 3 with (go_at_call 33;(with_reducible refine(hs _).mono ?_);rintro e w5 ⟨rfl,rfl⟩)
 have R2:Hid (SR w.heap.size (w5.alloc (.cells #[.string (txt [99,108,111,115,101])] 9)) (.slice (some ⟨w5.heap.size,0,none⟩) 1 1) [[99,108,111,115,101]]):=dB w5 _ (by omega)
 have B2:Hid (wBl w (w5.alloc (.cells #[.string (txt [99,108,111,115,101])] 9))):=aF B1.o (bz9) lz9
 have X2:Hid ((w5.alloc (.cells #[.string (txt [99,108,111,115,101])] 9)).heap[w.heap.size]?=some (.cells #[.int .i64 7,.int .i64 i.x,.int .i64 i.y,.int .i64 i.n,.int .i64 i.mn,.int .i64 i.mx,.int .u64 (aB i.s 0),.int .u64 (aB i.s 1),.int .u64 (aB i.s 2),.int .u64 (aB i.s 3)] 54 (0,0))):=(Below.heap_alloc _ _ _ l1).trans X1.o
 clear c0 B1 X1 hs
 generalize (w5.alloc (.cells #[.string (txt [99,108,111,115,101])] 9))=w6 at B2 X2 R2 ⊢
 have l2:=aC X2.o
 have d3:=aA X2.o (i:=3) rfl
 have ICn:=aD (ITn.o _ (HT.o.kept B2.o))
 go_wp2_with first
  |(go_at_call 34;(with_reducible refine(aU _ _ _).mono ?_);rintro e w7 ⟨rfl,rfl⟩)
  |(go_at_call 51;(with_reducible refine(ICn.o).mono ?_);rintro e v3 ⟨rfl,h5⟩;have R2a:=aD (aL R2.o (Fr.of_below (S:=fun _=>False) h5) (fun _ _ q=>q));have B2a:=aD (aF B2.o h5 lz9);have X2a:=aD ((h5.block _ l2).trans X2.o);clear h5)
  |(at_builtin;refine wpList_append_own_at _ rfl _ _ 69 rfl w.heap.size 9 t0 (.string ⟨#[]⟩) 1 16 bD hi hz0 hz1 hz2 rfl (by decide) _ 1 (stC [[99,108,111,115,101]]) rfl (i9 R2a.o _) ⟨v3.heap.size,0,none⟩ 1 1 [.string (txt tn)] rfl rfl (bH _ _ _) (by simp [Value.oneCell']) ?c3 ?c4 ?c5 ?_)
 case c3=>unfold maxLen;omega
 case c4=>omega
 case c5=>have:=B2a.o.size;simp;omega
 intro p3 w3x hown hgrow _ hblk
 have B3:Hid (wBl w w3x):=aD ((B2a.o.alloc (by have:=B2a.o.size;omega) _).grown hgrow (by have:=B2a.o.size;simp;omega) (fun k hk=>(aH R2a.o hk).1))
 have R3:Hid (SR w.heap.size w3x p3 [[99,108,111,115,101],tn]):=hown
 have X3:Hid (w3x.heap[w.heap.size]?=some (.cells #[.int .i64 7,.int .i64 i.x,.int .i64 i.y,.int .i64 i.n,.int .i64 i.mn,.int .i64 i.mx,.int .u64 (aB i.s 0),.int .u64 (aB i.s 1),.int .u64 (aB i.s 2),.int .u64 (aB i.s 3)] 54 (0,0))):=aD ((hgrow.block _ (by have:=aC X2a.o;simp;omega) (fun e=>aJ R2a.o X2a.o (by decide) e.symm)).trans ((Below.heap_alloc _ _ _ (aC X2a.o)).trans X2a.o))
 have l3:=aC X3.o
 obtain⟨g3,c3,rfl,-⟩:=SR.split R3.o (by simp)
 clear hown hgrow hblk
 go_wp2_with (go_at_call 34;(with_reducible refine(aU _ _ _).mono ?_);rintro e w7 ⟨rfl,rfl⟩)
 go_ret
 exact⟨_,rfl,R3.o,B3.o⟩
theorem vZ{w:World}(hT:T14 w)(i:Ins)(hi0:i.op=8)(hn:Sm i.n):Calls Tryz.prog 27 #[.agg #[.int .i64 i.op,.int .i64 i.x,.int .i64 i.y,.int .i64 i.n,.int .i64 i.mn,.int .i64 i.mx,.int .u64 (aB i.s 0),.int .u64 (aB i.s 1),.int .u64 (aB i.s 2),.int .u64 (aB i.s 3)]] w (SRR w [[98,97,99,107],Lib.itoa i.n]):=by
 have B1:Hid (wBl w (w.alloc (.cells #[.int .i64 i.op,.int .i64 i.x,.int .i64 i.y,.int .i64 i.n,.int .i64 i.mn,.int .i64 i.mx,.int .u64 (aB i.s 0),.int .u64 (aB i.s 1),.int .u64 (aB i.s 2),.int .u64 (aB i.s 3)] 54))):=bz9
 have X1:Hid ((w.alloc (.cells #[.int .i64 i.op,.int .i64 i.x,.int .i64 i.y,.int .i64 i.n,.int .i64 i.mn,.int .i64 i.mx,.int .u64 (aB i.s 0),.int .u64 (aB i.s 1),.int .u64 (aB i.s 2),.int .u64 (aB i.s 3)] 54)).heap[w.heap.size]?=some (.cells #[.int .i64 i.op,.int .i64 i.x,.int .i64 i.y,.int .i64 i.n,.int .i64 i.mn,.int .i64 i.mx,.int .u64 (aB i.s 0),.int .u64 (aB i.s 1),.int .u64 (aB i.s 2),.int .u64 (aB i.s 3)] 54 (0,0))):=aE w _
 have HT:=aD hT
 rw [hi0] at X1
 rw [hi0] at B1
 rw [hi0]
 have ITn:=aD (fun (V:World) (hV:T14 V)=>dI hV hn.1 hn.2)
 obtain⟨tn,htn⟩:∃ t,Lib.itoa i.n=t:=⟨_,rfl⟩
 rw [htn] at ITn ⊢
 clear htn
 obtain⟨t0,hi,hz0,hz1,hz2⟩:=info_parts bG
 have hs:=fun (W:World)=>(show Calls Tryz.prog 33 #[.int .i64 8] W fun e w'=>e=.returned (.tuple #[.string (txt [98,97,99,107]),.int .i64 72])/\w'=W from aO 8 W)
 have q24:hsT 72 24=true:=by decide
 have q32:hsT 72 32=false:=by decide
 have q2:hsT 72 2=false:=by decide
 have q4:hsT 72 4=false:=by decide
 have q1:hsT 72 1=false:=by decide
 clear hT hi0
 go_enter Tryz.func27,Tryz.ntmps27
 go_upto_region 1 with fail
 generalize (w.alloc (.cells #[.int .i64 8,.int .i64 i.x,.int .i64 i.y,.int .i64 i.n,.int .i64 i.mn,.int .i64 i.mx,.int .u64 (aB i.s 0),.int .u64 (aB i.s 1),.int .u64 (aB i.s 2),.int .u64 (aB i.s 3)] 54))=w1 at B1 X1 ⊢
 have c0:w1.cell? ⟨w.heap.size,0,none⟩=some (.int .i64 8):=aA X1.o (i:=0) rfl
 have l1:=aC X1.o
 go_upto_region 3 with (go_at_call 33;(with_reducible refine(hs _).mono ?_);rintro e w5 ⟨rfl,rfl⟩)
 have R2:Hid (SR w.heap.size (w5.alloc (.cells #[.string (txt [98,97,99,107])] 9)) (.slice (some ⟨w5.heap.size,0,none⟩) 1 1) [[98,97,99,107]]):=dB w5 _ (by omega)
 have B2:Hid (wBl w (w5.alloc (.cells #[.string (txt [98,97,99,107])] 9))):=aF B1.o (bz9) lz9
 have X2:Hid ((w5.alloc (.cells #[.string (txt [98,97,99,107])] 9)).heap[w.heap.size]?=some (.cells #[.int .i64 8,.int .i64 i.x,.int .i64 i.y,.int .i64 i.n,.int .i64 i.mn,.int .i64 i.mx,.int .u64 (aB i.s 0),.int .u64 (aB i.s 1),.int .u64 (aB i.s 2),.int .u64 (aB i.s 3)] 54 (0,0))):=(Below.heap_alloc _ _ _ l1).trans X1.o
 clear c0 B1 X1 hs
 generalize (w5.alloc (.cells #[.string (txt [98,97,99,107])] 9))=w6 at B2 X2 R2 ⊢
 have l2:=aC X2.o
 have d3:=aA X2.o (i:=3) rfl
 have ICn:=aD (ITn.o _ (HT.o.kept B2.o))
 go_wp2_with first
  |(go_at_call 34;(with_reducible refine(aU _ _ _).mono ?_);rintro e w7 ⟨rfl,rfl⟩)
  |(go_at_call 51;(with_reducible refine(ICn.o).mono ?_);rintro e v3 ⟨rfl,h5⟩;have R2a:=aD (aL R2.o (Fr.of_below (S:=fun _=>False) h5) (fun _ _ q=>q));have B2a:=aD (aF B2.o h5 lz9);have X2a:=aD ((h5.block _ l2).trans X2.o);clear h5)
  |(at_builtin;refine wpList_append_own_at _ rfl _ _ 69 rfl w.heap.size 9 t0 (.string ⟨#[]⟩) 1 16 bD hi hz0 hz1 hz2 rfl (by decide) _ 1 (stC [[98,97,99,107]]) rfl (i9 R2a.o _) ⟨v3.heap.size,0,none⟩ 1 1 [.string (txt tn)] rfl rfl (bH _ _ _) (by simp [Value.oneCell']) ?c3 ?c4 ?c5 ?_)
 case c3=>unfold maxLen;omega
 case c4=>omega
 case c5=>have:=B2a.o.size;simp;omega
 intro p3 w3x hown hgrow _ hblk
 have B3:Hid (wBl w w3x):=aD ((B2a.o.alloc (by have:=B2a.o.size;omega) _).grown hgrow (by have:=B2a.o.size;simp;omega) (fun k hk=>(aH R2a.o hk).1))
 have R3:Hid (SR w.heap.size w3x p3 [[98,97,99,107],tn]):=hown
 have X3:Hid (w3x.heap[w.heap.size]?=some (.cells #[.int .i64 8,.int .i64 i.x,.int .i64 i.y,.int .i64 i.n,.int .i64 i.mn,.int .i64 i.mx,.int .u64 (aB i.s 0),.int .u64 (aB i.s 1),.int .u64 (aB i.s 2),.int .u64 (aB i.s 3)] 54 (0,0))):=aD ((hgrow.block _ (by have:=aC X2a.o;simp;omega) (fun e=>aJ R2a.o X2a.o (by decide) e.symm)).trans ((Below.heap_alloc _ _ _ (aC X2a.o)).trans X2a.o))
 have l3:=aC X3.o
 obtain⟨g3,c3,rfl,-⟩:=SR.split R3.o (by simp)
 clear hown hgrow hblk
 go_wp2_with (go_at_call 34;(with_reducible refine(aU _ _ _).mono ?_);rintro e w7 ⟨rfl,rfl⟩)
 go_ret
 exact⟨_,rfl,R3.o,B3.o⟩
theorem vY{w:World}(hT:T14 w)(i:Ins)(hi0:i.op=9)(hn:Sm i.n):Calls Tryz.prog 27 #[.agg #[.int .i64 i.op,.int .i64 i.x,.int .i64 i.y,.int .i64 i.n,.int .i64 i.mn,.int .i64 i.mx,.int .u64 (aB i.s 0),.int .u64 (aB i.s 1),.int .u64 (aB i.s 2),.int .u64 (aB i.s 3)]] w (SRR w [[122,101,114,111],Lib.itoa i.n]):=by
 have B1:Hid (wBl w (w.alloc (.cells #[.int .i64 i.op,.int .i64 i.x,.int .i64 i.y,.int .i64 i.n,.int .i64 i.mn,.int .i64 i.mx,.int .u64 (aB i.s 0),.int .u64 (aB i.s 1),.int .u64 (aB i.s 2),.int .u64 (aB i.s 3)] 54))):=bz9
 have X1:Hid ((w.alloc (.cells #[.int .i64 i.op,.int .i64 i.x,.int .i64 i.y,.int .i64 i.n,.int .i64 i.mn,.int .i64 i.mx,.int .u64 (aB i.s 0),.int .u64 (aB i.s 1),.int .u64 (aB i.s 2),.int .u64 (aB i.s 3)] 54)).heap[w.heap.size]?=some (.cells #[.int .i64 i.op,.int .i64 i.x,.int .i64 i.y,.int .i64 i.n,.int .i64 i.mn,.int .i64 i.mx,.int .u64 (aB i.s 0),.int .u64 (aB i.s 1),.int .u64 (aB i.s 2),.int .u64 (aB i.s 3)] 54 (0,0))):=aE w _
 have HT:=aD hT
 rw [hi0] at X1
 rw [hi0] at B1
 rw [hi0]
 have ITn:=aD (fun (V:World) (hV:T14 V)=>dI hV hn.1 hn.2)
 obtain⟨tn,htn⟩:∃ t,Lib.itoa i.n=t:=⟨_,rfl⟩
 rw [htn] at ITn ⊢
 clear htn
 obtain⟨t0,hi,hz0,hz1,hz2⟩:=info_parts bG
 have hs:=fun (W:World)=>(show Calls Tryz.prog 33 #[.int .i64 9] W fun e w'=>e=.returned (.tuple #[.string (txt [122,101,114,111]),.int .i64 80])/\w'=W from aO 9 W)
 have q24:hsT 80 24=true:=by decide
 have q32:hsT 80 32=false:=by decide
 have q2:hsT 80 2=false:=by decide
 have q4:hsT 80 4=false:=by decide
 have q1:hsT 80 1=false:=by decide
 clear hT hi0
 go_enter Tryz.func27,Tryz.ntmps27
 go_upto_region 1 with fail
 generalize (w.alloc (.cells #[.int .i64 9,.int .i64 i.x,.int .i64 i.y,.int .i64 i.n,.int .i64 i.mn,.int .i64 i.mx,.int .u64 (aB i.s 0),.int .u64 (aB i.s 1),.int .u64 (aB i.s 2),.int .u64 (aB i.s 3)] 54))=w1 at B1 X1 ⊢
 have c0:w1.cell? ⟨w.heap.size,0,none⟩=some (.int .i64 9):=aA X1.o (i:=0) rfl
 have l1:=aC X1.o
 go_upto_region 3 with (go_at_call 33;(with_reducible refine(hs _).mono ?_);rintro e w5 ⟨rfl,rfl⟩)
 have R2:Hid (SR w.heap.size (w5.alloc (.cells #[.string (txt [122,101,114,111])] 9)) (.slice (some ⟨w5.heap.size,0,none⟩) 1 1) [[122,101,114,111]]):=dB w5 _ (by omega)
 have B2:Hid (wBl w (w5.alloc (.cells #[.string (txt [122,101,114,111])] 9))):=aF B1.o (bz9) lz9
 have X2:Hid ((w5.alloc (.cells #[.string (txt [122,101,114,111])] 9)).heap[w.heap.size]?=some (.cells #[.int .i64 9,.int .i64 i.x,.int .i64 i.y,.int .i64 i.n,.int .i64 i.mn,.int .i64 i.mx,.int .u64 (aB i.s 0),.int .u64 (aB i.s 1),.int .u64 (aB i.s 2),.int .u64 (aB i.s 3)] 54 (0,0))):=(Below.heap_alloc _ _ _ l1).trans X1.o
 clear c0 B1 X1 hs
 generalize (w5.alloc (.cells #[.string (txt [122,101,114,111])] 9))=w6 at B2 X2 R2 ⊢
 have l2:=aC X2.o
 have d3:=aA X2.o (i:=3) rfl
 have ICn:=aD (ITn.o _ (HT.o.kept B2.o))
 go_wp2_with first
  |(go_at_call 34;(with_reducible refine(aU _ _ _).mono ?_);rintro e w7 ⟨rfl,rfl⟩)
  |(go_at_call 51;(with_reducible refine(ICn.o).mono ?_);rintro e v3 ⟨rfl,h5⟩;have R2a:=aD (aL R2.o (Fr.of_below (S:=fun _=>False) h5) (fun _ _ q=>q));have B2a:=aD (aF B2.o h5 lz9);have X2a:=aD ((h5.block _ l2).trans X2.o);clear h5)
  |(at_builtin;refine wpList_append_own_at _ rfl _ _ 69 rfl w.heap.size 9 t0 (.string ⟨#[]⟩) 1 16 bD hi hz0 hz1 hz2 rfl (by decide) _ 1 (stC [[122,101,114,111]]) rfl (i9 R2a.o _) ⟨v3.heap.size,0,none⟩ 1 1 [.string (txt tn)] rfl rfl (bH _ _ _) (by simp [Value.oneCell']) ?c3 ?c4 ?c5 ?_)
 case c3=>unfold maxLen;omega
 case c4=>omega
 case c5=>have:=B2a.o.size;simp;omega
 intro p3 w3x hown hgrow _ hblk
 have B3:Hid (wBl w w3x):=aD ((B2a.o.alloc (by have:=B2a.o.size;omega) _).grown hgrow (by have:=B2a.o.size;simp;omega) (fun k hk=>(aH R2a.o hk).1))
 have R3:Hid (SR w.heap.size w3x p3 [[122,101,114,111],tn]):=hown
 have X3:Hid (w3x.heap[w.heap.size]?=some (.cells #[.int .i64 9,.int .i64 i.x,.int .i64 i.y,.int .i64 i.n,.int .i64 i.mn,.int .i64 i.mx,.int .u64 (aB i.s 0),.int .u64 (aB i.s 1),.int .u64 (aB i.s 2),.int .u64 (aB i.s 3)] 54 (0,0))):=aD ((hgrow.block _ (by have:=aC X2a.o;simp;omega) (fun e=>aJ R2a.o X2a.o (by decide) e.symm)).trans ((Below.heap_alloc _ _ _ (aC X2a.o)).trans X2a.o))
 have l3:=aC X3.o
 obtain⟨g3,c3,rfl,-⟩:=SR.split R3.o (by simp)
 clear hown hgrow hblk
 go_wp2_with (go_at_call 34;(with_reducible refine(aU _ _ _).mono ?_);rintro e w7 ⟨rfl,rfl⟩)
 go_ret
 exact⟨_,rfl,R3.o,B3.o⟩
theorem rB{w:World}(hT:T14 w)(i:Ins)(hi0:i.op=11):Calls Tryz.prog 27 #[.agg #[.int .i64 i.op,.int .i64 i.x,.int .i64 i.y,.int .i64 i.n,.int .i64 i.mn,.int .i64 i.mx,.int .u64 (aB i.s 0),.int .u64 (aB i.s 1),.int .u64 (aB i.s 2),.int .u64 (aB i.s 3)]] w (SRR w [[109,97,116,99,104]]):=by
 have B1:Hid (wBl w (w.alloc (.cells #[.int .i64 i.op,.int .i64 i.x,.int .i64 i.y,.int .i64 i.n,.int .i64 i.mn,.int .i64 i.mx,.int .u64 (aB i.s 0),.int .u64 (aB i.s 1),.int .u64 (aB i.s 2),.int .u64 (aB i.s 3)] 54))):=bz9
 have X1:Hid ((w.alloc (.cells #[.int .i64 i.op,.int .i64 i.x,.int .i64 i.y,.int .i64 i.n,.int .i64 i.mn,.int .i64 i.mx,.int .u64 (aB i.s 0),.int .u64 (aB i.s 1),.int .u64 (aB i.s 2),.int .u64 (aB i.s 3)] 54)).heap[w.heap.size]?=some (.cells #[.int .i64 i.op,.int .i64 i.x,.int .i64 i.y,.int .i64 i.n,.int .i64 i.mn,.int .i64 i.mx,.int .u64 (aB i.s 0),.int .u64 (aB i.s 1),.int .u64 (aB i.s 2),.int .u64 (aB i.s 3)] 54 (0,0))):=aE w _
 have HT:=aD hT
 rw [hi0] at X1
 rw [hi0] at B1
 rw [hi0]
 obtain⟨t0,hi,hz0,hz1,hz2⟩:=info_parts bG
 have hs:=fun (W:World)=>(show Calls Tryz.prog 33 #[.int .i64 11] W fun e w'=>e=.returned (.tuple #[.string (txt [109,97,116,99,104]),.int .i64 0])/\w'=W from aO 11 W)
 have q24:hsT 0 24=false:=by decide
 have q32:hsT 0 32=false:=by decide
 have q2:hsT 0 2=false:=by decide
 have q4:hsT 0 4=false:=by decide
 have q1:hsT 0 1=false:=by decide
 clear hT hi0
 go_enter Tryz.func27,Tryz.ntmps27
 go_upto_region 1 with fail
 generalize (w.alloc (.cells #[.int .i64 11,.int .i64 i.x,.int .i64 i.y,.int .i64 i.n,.int .i64 i.mn,.int .i64 i.mx,.int .u64 (aB i.s 0),.int .u64 (aB i.s 1),.int .u64 (aB i.s 2),.int .u64 (aB i.s 3)] 54))=w1 at B1 X1 ⊢
 have c0:w1.cell? ⟨w.heap.size,0,none⟩=some (.int .i64 11):=aA X1.o (i:=0) rfl
 have l1:=aC X1.o
 go_upto_region 3 with (go_at_call 33;(with_reducible refine(hs _).mono ?_);rintro e w5 ⟨rfl,rfl⟩)
 have R2:Hid (SR w.heap.size (w5.alloc (.cells #[.string (txt [109,97,116,99,104])] 9)) (.slice (some ⟨w5.heap.size,0,none⟩) 1 1) [[109,97,116,99,104]]):=dB w5 _ (by omega)
 have B2:Hid (wBl w (w5.alloc (.cells #[.string (txt [109,97,116,99,104])] 9))):=aF B1.o (bz9) lz9
 have X2:Hid ((w5.alloc (.cells #[.string (txt [109,97,116,99,104])] 9)).heap[w.heap.size]?=some (.cells #[.int .i64 11,.int .i64 i.x,.int .i64 i.y,.int .i64 i.n,.int .i64 i.mn,.int .i64 i.mx,.int .u64 (aB i.s 0),.int .u64 (aB i.s 1),.int .u64 (aB i.s 2),.int .u64 (aB i.s 3)] 54 (0,0))):=(Below.heap_alloc _ _ _ l1).trans X1.o
 clear c0 B1 X1 hs
 generalize (w5.alloc (.cells #[.string (txt [109,97,116,99,104])] 9))=w6 at B2 X2 R2 ⊢
 have l2:=aC X2.o
 go_wp2_with (go_at_call 34;(with_reducible refine(aU _ _ _).mono ?_);rintro e w7 ⟨rfl,rfl⟩)
 go_ret
 exact⟨_,rfl,R2.o,B2.o⟩
end
section
attribute [local go_sem] Oper.semAt_some
theorem aH4{w:World}(hG:T14 w){m:Int}(h:m=-1\/Sm m):Calls Tryz.prog 52 #[.int .i64 m] w fun e w'=>e=.returned (.string (txt (if m=-1 then [42] else Lib.itoa m)))/\wBl w w':=by
 by_cases e:m=-1
 ·subst e
  rw [if_pos rfl]
  go_enter Tryz.func52,Tryz.ntmps52
  go_wp2
  go_ret
  exact⟨rfl,Below.refl _ _⟩
 ·rw [if_neg e]
  have hs:Sm m:=h.resolve_left e
  have IT:=aD (dI hG hs.1 hs.2)
  have e1:(m==-1)=false:=by simp [e]
  go_enter Tryz.func52,Tryz.ntmps52
  go_wp2_with (go_at_call 51;(with_reducible refine(IT.o).mono ?_);rintro e w5 ⟨rfl,h5⟩;have B5:=aD h5;clear h5)
  go_ret
  exact⟨rfl,B5.o⟩
theorem rC{w:World}(hT:T14 w)(i:Ins)(hi0:i.op=10)(hn:Sm i.n)(hmn:Sm i.mn)(hmx:i.mx=-1\/Sm i.mx)(hx:Sm i.x)(hy:Sm i.y):Calls Tryz.prog 27 #[.agg #[.int .i64 i.op,.int .i64 i.x,.int .i64 i.y,.int .i64 i.n,.int .i64 i.mn,.int .i64 i.mx,.int .u64 (aB i.s 0),.int .u64 (aB i.s 1),.int .u64 (aB i.s 2),.int .u64 (aB i.s 3)]] w (SRR w [[116,117,114,110],Lib.itoa i.n,Lib.itoa i.mn,(if i.mx=-1 then [42] else Lib.itoa i.mx),Lib.itoa i.x,Lib.itoa i.y]):=by
 have B1:Hid (wBl w (w.alloc (.cells #[.int .i64 i.op,.int .i64 i.x,.int .i64 i.y,.int .i64 i.n,.int .i64 i.mn,.int .i64 i.mx,.int .u64 (aB i.s 0),.int .u64 (aB i.s 1),.int .u64 (aB i.s 2),.int .u64 (aB i.s 3)] 54))):=bz9
 have X1:Hid ((w.alloc (.cells #[.int .i64 i.op,.int .i64 i.x,.int .i64 i.y,.int .i64 i.n,.int .i64 i.mn,.int .i64 i.mx,.int .u64 (aB i.s 0),.int .u64 (aB i.s 1),.int .u64 (aB i.s 2),.int .u64 (aB i.s 3)] 54)).heap[w.heap.size]?=some (.cells #[.int .i64 i.op,.int .i64 i.x,.int .i64 i.y,.int .i64 i.n,.int .i64 i.mn,.int .i64 i.mx,.int .u64 (aB i.s 0),.int .u64 (aB i.s 1),.int .u64 (aB i.s 2),.int .u64 (aB i.s 3)] 54 (0,0))):=aE w _
 have HT:=aD hT
 rw [hi0] at X1
 rw [hi0] at B1
 rw [hi0]
 have ITn:=aD (fun (V:World) (hV:T14 V)=>dI hV hn.1 hn.2)
 have ITmn:=aD (fun (V:World) (hV:T14 V)=>dI hV hmn.1 hmn.2)
 have BNG:=aD (fun (V:World) (hV:T14 V)=>aH4 hV hmx)
 have ITx:=aD (fun (V:World) (hV:T14 V)=>dI hV hx.1 hx.2)
 have ITy:=aD (fun (V:World) (hV:T14 V)=>dI hV hy.1 hy.2)
 obtain⟨tn,htn⟩:∃ t,Lib.itoa i.n=t:=⟨_,rfl⟩
 rw [htn] at ITn ⊢
 clear htn
 obtain⟨tmn,htmn⟩:∃ t,Lib.itoa i.mn=t:=⟨_,rfl⟩
 rw [htmn] at ITmn ⊢
 clear htmn
 obtain⟨tmx,htmx⟩:∃ t,(if i.mx=-1 then [42] else Lib.itoa i.mx)=t:=⟨_,rfl⟩
 rw [htmx] at BNG ⊢
 clear htmx
 obtain⟨tx,htx⟩:∃ t,Lib.itoa i.x=t:=⟨_,rfl⟩
 rw [htx] at ITx ⊢
 clear htx
 obtain⟨ty,hty⟩:∃ t,Lib.itoa i.y=t:=⟨_,rfl⟩
 rw [hty] at ITy ⊢
 clear hty
 obtain⟨t0,hi,hz0,hz1,hz2⟩:=info_parts bG
 have hs:=fun (W:World)=>(show Calls Tryz.prog 33 #[.int .i64 10] W fun e w'=>e=.returned (.tuple #[.string (txt [116,117,114,110]),.int .i64 54])/\w'=W from aO 10 W)
 have q24:hsT 54 24=true:=by decide
 have q32:hsT 54 32=true:=by decide
 have q2:hsT 54 2=true:=by decide
 have q4:hsT 54 4=true:=by decide
 have q1:hsT 54 1=false:=by decide
 clear hT hi0
 go_enter Tryz.func27,Tryz.ntmps27
 go_upto_region 1 with fail
 generalize (w.alloc (.cells #[.int .i64 10,.int .i64 i.x,.int .i64 i.y,.int .i64 i.n,.int .i64 i.mn,.int .i64 i.mx,.int .u64 (aB i.s 0),.int .u64 (aB i.s 1),.int .u64 (aB i.s 2),.int .u64 (aB i.s 3)] 54))=w1 at B1 X1 ⊢
 have c0:w1.cell? ⟨w.heap.size,0,none⟩=some (.int .i64 10):=aA X1.o (i:=0) rfl
 have l1:=aC X1.o
 go_upto_region 3 with (go_at_call 33;(with_reducible refine(hs _).mono ?_);rintro e w5 ⟨rfl,rfl⟩)
 have R2:Hid (SR w.heap.size (w5.alloc (.cells #[.string (txt [116,117,114,110])] 9)) (.slice (some ⟨w5.heap.size,0,none⟩) 1 1) [[116,117,114,110]]):=dB w5 _ (by omega)
 have B2:Hid (wBl w (w5.alloc (.cells #[.string (txt [116,117,114,110])] 9))):=aF B1.o (bz9) lz9
 have X2:Hid ((w5.alloc (.cells #[.string (txt [116,117,114,110])] 9)).heap[w.heap.size]?=some (.cells #[.int .i64 10,.int .i64 i.x,.int .i64 i.y,.int .i64 i.n,.int .i64 i.mn,.int .i64 i.mx,.int .u64 (aB i.s 0),.int .u64 (aB i.s 1),.int .u64 (aB i.s 2),.int .u64 (aB i.s 3)] 54 (0,0))):=(Below.heap_alloc _ _ _ l1).trans X1.o
 clear c0 B1 X1 hs
 generalize (w5.alloc (.cells #[.string (txt [116,117,114,110])] 9))=w6 at B2 X2 R2 ⊢
 have l2:=aC X2.o
 have d3:=aA X2.o (i:=3) rfl
 have ICn:=aD (ITn.o _ (HT.o.kept B2.o))
 go_wp2_with first
  |(go_at_call 34;(with_reducible refine(aU _ _ _).mono ?_);rintro e w7 ⟨rfl,h7⟩;subst w7)
  |(go_at_call 51;(with_reducible refine(ICn.o).mono ?_);rintro e v3 ⟨rfl,h5⟩;have R2a:=aD (aL R2.o (Fr.of_below (S:=fun _=>False) h5) (fun _ _ q=>q));have B2a:=aD (aF B2.o h5 lz9);have X2a:=aD ((h5.block _ l2).trans X2.o);clear h5)
  |(at_builtin;refine wpList_append_own_at _ rfl _ _ 69 rfl w.heap.size 9 t0 (.string ⟨#[]⟩) 1 16 bD hi hz0 hz1 hz2 rfl (by decide) _ 1 (stC [[116,117,114,110]]) rfl (i9 R2a.o _) ⟨v3.heap.size,0,none⟩ 1 1 [.string (txt tn)] rfl rfl (bH _ _ _) (by simp [Value.oneCell']) ?c3 ?c4 ?c5 ?_)
 case c3=>unfold maxLen;omega
 case c4=>omega
 case c5=>have:=B2a.o.size;simp;omega
 intro p3 w3x hown hgrow _ hblk
 have B3:Hid (wBl w w3x):=aD ((B2a.o.alloc (by have:=B2a.o.size;omega) _).grown hgrow (by have:=B2a.o.size;simp;omega) (fun k hk=>(aH R2a.o hk).1))
 have R3:Hid (SR w.heap.size w3x p3 [[116,117,114,110],tn]):=hown
 have X3:Hid (w3x.heap[w.heap.size]?=some (.cells #[.int .i64 10,.int .i64 i.x,.int .i64 i.y,.int .i64 i.n,.int .i64 i.mn,.int .i64 i.mx,.int .u64 (aB i.s 0),.int .u64 (aB i.s 1),.int .u64 (aB i.s 2),.int .u64 (aB i.s 3)] 54 (0,0))):=aD ((hgrow.block _ (by have:=aC X2a.o;simp;omega) (fun e=>aJ R2a.o X2a.o (by decide) e.symm)).trans ((Below.heap_alloc _ _ _ (aC X2a.o)).trans X2a.o))
 have l3:=aC X3.o
 obtain⟨g3,c3,rfl,-⟩:=SR.split R3.o (by simp)
 clear hown hgrow hblk
 go_upto_region 6 with (go_at_call 34;(with_reducible refine(aU _ _ _).mono ?_);rintro e w7 ⟨rfl,h7⟩;subst w7)
 have B3d:=aD (aF B3.o (Below.refl _ w3x).drew lz9)
 have R3d:=aD (aL R3.o (Fr.of_below (S:=fun _=>False) (Below.refl _ w3x).drew) (fun _ _ q=>q))
 have d4:=aA X3.o (i:=4) rfl
 have d5:=aA X3.o (i:=5) rfl
 have ICmn:=aD (ITmn.o _ (HT.o.kept B3d.o))
 go_cut [5] (fun u wx=>∃ q c,u=.slice q 4 c/\SR w.heap.size wx (.slice q 4 c) [[116,117,114,110],tn,tmn,tmx]/\wx.heap[w.heap.size]?=some (.cells #[.int .i64 10,.int .i64 i.x,.int .i64 i.y,.int .i64 i.n,.int .i64 i.mn,.int .i64 i.mx,.int .u64 (aB i.s 0),.int .u64 (aB i.s 1),.int .u64 (aB i.s 2),.int .u64 (aB i.s 3)] 54 (0,0))/\wBl w wx)
 case first=>
  go_region_law first
   |(refine eD rfl _ _ 69 rfl w.heap.size 9 t0 (.string ⟨#[]⟩) 1 16 bD hi hz0 hz1 hz2 rfl (by decide) (.slice (some ⟨g3,0,none⟩) 2 c3) 2 (stC [[116,117,114,110],tn]) (by first |(simp [Act.eval];done) | simp [Act.eval,Act.put]) (i9 R3b.o _) ⟨vb.heap.size,0,none⟩ 2 2 [.string (txt tmn),.string (txt tmx)] (by first |(simp [Act.eval];done) | simp [Act.eval,Act.put]) rfl (qH vb [.string (txt tmn),.string (txt tmx)] _) (by simp [Value.oneCell']) (by unfold maxLen;omega) (by omega) (by have:=B3b.o.size;simp;omega) ?_;intro v8 W8 hown hgrow hblk;have B8:Hid (wBl w W8):=aD ((B3b.o.alloc (by have:=B3b.o.size;omega) _).grown hgrow (by have:=B3b.o.size;simp;omega) (fun k hk=>(aH R3b.o hk).1));have O8:=aD hown;have X8:Hid (W8.heap[w.heap.size]?=some (.cells #[.int .i64 10,.int .i64 i.x,.int .i64 i.y,.int .i64 i.n,.int .i64 i.mn,.int .i64 i.mx,.int .u64 (aB i.s 0),.int .u64 (aB i.s 1),.int .u64 (aB i.s 2),.int .u64 (aB i.s 3)] 54 (0,0))):=aD ((hgrow.block _ (by have:=aC X3b.o;simp;omega) (fun e=>aJ R3b.o X3b.o (by decide) e.symm)).trans ((Below.heap_alloc _ _ _ (aC X3b.o)).trans X3b.o));clear hown hgrow hblk)
   |(go_simp;go_at_call 51;(with_reducible refine(ICmn.o).mono ?_);rintro e va ⟨rfl,h5⟩;have R3a:=aD (aL R3d.o (Fr.of_below (S:=fun _=>False) h5) (fun _ _ q=>q));have B3a:=aD (aF B3d.o h5 lz9);have X3a:=aD ((h5.block _ l3).trans X3.o);have la:=aC X3a.o;have a5:=aA X3a.o (i:=5) rfl;have BNC:=aD (BNG.o _ (HT.o.kept B3a.o));clear h5)
   |(go_simp;go_at_call 52;(with_reducible refine(BNC.o).mono ?_);rintro e vb ⟨rfl,h5⟩;have R3b:=aD (aL R3a.o (Fr.of_below (S:=fun _=>False) h5) (fun _ _ q=>q));have B3b:=aD (aF B3a.o h5 lz9);have X3b:=aD ((h5.block _ la).trans X3a.o);clear h5)
  all_goals go_wp2
  all_goals go_meet
  all_goals
   obtain⟨q8,c8,rfl⟩:=aK O8.o
   exact⟨q8,c8,rfl,O8.o,X8.o,B8.o⟩
 case rest=>
 obtain⟨q9,c9,rfl,hR,hX,hB⟩:=hcut
 have R4:=aD hR
 have X4:=aD hX
 have B4:=aD hB
 have l4:=aC X4.o
 clear hR hX hB d4 d5 l3
 obtain⟨g4,c4,e9,-⟩:=SR.split R4.o (by simp)
 injection e9 with e9 _ e10
 subst e9 e10
 have d1:=aA X4.o (i:=1) rfl
 have ICx:=aD (ITx.o _ (HT.o.kept B4.o))
 go_wp2_with first
  |(go_at_call 34;(with_reducible refine(aU _ _ _).mono ?_);rintro e w7 ⟨rfl,h7⟩;subst w7)
  |(go_at_call 51;(with_reducible refine(ICx.o).mono ?_);rintro e v5 ⟨rfl,h5⟩;have R4a:=aD (aL R4.o (Fr.of_below (S:=fun _=>False) h5) (fun _ _ q=>q));have B4a:=aD (aF B4.o h5 lz9);have X4a:=aD ((h5.block _ l4).trans X4.o);clear h5)
  |(at_builtin;refine wpList_append_own_at _ rfl _ _ 69 rfl w.heap.size 9 t0 (.string ⟨#[]⟩) 1 16 bD hi hz0 hz1 hz2 rfl (by decide) _ 4 (stC [[116,117,114,110],tn,tmn,tmx]) rfl (i9 R4a.o _) ⟨v5.heap.size,0,none⟩ 1 1 [.string (txt tx)] rfl rfl (bH _ _ _) (by simp [Value.oneCell']) ?c3 ?c4 ?c5 ?_)
 case c3=>unfold maxLen;omega
 case c4=>omega
 case c5=>have:=B4a.o.size;simp;omega
 intro p5 w5x hown hgrow _ hblk
 have B5:Hid (wBl w w5x):=aD ((B4a.o.alloc (by have:=B4a.o.size;omega) _).grown hgrow (by have:=B4a.o.size;simp;omega) (fun k hk=>(aH R4a.o hk).1))
 have R5:Hid (SR w.heap.size w5x p5 [[116,117,114,110],tn,tmn,tmx,tx]):=hown
 have X5:Hid (w5x.heap[w.heap.size]?=some (.cells #[.int .i64 10,.int .i64 i.x,.int .i64 i.y,.int .i64 i.n,.int .i64 i.mn,.int .i64 i.mx,.int .u64 (aB i.s 0),.int .u64 (aB i.s 1),.int .u64 (aB i.s 2),.int .u64 (aB i.s 3)] 54 (0,0))):=aD ((hgrow.block _ (by have:=aC X4a.o;simp;omega) (fun e=>aJ R4a.o X4a.o (by decide) e.symm)).trans ((Below.heap_alloc _ _ _ (aC X4a.o)).trans X4a.o))
 have l5:=aC X5.o
 obtain⟨g5,c5,rfl,-⟩:=SR.split R5.o (by simp)
 clear hown hgrow hblk
 have d2:=aA X5.o (i:=2) rfl
 have ICy:=aD (ITy.o _ (HT.o.kept B5.o))
 go_wp2_with first
  |(go_at_call 34;(with_reducible refine(aU _ _ _).mono ?_);rintro e w7 ⟨rfl,h7⟩;subst w7)
  |(go_at_call 51;(with_reducible refine(ICy.o).mono ?_);rintro e v6 ⟨rfl,h5⟩;have R5a:=aD (aL R5.o (Fr.of_below (S:=fun _=>False) h5) (fun _ _ q=>q));have B5a:=aD (aF B5.o h5 lz9);have X5a:=aD ((h5.block _ l5).trans X5.o);clear h5)
  |(at_builtin;refine wpList_append_own_at _ rfl _ _ 69 rfl w.heap.size 9 t0 (.string ⟨#[]⟩) 1 16 bD hi hz0 hz1 hz2 rfl (by decide) _ 5 (stC [[116,117,114,110],tn,tmn,tmx,tx]) rfl (i9 R5a.o _) ⟨v6.heap.size,0,none⟩ 1 1 [.string (txt ty)] rfl rfl (bH _ _ _) (by simp [Value.oneCell']) ?c3 ?c4 ?c5 ?_)
 case c3=>unfold maxLen;omega
 case c4=>omega
 case c5=>have:=B5a.o.size;simp;omega
 intro p6 w6x hown hgrow _ hblk
 have B6:Hid (wBl w w6x):=aD ((B5a.o.alloc (by have:=B5a.o.size;omega) _).grown hgrow (by have:=B5a.o.size;simp;omega) (fun k hk=>(aH R5a.o hk).1))
 have R6:Hid (SR w.heap.size w6x p6 [[116,117,114,110],tn,tmn,tmx,tx,ty]):=hown
 have X6:Hid (w6x.heap[w.heap.size]?=some (.cells #[.int .i64 10,.int .i64 i.x,.int .i64 i.y,.int .i64 i.n,.int .i64 i.mn,.int .i64 i.mx,.int .u64 (aB i.s 0),.int .u64 (aB i.s 1),.int .u64 (aB i.s 2),.int .u64 (aB i.s 3)] 54 (0,0))):=aD ((hgrow.block _ (by have:=aC X5a.o;simp;omega) (fun e=>aJ R5a.o X5a.o (by decide) e.symm)).trans ((Below.heap_alloc _ _ _ (aC X5a.o)).trans X5a.o))
 have l6:=aC X6.o
 obtain⟨g6,c6,rfl,-⟩:=SR.split R6.o (by simp)
 clear hown hgrow hblk
 go_wp2_with (go_at_call 34;(with_reducible refine(aU _ _ _).mono ?_);rintro e w7 ⟨rfl,h7⟩;subst w7)
 go_ret
 exact⟨_,rfl,R6.o,B6.o⟩
end
def wdG(i:Ins):List (List UInt8):=
 [shW i.op]++((if hsT (shT i.op) 24 then [Lib.itoa i.n] else [])++((if hsT (shT i.op) 32 then [Lib.itoa i.mn,if i.mx=-1 then [42] else Lib.itoa i.mx] else [])++((if hsT (shT i.op) 2 then [Lib.itoa i.x] else [])++((if hsT (shT i.op) 4 then [Lib.itoa i.y] else [])++(if hsT (shT i.op) 1 then [stW i.s] else [])))))
theorem kZ{p:Pg}{k:Nat}{i:Ins}(h:bE p k i=true):i.op=1\/i.op=2\/i.op=3\/i.op=4\/i.op=5\/i.op=6\/i.op=7\/i.op=8\/i.op=9\/i.op=10\/i.op=11:=by
 unfold bE at h
 simp only [l7] at h
 have h0:=h.1.1.1.1.1.1.1
 unfold shW at h0
 refine Classical.byContradiction fun hn=>?_
 have e:i.op≠1/\i.op≠2/\i.op≠3/\i.op≠4/\i.op≠5/\i.op≠6/\i.op≠7/\i.op≠8/\i.op≠9/\i.op≠10/\i.op≠11:=by omega
 simp [e] at h0
theorem kY{p:Pg}{k:Nat}{i:Ins}(h:bE p k i=true)(hl:p.L.length<=40000)(hg:p.g<=1000000)(hk:p.k<=1000000) :
  (hsT (shT i.op) 2=true->Sm i.x)/\(hsT (shT i.op) 4=true->Sm i.y)/\(hsT (shT i.op) 8=true->Sm i.n)/\(hsT (shT i.op) 16=true->Sm i.n)/\(hsT (shT i.op) 32=true->Sm i.mn/\(i.mx=-1\/Sm i.mx)):=by
 unfold bE at h
 simp only [l7,Bool.or_eq_true,Bool.not_eq_true',r4] at h
 obtain⟨⟨⟨⟨⟨⟨⟨_,_⟩,hx⟩,hy⟩,hn⟩,hm⟩,hb⟩,_⟩:=h
 refine⟨fun e=>?_,fun e=>?_,fun e=>?_,fun e=>?_,fun e=>?_⟩
 ·rw [e] at hx
  have:=hx.resolve_left (by decide)
  simp only [blw,l7,r4] at this
  exact⟨this.1,by omega⟩
 ·rw [e] at hy
  have:=hy.resolve_left (by decide)
  simp only [blw,l7,r4] at this
  exact⟨this.1,by omega⟩
 ·rw [e] at hn
  have:=hn.resolve_left (by decide)
  simp only [blw,l7,r4] at this
  exact⟨this.1,by omega⟩
 ·rw [e] at hm
  have:=hm.resolve_left (by decide)
  simp only [blw,l7,r4] at this
  exact⟨this.1,by omega⟩
 ·rw [e] at hb
  have:=hb.resolve_left (by decide)
  simp only [rbd,blw,l7,Bool.or_eq_true,r4,beq_iff_eq] at this
  refine⟨⟨this.1.1,by omega⟩,?_⟩
  rcases this.2 with e | e
  ·exact .inl e
  ·exact .inr ⟨by omega,by omega⟩
theorem rA{w:World}(hT:T14 w){p:Pg}{k:Nat}{i:Ins}(h:bE p k i=true)(hl:p.L.length<=40000)(hg:p.g<=1000000)(hk:p.k<=1000000):Calls Tryz.prog 27 #[.agg #[.int .i64 i.op,.int .i64 i.x,.int .i64 i.y,.int .i64 i.n,.int .i64 i.mn,.int .i64 i.mx,.int .u64 (aB i.s 0),.int .u64 (aB i.s 1),.int .u64 (aB i.s 2),.int .u64 (aB i.s 3)]] w (SRR w (wdG i)):=by
 obtain⟨sx,sy,sn,sm,sb⟩:=kY h hl hg hk
 have ho:=kZ h
 unfold wdG
 rcases ho with e | e | e | e | e | e | e | e | e | e | e
 ·have:=wI hT i e
  rw [e] at this ⊢
  rw [(show hsT (shT 1) 24=false by decide),(show hsT (shT 1) 32=false by decide),(show hsT (shT 1) 2=false by decide),(show hsT (shT 1) 4=false by decide),(show hsT (shT 1) 1=true by decide)]
  exact this
 ·have:=wH hT i e (sx (by rw [e];decide)) (sy (by rw [e];decide))
  rw [e] at this ⊢
  rw [(show hsT (shT 2) 24=false by decide),(show hsT (shT 2) 32=false by decide),(show hsT (shT 2) 2=true by decide),(show hsT (shT 2) 4=true by decide),(show hsT (shT 2) 1=false by decide)]
  exact this
 ·have:=wG hT i e (sx (by rw [e];decide))
  rw [e] at this ⊢
  rw [(show hsT (shT 3) 24=false by decide),(show hsT (shT 3) 32=false by decide),(show hsT (shT 3) 2=true by decide),(show hsT (shT 3) 4=false by decide),(show hsT (shT 3) 1=false by decide)]
  exact this
 ·have:=wF hT i e
  rw [e] at this ⊢
  rw [(show hsT (shT 4) 24=false by decide),(show hsT (shT 4) 32=false by decide),(show hsT (shT 4) 2=false by decide),(show hsT (shT 4) 4=false by decide),(show hsT (shT 4) 1=false by decide)]
  exact this
 ·have:=wE hT i e
  rw [e] at this ⊢
  rw [(show hsT (shT 5) 24=false by decide),(show hsT (shT 5) 32=false by decide),(show hsT (shT 5) 2=false by decide),(show hsT (shT 5) 4=false by decide),(show hsT (shT 5) 1=false by decide)]
  exact this
 ·have:=wD hT i e (sn (by rw [e];decide))
  rw [e] at this ⊢
  rw [(show hsT (shT 6) 24=true by decide),(show hsT (shT 6) 32=false by decide),(show hsT (shT 6) 2=false by decide),(show hsT (shT 6) 4=false by decide),(show hsT (shT 6) 1=false by decide)]
  exact this
 ·have:=wB hT i e (sn (by rw [e];decide))
  rw [e] at this ⊢
  rw [(show hsT (shT 7) 24=true by decide),(show hsT (shT 7) 32=false by decide),(show hsT (shT 7) 2=false by decide),(show hsT (shT 7) 4=false by decide),(show hsT (shT 7) 1=false by decide)]
  exact this
 ·have:=vZ hT i e (sn (by rw [e];decide))
  rw [e] at this ⊢
  rw [(show hsT (shT 8) 24=true by decide),(show hsT (shT 8) 32=false by decide),(show hsT (shT 8) 2=false by decide),(show hsT (shT 8) 4=false by decide),(show hsT (shT 8) 1=false by decide)]
  exact this
 ·have:=vY hT i e (sm (by rw [e];decide))
  rw [e] at this ⊢
  rw [(show hsT (shT 9) 24=true by decide),(show hsT (shT 9) 32=false by decide),(show hsT (shT 9) 2=false by decide),(show hsT (shT 9) 4=false by decide),(show hsT (shT 9) 1=false by decide)]
  exact this
 ·have:=rC hT i e (sm (by rw [e];decide)) (sb (by rw [e];decide)).1 (sb (by rw [e];decide)).2 (sx (by rw [e];decide)) (sy (by rw [e];decide))
  rw [e] at this ⊢
  rw [(show hsT (shT 10) 24=true by decide),(show hsT (shT 10) 32=true by decide),(show hsT (shT 10) 2=true by decide),(show hsT (shT 10) 4=true by decide),(show hsT (shT 10) 1=false by decide)]
  exact this
 ·have:=rB hT i e
  rw [e] at this ⊢
  rw [(show hsT (shT 11) 24=false by decide),(show hsT (shT 11) 32=false by decide),(show hsT (shT 11) 2=false by decide),(show hsT (shT 11) 4=false by decide),(show hsT (shT 11) 1=false by decide)]
  exact this
section
attribute [local go_sem] Oper.semAt_some
def hdW(g k:Int)(f:Bool):List (List UInt8):=[[112,114,111,103,114,97,109],Lib.itoa g,Lib.itoa k]++if f then [[102,111,108,100]] else []
theorem aG8{w:World}(hT:T14 w)(q:Option Addr)(n c:Nat){gg kk:Int}(hg:Sm gg)(hk:Sm kk)(f:Bool):Calls Tryz.prog 26 #[.agg #[.slice q n c,.int .i64 gg,.int .i64 kk,.bool f]] w (SRR w (hdW gg kk f)):=by
 have B1:Hid (wBl w (w.alloc (.cells #[.slice q n c,.int .i64 gg,.int .i64 kk,.bool f] 24))):=bz9
 have X1:Hid ((w.alloc (.cells #[.slice q n c,.int .i64 gg,.int .i64 kk,.bool f] 24)).heap[w.heap.size]?=some (.cells #[.slice q n c,.int .i64 gg,.int .i64 kk,.bool f] 24 (0,0))):=aE w _
 have HT:=aD hT
 have IG:=aD (fun (V:World) (hV:T14 V)=>dI hV hg.1 hg.2)
 have IK:=aD (fun (V:World) (hV:T14 V)=>dI hV hk.1 hk.2)
 unfold hdW
 obtain⟨tg,htg⟩:∃ t,Lib.itoa gg=t:=⟨_,rfl⟩
 obtain⟨tk,htk⟩:∃ t,Lib.itoa kk=t:=⟨_,rfl⟩
 rw [htg] at IG ⊢
 rw [htk] at IK ⊢
 obtain⟨t0,hi,hz0,hz1,hz2⟩:=info_parts bG
 clear hT htg htk hg hk
 go_enter Tryz.func26,Tryz.ntmps26
 go_upto_region 1 with fail
 generalize (w.alloc (.cells #[.slice q n c,.int .i64 gg,.int .i64 kk,.bool f] 24))=w1 at B1 X1 ⊢
 have l1:=aC X1.o
 have p1:=aA X1.o (i:=1) rfl
 have p2:=aA X1.o (i:=2) rfl
 have B1d:=aD (aF B1.o (Below.refl _ w1).drew lz9)
 have ICg:=aD (IG.o _ (HT.o.kept B1d.o))
 go_cut [3] (fun u wx=>∃ g cc,u=.slice (some ⟨g,0,none⟩) 3 cc/\SR w.heap.size wx (.slice (some ⟨g,0,none⟩) 3 cc) [[112,114,111,103,114,97,109],tg,tk]/\wx.heap[w.heap.size]?=some (.cells #[.slice q n c,.int .i64 gg,.int .i64 kk,.bool f] 24 (0,0))/\wBl w wx)
 case first=>
  go_region_law first
   |(go_simp;go_at_call 51;(with_reducible refine(ICg.o).mono ?_);rintro e va ⟨rfl,h5⟩;have Ba:=aD (aF B1d.o h5 lz9);have Xa:=aD ((h5.block _ l1).trans X1.o);have la:=aC Xa.o;have a2:=aA Xa.o (i:=2) rfl;have ICk:=aD (IK.o _ (HT.o.kept Ba.o));clear h5)
   |(go_simp;go_at_call 51;(with_reducible refine(ICk.o).mono ?_);rintro e vb ⟨rfl,h5⟩;have Bb:=aD (aF Ba.o h5 lz9);have Xb:=aD ((h5.block _ la).trans Xa.o);clear h5)
  all_goals go_wp2
  all_goals go_meet
  all_goals
   have sb:=Bb.o.size
   refine⟨vb.heap.size,3,rfl,⟨rfl,.inr ⟨vb.heap.size,3,#[.string (txt [112,114,111,103,114,97,109]),.string (txt tg),.string (txt tk)],rfl,by omega,aE vb _,j9 _,by unfold maxLen;omega,rfl,rfl⟩⟩,(Below.heap_alloc _ _ _ (aC Xb.o)).trans Xb.o,Bb.o.alloc (by omega) _⟩
 case rest=>
  obtain⟨g9,c9,rfl,hR,hX,hB⟩:=hcut
  have R2:=aD hR
  have X2:=aD hX
  have B2:=aD hB
  have l2:=aC X2.o
  have d3:=aA X2.o (i:=3) rfl
  clear hR hX hB p1 p2
  cases f with
  | false=>
   go_wp2
   go_ret
   exact⟨_,rfl,R2.o,B2.o⟩
  | true=>
   go_wp2_with (at_builtin;refine wpList_append_own_at _ rfl _ _ 69 rfl w.heap.size 9 t0 (.string ⟨#[]⟩) 1 16 bD hi hz0 hz1 hz2 rfl (by decide) _ 3 (stC [[112,114,111,103,114,97,109],tg,tk]) rfl (i9 R2.o _) ⟨wc.heap.size,0,none⟩ 1 1 [.string (txt [102,111,108,100])] rfl rfl (bH _ _ _) (by simp [Value.oneCell']) (by unfold maxLen;omega) (by omega) (by have:=B2.o.size;simp;omega) ?_;intro v8 W8 hown hgrow _ hblk;have B8:Hid (wBl w W8):=aD ((B2.o.alloc (by have:=B2.o.size;omega) _).grown hgrow (by have:=B2.o.size;simp;omega) (fun k hk=>(aH R2.o hk).1));have O8:=aD hown;clear hown hgrow hblk)
   go_ret
   exact⟨_,rfl,O8.o,B8.o⟩
end
end Go.Proofs.YtliflleaeimngaaGreatDoor
