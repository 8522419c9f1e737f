/-
  Parts of the proof.
-/
import Derived.Test.YtliflleaeimngaaGreatDoorRightsProofA0
import Derived.Test.YtliflleaeimngaaGreatDoorRightsProofB20
import Derived.Lib.ItoaLen
import Derived.Test.YtliflleaeimngaaGreatDoorRightsProofB5
import Derived.Test.YtliflleaeimngaaGreatDoorRightsProofB16
import Derived.Test.YtliflleaeimngaaGreatDoorRightsProofB2
import Derived.Deep.RegionHeld3
import Derived.Lib.ConvBytes
import Derived.Test.YtliflleaeimngaaGreatDoorRightsProofB19
import Derived.Lib.Join
import Derived.Deep.DeepCutAuto
import Derived.Test.YtliflleaeimngaaGreatDoorRightsProofB3
import Derived.Lib.AppendStr
set_option linter.unusedSimpArgs false
set_option maxRecDepth 100000
set_option maxHeartbeats 8000000
namespace Go.Proofs.YtliflleaeimngaaGreatDoor
open Go Go.RowKit
section
set_option linter.unusedSimpArgs false
attribute [local go_sem] Oper.semAt_some
def lnG(i:Ins):List UInt8:=Lib.join (wdG i) [32]++[10]
def txG(p:Pg):List UInt8:=Lib.join (hdW p.g p.k p.f) [32]++[10]++p.L.flatMap lnG
theorem aY{n:Int}(h:Sm n):(Lib.itoa n).length<=2000:=j4 (Lib.itoa_length_le n (by have:=h.1;omega) (by have:=h.2;omega)) (by decide)
theorem kL(s:aQ):(stW s).length<=2000:=by
 unfold stW
 split
 ·decide
 ·have h:=fB [44] 5 (prW (aT (aP s))) (fun x hx=>by
   obtain⟨r,_,rfl⟩:=List.mem_map.1 hx
   exact kP _ _)
  have h2:(prW (aT (aP s))).length<=256:=by
   unfold prW
   rw [List.length_map]
   exact j4 (eB _) (dV s)
  simp at h
  omega
theorem qQ{p:Pg}:∀ {k:Nat} {L:List Ins},fbI p k L=none->∀ (j:Nat) (i:Ins),L[j]?=some i->bE p (k+j) i=true
 | _,[],_,j,i,h=>by simp at h
 | k,x :: r,hf,j,i,h=>by
  unfold fbI at hf
  split at hf
  ·rename_i hx
   cases j with
   | zero=>
    obtain rfl:x=i:=by simpa using h
    exact hx
   | succ j=>
    have:=qQ hf j i (by simpa using h)
    rwa [show k+1+j=k+(j+1) by omega] at this
  ·cases hf
theorem wV{p:Pg}(h:rtE p=(0,0)):p.L.length<=40000/\Sm p.g/\Sm p.k/\∀ (j:Nat) (i:Ins),p.L[j]?=some i->bE p j i=true:=by
 unfold rtE at h
 split at h
 ·cases h
 split at h
 ·cases h
 split at h
 ·cases h
 rename_i h1 h2 h3
 simp only [Bool.or_eq_true,Bool.not_eq_true',not_or,Bool.not_eq_false] at h2
 simp only [blw,l7,r4] at h2
 refine⟨by omega,⟨h2.1.1,by omega⟩,⟨h2.2.1,by omega⟩,fun j i hi=>?_⟩
 cases hf:fbI p 0 p.L with
 | some k=>rw [hf] at h;cases h
 | none=>
  have:=qQ hf j i hi
  rwa [Nat.zero_add] at this
theorem aB5{g k:Int}(hg:Sm g)(hk:Sm k)(f:Bool):hdW g k f≠[]/\(hdW g k f).length<=100/\(Lib.join (hdW g k f) [32]).length<=10000:=by
 have hl:(hdW g k f).length<=4:=by cases f <;> simp [hdW]
 refine⟨by simp [hdW],by omega,?_⟩
 have h:=fB [32] 2000 (hdW g k f) (fun x hx=>by
  have h1:=aY hg
  have h2:=aY hk
  cases f
  ·simp [hdW] at hx
   rcases hx with rfl | rfl | rfl
   ·decide
   ·exact h1
   ·exact h2
  ·simp [hdW] at hx
   rcases hx with rfl | rfl | rfl | rfl
   ·decide
   ·exact h1
   ·exact h2
   ·decide)
 simp at h
 omega
theorem wJ{p:Pg}{k:Nat}{i:Ins}(h:bE p k i=true)(hl:p.L.length<=40000)(hg:Sm p.g)(hk:Sm p.k):(∀ x∈wdG i,x.length<=2000)/\(wdG i).length<=6:=by
 obtain⟨sx,sy,sn,sm,sb⟩:=kY h hl hg.2 hk.2
 have ho:=kZ h
 unfold wdG
 rcases ho with e | e | e | e | e | e | e | e | e | e | e
 ·rw [e,(show hsT (shT 1) 24=false by decide),(show hsT (shT 1) 32=false by decide),(show hsT (shT 1) 2=false by decide),(show hsT (shT 1) 4=false by decide),(show hsT (shT 1) 1=true by decide)]
  refine⟨fun x hx=>?_,by simp⟩
  simp only [if_true,o8,if_false,n4,l9,o5,k9,l0,or_false] at hx
  rcases hx with rfl | rfl
  ·decide
  ·exact kL i.s
 ·rw [e,(show hsT (shT 2) 24=false by decide),(show hsT (shT 2) 32=false by decide),(show hsT (shT 2) 2=true by decide),(show hsT (shT 2) 4=true by decide),(show hsT (shT 2) 1=false by decide)]
  refine⟨fun x hx=>?_,by simp⟩
  simp only [if_true,o8,if_false,n4,l9,o5,k9,l0,or_false] at hx
  rcases hx with rfl | rfl | rfl
  ·decide
  ·exact aY (sx (by rw [e];decide))
  ·exact aY (sy (by rw [e];decide))
 ·rw [e,(show hsT (shT 3) 24=false by decide),(show hsT (shT 3) 32=false by decide),(show hsT (shT 3) 2=true by decide),(show hsT (shT 3) 4=false by decide),(show hsT (shT 3) 1=false by decide)]
  refine⟨fun x hx=>?_,by simp⟩
  simp only [if_true,o8,if_false,n4,l9,o5,k9,l0,or_false] at hx
  rcases hx with rfl | rfl
  ·decide
  ·exact aY (sx (by rw [e];decide))
 ·rw [e,(show hsT (shT 4) 24=false by decide),(show hsT (shT 4) 32=false by decide),(show hsT (shT 4) 2=false by decide),(show hsT (shT 4) 4=false by decide),(show hsT (shT 4) 1=false by decide)]
  refine⟨fun x hx=>?_,by simp⟩
  simp at hx
  subst hx
  decide
 ·rw [e,(show hsT (shT 5) 24=false by decide),(show hsT (shT 5) 32=false by decide),(show hsT (shT 5) 2=false by decide),(show hsT (shT 5) 4=false by decide),(show hsT (shT 5) 1=false by decide)]
  refine⟨fun x hx=>?_,by simp⟩
  simp at hx
  subst hx
  decide
 ·rw [e,(show hsT (shT 6) 24=true by decide),(show hsT (shT 6) 32=false by decide),(show hsT (shT 6) 2=false by decide),(show hsT (shT 6) 4=false by decide),(show hsT (shT 6) 1=false by decide)]
  refine⟨fun x hx=>?_,by simp⟩
  simp only [if_true,o8,if_false,n4,l9,o5,k9,l0,or_false] at hx
  rcases hx with rfl | rfl
  ·decide
  ·exact aY (sn (by rw [e];decide))
 ·rw [e,(show hsT (shT 7) 24=true by decide),(show hsT (shT 7) 32=false by decide),(show hsT (shT 7) 2=false by decide),(show hsT (shT 7) 4=false by decide),(show hsT (shT 7) 1=false by decide)]
  refine⟨fun x hx=>?_,by simp⟩
  simp only [if_true,o8,if_false,n4,l9,o5,k9,l0,or_false] at hx
  rcases hx with rfl | rfl
  ·decide
  ·exact aY (sn (by rw [e];decide))
 ·rw [e,(show hsT (shT 8) 24=true by decide),(show hsT (shT 8) 32=false by decide),(show hsT (shT 8) 2=false by decide),(show hsT (shT 8) 4=false by decide),(show hsT (shT 8) 1=false by decide)]
  refine⟨fun x hx=>?_,by simp⟩
  simp only [if_true,o8,if_false,n4,l9,o5,k9,l0,or_false] at hx
  rcases hx with rfl | rfl
  ·decide
  ·exact aY (sn (by rw [e];decide))
 ·rw [e,(show hsT (shT 9) 24=true by decide),(show hsT (shT 9) 32=false by decide),(show hsT (shT 9) 2=false by decide),(show hsT (shT 9) 4=false by decide),(show hsT (shT 9) 1=false by decide)]
  refine⟨fun x hx=>?_,by simp⟩
  simp only [if_true,o8,if_false,n4,l9,o5,k9,l0,or_false] at hx
  rcases hx with rfl | rfl
  ·decide
  ·exact aY (sm (by rw [e];decide))
 ·rw [e,(show hsT (shT 10) 24=true by decide),(show hsT (shT 10) 32=true by decide),(show hsT (shT 10) 2=true by decide),(show hsT (shT 10) 4=true by decide),(show hsT (shT 10) 1=false by decide)]
  refine⟨fun x hx=>?_,by simp⟩
  simp only [if_true,o8,if_false,n4,l9,o5,k9,l0,or_false] at hx
  rcases hx with rfl | rfl | rfl | rfl | rfl | rfl
  ·decide
  ·exact aY (sm (by rw [e];decide))
  ·exact aY (sb (by rw [e];decide)).1
  ·(split;(· decide);exact aY ((sb (by rw [e];decide)).2.resolve_left (by assumption)))
  ·exact aY (sx (by rw [e];decide))
  ·exact aY (sy (by rw [e];decide))
 ·rw [e,(show hsT (shT 11) 24=false by decide),(show hsT (shT 11) 32=false by decide),(show hsT (shT 11) 2=false by decide),(show hsT (shT 11) 4=false by decide),(show hsT (shT 11) 1=false by decide)]
  refine⟨fun x hx=>?_,by simp⟩
  simp at hx
  subst hx
  decide
theorem kK{p:Pg}{k:Nat}{i:Ins}(h:bE p k i=true)(hl:p.L.length<=40000)(hg:Sm p.g)(hk:Sm p.k):wdG i≠[]/\(wdG i).length<=100/\(Lib.join (wdG i) [32]).length<=100000:=by
 obtain⟨h1,h2⟩:=wJ h hl hg hk
 refine⟨by simp [wdG],by omega,?_⟩
 have h3:=fB [32] 2000 (wdG i) h1
 simp at h3
 omega
theorem qJ{p:Pg}{L:List Ins}(h:∀ x∈L,∃ k,bE p k x=true)(hl:p.L.length<=40000)(hg:Sm p.g)(hk:Sm p.k):(L.flatMap lnG).length<=L.length*100001:=by
 induction L with
 | nil=>simp
 | cons x r ih=>
  obtain⟨k,hx⟩:=h x (by simp)
  have h1:=(kK hx hl hg hk).2.2
  have h2:=ih (fun y hy=>h y (by simp [hy]))
  have h3:(lnG x).length=(Lib.join (wdG x) [32]).length+1:=by simp [lnG]
  rw [List.flatMap_cons,j2,p8,Nat.add_mul,Nat.one_mul,h3]
  omega
theorem jV{base base':Nat}{w:World}{b g c n:Nat}{l r:List UInt8}{xs:List (List UInt8)}(h:BL 67 base w b [] l)(hv:SR base' w (.slice (some ⟨g,0,none⟩) n c) xs)(hn:xs.length=n)(hx:xs≠[])(hr:Lib.join xs [32]=r)(hl:l.length+r.length<=100000000000)(hr2:r.length<=100000)(hn2:n<=100000)(hb:base<=w.heap.size) :
  Calls Tryz.prog 25 #[.pointer (some ⟨b,0,none⟩),.slice (some ⟨g,0,none⟩) n c] w fun e w'=>e=.returned (.tuple #[])/\BL 67 base w' b [] (l++r++[10])/\Below base w w'/\Oth b w w':=by
 have HJ:=aD (hZ (sb:=⟨#[32]⟩) [32] r hv hn rfl hx hr (by omega) hn2)
 have H:=aD h
 clear h hv
 go_enter Tryz.func25,Tryz.ntmps25
 go_wp2_with first
  |(go_at_call 49;(with_reducible refine(HJ.o).mono ?_);rintro e w1 ⟨rfl,h1⟩;have B1:=aD h1;have HS:Hid (Calls Tryz.prog 48 #[.pointer (some ⟨b,0,none⟩),.string (txt r)] w1 fun e w'=>e=.returned (.tuple #[.int .i64 (r.length:Int),.nilIface])/\jX 67 base w1 b [] (l++r) w'):=fL bt0 (H.o.keptB h1) r (by omega) (by have:=h1.size;omega);clear h1)
  |(go_at_call 48;(with_reducible refine(HS.o).mono ?_);rintro e w2 ⟨rfl,h21,h22,h23⟩;have L2:=aD h21;have B2:=aD h22;have O2:=aD h23;have HB:Hid (Calls Tryz.prog 50 #[.pointer (some ⟨b,0,none⟩),.int .u8 10] w2 fun e w'=>e=.returned .nilIface/\jX 67 base w2 b [] (l++r++[10]) w'):=gN bt0 h21 10 (by simp;omega) (by have:=h22.size;have:=B1.o.size;omega);clear h21 h22 h23)
  |(go_at_call 50;(with_reducible refine(HB.o).mono ?_);rintro e w3 ⟨rfl,h21,h22,h23⟩;have L3:=aD h21;have B3:=aD h22;have O3:=aD h23;clear h21 h22 h23)
 go_end0
 refine⟨rfl,L3.o,((B1.o.mono hb).trans B2.o).trans B3.o,?_⟩
 refine Lib.OthersKept.trans (Lib.OthersKept.trans ?_ O2.o) O3.o
 intro k o hk _ _
 exact(B1.o.block _ (aC hk)).trans hk
theorem aE7{w:World}{p:Pg}(h:PgI w p)(hT:T14 w)(hr:rtE p=(0,0)) :
  Calls Tryz.prog 10 #[.agg #[.slice p.q p.L.length p.c,.int .i64 p.g,.int .i64 p.k,.bool p.f]] w fun e w'=>e=.returned (.tuple #[.string (txt (txG p)),.int .i64 0])/\wBl w w':=by
 obtain⟨pq,pL,pc,pg,pk,pf⟩:=p
 have RI:=aD (wV hr)
 show Calls Tryz.prog 10 #[.agg #[.slice pq pL.length pc,.int .i64 pg,.int .i64 pk,.bool pf]] w _
 have B1:Hid (wBl w (w.alloc (.cells #[.slice pq pL.length pc,.int .i64 pg,.int .i64 pk,.bool pf] 24))):=bz9
 have X1:Hid ((w.alloc (.cells #[.slice pq pL.length pc,.int .i64 pg,.int .i64 pk,.bool pf] 24)).heap[w.heap.size]?=some (.cells #[.slice pq pL.length pc,.int .i64 pg,.int .i64 pk,.bool pf] 24 (0,0))):=aE w _
 have HC:Hid (Calls Tryz.prog 9 #[.agg #[.slice pq pL.length pc,.int .i64 pg,.int .i64 pk,.bool pf]] (w.alloc (.cells #[.slice pq pL.length pc,.int .i64 pg,.int .i64 pk,.bool pf] 24)) (RtP ⟨pq,pL,pc,pg,pk,pf⟩ (w.alloc (.cells #[.slice pq pL.length pc,.int .i64 pg,.int .i64 pk,.bool pf] 24)))):=eI (h.kept B1.o)
 have H:=aD h
 have HT:=aD hT
 unfold RtP at HC
 rw [hr] at HC
 obtain⟨tx0,htx⟩:∃ t,txG ⟨pq,pL,pc,pg,pk,pf⟩=t:=⟨_,rfl⟩
 rw [htx]
 obtain⟨hd0,hhd⟩:∃ t,Lib.join (hdW pg pk pf) [32]++[10]=t:=⟨_,rfl⟩
 have HTX:Hid (hd0++pL.flatMap lnG=tx0):=aD (by rw [<- hhd];exact htx)
 have HHD:=aD hhd
 have HL40:Hid (pL.length<=40000):=aD RI.o.1
 have HDL:=aD (aB5 RI.o.2.1 RI.o.2.2.1 pf)
 have HD0:Hid (hd0.length<=10001):=aD (by rw [<- hhd];have:=HDL.o.2.2;simp;omega)
 clear h hT htx hhd hr
 go_enter Tryz.func10,Tryz.ntmps10
 go_upto_region 1 with fail
 generalize (w.alloc (.cells #[.slice pq pL.length pc,.int .i64 pg,.int .i64 pk,.bool pf] 24))=w1 at B1 X1 HC ⊢
 have l1:=aC X1.o
 have p0:w1.cell? ⟨w.heap.size,0,none⟩=some (.slice pq pL.length pc):=aA X1.o (i:=0) rfl
 have p1:w1.cell? ⟨w.heap.size,1,none⟩=some (.int .i64 pg):=aA X1.o (i:=1) rfl
 have p2:w1.cell? ⟨w.heap.size,2,none⟩=some (.int .i64 pk):=aA X1.o (i:=2) rfl
 have p3:w1.cell? ⟨w.heap.size,3,none⟩=some (.bool pf):=aA X1.o (i:=3) rfl
 go_upto_region 5 with (go_at_call 9;(with_reducible refine(HC.o).mono ?_);rintro e w2 ⟨rfl,h2⟩;have B2:=aD (aF B1.o h2 lz9);have X2:=aD ((h2.block _ l1).trans X1.o);clear h2)
 clear p0 p1 p2 p3
 have l2:=aC X2.o
 have L3:Hid (BL 67 w2.heap.size (w2.alloc (.cells #[.pointer none,.slice none 0 0] 67)) w2.heap.size [] []):=⟨_,_,aE w2 _,.inl rfl,j8 _ _ _ _,fun _=>rfl,j9 _⟩
 have B3:Hid (wBl w (w2.alloc (.cells #[.pointer none,.slice none 0 0] 67))):=aF B2.o (bz9) lz9
 have X3:Hid ((w2.alloc (.cells #[.pointer none,.slice none 0 0] 67)).heap[w.heap.size]?=some (.cells #[.slice pq pL.length pc,.int .i64 pg,.int .i64 pk,.bool pf] 24 (0,0))):=(Below.heap_alloc _ _ _ l2).trans X2.o
 have s3:(w2.alloc (.cells #[.pointer none,.slice none 0 0] 67)).heap.size=w2.heap.size+1:=by simp
 generalize (w2.alloc (.cells #[.pointer none,.slice none 0 0] 67))=w3 at B3 X3 L3 s3 ⊢
 have p0:w3.cell? ⟨w.heap.size,0,none⟩=some (.slice pq pL.length pc):=aA X3.o (i:=0) rfl
 have p1:w3.cell? ⟨w.heap.size,1,none⟩=some (.int .i64 pg):=aA X3.o (i:=1) rfl
 have p2:w3.cell? ⟨w.heap.size,2,none⟩=some (.int .i64 pk):=aA X3.o (i:=2) rfl
 have p3:w3.cell? ⟨w.heap.size,3,none⟩=some (.bool pf):=aA X3.o (i:=3) rfl
 have HG:=aD (aG8 (HT.o.kept B3.o) pq pL.length pc RI.o.2.1 RI.o.2.2.1 pf)
 go_upto_region 6 with first
  |(go_at_call 26;(with_reducible refine(HG.o).mono ?_);rintro e w4 ⟨v4,rfl,h41,h42⟩;obtain⟨g4,c4,rfl,-⟩:=SR.split h41 HDL.o.1;have L4:=aD (L3.o.keptB h42);have B4:=aD h42;have AL:=aD (jV (r:=Lib.join (hdW pg pk pf) [32]) L4.o h41 rfl HDL.o.1 rfl (by have:=HDL.o.2.2;simp;omega) (by have:=HDL.o.2.2;omega) (by have:=HDL.o.2.1;omega) (by have:=h42.size;omega));clear h41 h42)
  |(go_at_call 25;(with_reducible refine(AL.o).mono ?_);rintro e w5 ⟨rfl,h51,h52,h53⟩;have L5:=aD h51;have B5:=aD h52;clear h51 h52 h53)
 have B6:Hid (Below w2.heap.size w3 w5):=aD ((B4.o.mono (by omega)).trans B5.o)
 have X6:=aD ((B6.o.block _ l2).trans X3.o)
 clear p0 p1 p2 p3 B4 B5 L4 AL
 have p0:w5.cell? ⟨w.heap.size,0,none⟩=some (.slice pq pL.length pc):=aA X6.o (i:=0) rfl
 go_wp2
 have LL:Hid (BL 67 w2.heap.size w5 w2.heap.size [] hd0):=aD (by rw [<- HHD.o];exact L5.o)
 have BA:Hid (wBl w w5):=aD (B3.o.trans (B6.o.mono (by have:=B2.o.size;omega)))
 clear p0 L5
 go_loopw [23] (fun i wr=>∃ j:Nat,j<=pL.length/\i=.int .i64 (j:Int)/\BL 67 w2.heap.size wr w2.heap.size [] (hd0++(pL.take j).flatMap lnG)/\Below w2.heap.size w5 wr) (fun i _=>pL.length-(intOf i).toNat)
 case atStart=>exact⟨0,by omega,rfl,by rw [List.take_zero,List.flatMap_nil,o5];exact LL.o,Below.refl _ _⟩
 case round=>
  obtain⟨j,hj,rfl,hbl,hbe⟩:=hrel
  have L7:=aD hbl
  have B7:=aD hbe
  have BW:Hid (wBl w wr):=aD (BA.o.trans (hbe.mono (by have:=B2.o.size;omega)))
  have h40:pL.length<=40000:=HL40.o
  have sz:w2.heap.size+1<=wr.heap.size:=by have h1:=B6.o.size;have h2:=hbe.size;omega
  clear hbl hbe
  by_cases hjl:j<pL.length
  ·have i0:(j:Int)<(pL.length:Int):=by omega
   obtain⟨i,hi⟩:∃ i,pL[j]?=some i:=⟨_,i8 hjl⟩
   obtain⟨g1,o1,hq1,hl1,c0,c1,c2,c3,c4,c5,c6,c7,c8,c9⟩:=(H.o.kept BW.o).li.ten hi
   have hq2:pq=some ⟨g1,o1,none⟩:=hq1
   have hfi:=RI.o.2.2.2 j i hi
   have TK:Hid (hd0++(pL.take (j+1)).flatMap lnG=hd0++(pL.take j).flatMap lnG++Lib.join (wdG i) [32]++[10]):=aD (by rw [n5,hi,List.flatMap_append];simp [lnG])
   have PL:Hid ((hd0++(pL.take j).flatMap lnG).length<=90000000000):=aD (by
    have h1:=qJ (fun x hx=>by obtain⟨m,hm⟩:=s6 (List.mem_of_mem_take hx);exact⟨m,RI.o.2.2.2 m x hm⟩) RI.o.1 RI.o.2.1 RI.o.2.2.1 (L:=pL.take j)
    have h2:=HD0.o
    have h3:=HL40.o
    rw [j2]
    have h4:(pL.take j).length<=40000:=by rw [List.length_take];omega
    have h5:(pL.take j).length*100001<=40000*100001:=Nat.mul_le_mul_right _ h4
    omega)
   obtain⟨wd1,wd2,wd3⟩:=kK hfi RI.o.1 RI.o.2.1 RI.o.2.2.1
   have WD:=aD (And.intro wd1 (And.intro wd2 wd3))
   have BX:wBl wr (wr.alloc (.cells #[.int .i64 i.op,.int .i64 i.x,.int .i64 i.y,.int .i64 i.n,.int .i64 i.mn,.int .i64 i.mx,.int .u64 (aB i.s 0),.int .u64 (aB i.s 1),.int .u64 (aB i.s 2),.int .u64 (aB i.s 3)] 54)):=bz9
   have IW:=aD (rA ((HT.o.kept BW.o).kept BX) hfi RI.o.1 RI.o.2.1.2 RI.o.2.2.1.2)
   have L8:=aD (L7.o.keptB BX)
   clear wd1 wd2 wd3 BX hfi hq1
   subst hq2
   clear hi
   go_wp2_with first
    |(go_at_call 27;(with_reducible refine(IW.o).mono ?_);rintro e w6 ⟨v6,rfl,h61,h62⟩;obtain⟨g6,c6',rfl,-⟩:=SR.split h61 WD.o.1;have L9:=aD (L8.o.keptB h62);have B9:Hid (wBl wr w6):=aD (aF (bz9) h62 lz9);have AL:=aD (jV L9.o h61 rfl WD.o.1 rfl (by have:=PL.o;have:=WD.o.2.2;omega) (by have:=WD.o.2.2;omega) (by have:=WD.o.2.1;omega) (by have:=B9.o.size;omega));clear h61 h62)
    |(go_at_call 25;(with_reducible refine(AL.o).mono ?_);rintro e w7 ⟨rfl,h71,h72,h73⟩;have LA:=aD h71;have BB:=aD h72;clear h71 h72 h73)
   go_roundw
   case rel=>exact⟨j+1,by omega,by go_num,by rw [TK.o];exact LA.o,B7.o.trans ((B9.o.mono (by omega)).trans BB.o)⟩
   case measure=>simp only [intOf];omega
  ·have i0:¬ (j:Int)<(pL.length:Int):=by omega
   have TX:Hid (BL 67 w2.heap.size wr w2.heap.size [] tx0):=aD (by have h1:=L7.o;rw [k6 (by omega),HTX.o] at h1;exact h1)
   have ST:Hid (Calls Tryz.prog 28 #[.pointer (some ⟨w2.heap.size,0,none⟩)] wr fun e w'=>e=.returned (.string (txt tx0))/\Below w2.heap.size wr w'/\Oth w2.heap.size wr w'):=lP (pre:=[]) (l:=tx0) TX.o
   go_wp2_with (go_at_call 28;(with_reducible refine(ST.o).mono ?_);rintro e w8 ⟨rfl,h8,-⟩;have B8:=aD h8;clear h8)
   go_ret2
   exact⟨rfl,BW.o.trans (B8.o.mono (by have:=B2.o.size;omega))⟩
end
section
set_option linter.unusedSimpArgs false
set_option linter.unusedVariables false
attribute [local go_sem] Oper.semAt_some
abbrev OI(base:Nat)(w:World)(v:Value)(l:List Int):Prop:=w.ownsRow base 3 1 v l.length (cJ l)
theorem OI.keep{base:Nat}{V V':World}{o:Obj}{v:Value}{l:List Int}(h:OI base V v l)(hg:(V.alloc o).grownBy V' v.ownBlock){b:Nat}{cs:Array Value}{t:TypeId}(hb:V.heap[b]?=some (.cells cs t (0,0)))(ht:t≠3):V'.heap[b]?=some (.cells cs t (0,0)):=
 (hg.block _ (by have:=aC hb;simp;omega) (fun e=>aJ h hb ht e.symm)).trans ((Below.heap_alloc _ _ _ (aC hb)).trans hb)
theorem OI.below{base b0:Nat}{w1 V V':World}{o:Obj}{v:Value}{l:List Int}(h:OI base V v l)(hg:(V.alloc o).grownBy V' v.ownBlock)(hB:Below b0 w1 V)(hb:b0<=base)(hs:b0<=V.heap.size):Below b0 w1 V':=
 (hB.alloc hs _).grown hg (by simp;omega) (fun k hk=>j4 hb (aH h hk).1)
theorem OI.pop{base:Nat}{V:World}{v:Value}{l:List Int}{a:Int}(h:OI base V v (l++[a])):∃ g c,v=.slice (some ⟨g,0,none⟩) (l++[a]).length c/\l.length+1<=c/\V.cell? ⟨g,l.length,none⟩=some (.int .i64 a)/\OI base V (.slice (some ⟨g,0,none⟩) l.length c) l/\g<V.heap.size:=by
 have hn:(l++[a]).length=l.length+1:=by simp
 obtain⟨g,c,rfl⟩:=cU h (by omega)
 have hc:=gO h
 refine⟨g,c,rfl,by omega,bY h (j:=l.length) (dS (by simp)),?_,(aH h (g:=g) rfl).2.1⟩
 have:=kS h (k:=l.length) (by omega)
 have e:(cJ (l++[a])).take (l.length*1)=cJ l:=by
  rw [dT,Nat.mul_one]
  exact List.take_left' (cF l)
 rw [e] at this
 exact this
theorem xV{S:List Bool}{k:Nat}(hk:k<S.length)(x:Nat):(S.set k true).getD x false=if x=k then true else S.getD x false:=by
 rw [k8,List.getElem?_set]
 by_cases e:x=k
 ·subst e
  simp [hk]
 ·rw [if_neg (fun q=>e q.symm),if_neg e,<- k8]
theorem aB6{S:List Bool}{k:Nat}{b:Bool}(h:S[k]?=some b):S.getD k false=b:=by rw [k8,h];rfl
structure RcS(w1:World)(P:List Ins)(sb:Nat)(S:List Bool)(V:World):Prop where
 b:wBl w1 V
 bo:Bo V sb P.length (fun k=>S.getD k false)
def DrP(p:Pg)(w:World)(e:Ending)(w':World):Prop:=wBl w w'/\∃ v,e=.returned (.tuple #[v,.int .i64 0])/\OI w.heap.size w' v (eE (rcM p))
theorem nM{w:World}{p:Pg}(h:PgI w p)(hz:(rtE p).1≠0):Calls Tryz.prog 8 #[.agg #[.slice p.q p.L.length p.c,.int .i64 p.g,.int .i64 p.k,.bool p.f]] w (RcQ p w):=by
 have B1:Hid (wBl w (w.alloc (.cells #[.slice p.q p.L.length p.c,.int .i64 p.g,.int .i64 p.k,.bool p.f] 24))):=bz9
 have X1:Hid ((w.alloc (.cells #[.slice p.q p.L.length p.c,.int .i64 p.g,.int .i64 p.k,.bool p.f] 24)).heap[w.heap.size]?=some (.cells #[.slice p.q p.L.length p.c,.int .i64 p.g,.int .i64 p.k,.bool p.f] 24 (0,0))):=aE w _
 have HC:=aD (eZ (h.kept B1.o))
 unfold RcQ
 obtain⟨re,hr⟩:∃ r,(rtE p).1=r:=⟨_,rfl⟩
 obtain⟨rk,hr2⟩:∃ r,(rtE p).2=r:=⟨_,rfl⟩
 rw [hr] at HC hz ⊢
 rw [hr2] at HC
 clear h hr hr2
 have z0:(re != 0)=true:=by simp [hz]
 go_enter Tryz.func8,Tryz.ntmps8
 go_upto_region 1 with fail
 generalize (w.alloc (.cells #[.slice p.q p.L.length p.c,.int .i64 p.g,.int .i64 p.k,.bool p.f] 24))=w1 at B1 X1 HC ⊢
 have p0:=aA X1.o (i:=0) rfl
 have p1:=aA X1.o (i:=1) rfl
 have p2:=aA X1.o (i:=2) rfl
 have p3:=aA X1.o (i:=3) rfl
 go_wp2_with (go_at_call 6;(with_reducible refine(HC.o).mono ?_);rintro e w2 ⟨rfl,h2⟩;have B2:=aD (aF B1.o h2 lz9);clear h2)
 go_ret2
 exact⟨B2.o,rfl⟩
theorem aC5(W:World)(P:List Ins):Bo (W.alloc (.cells (boA P.length fun _=>false) 4)) W.heap.size P.length (fun k=>(List.replicate P.length false).getD k false):=by
 have:boA P.length (fun _=>false)=boA P.length (fun k=>(List.replicate P.length false).getD k false):=by
  unfold boA
  congr 1
  refine List.map_congr_left fun k hk=>?_
  have hk:=List.mem_range.1 hk
  show Value.bool false=Value.bool ((List.replicate P.length false).getD k false)
  rw [k8,s7,if_pos hk]
  rfl
 rw [this]
 exact aE W _
theorem yT(o:Int):∃ b0 b1 b2 b3 b4 b5,usA o=[b0,b1,b2,b3,b4,b5]:=by
 unfold usA
 repeat' split
 all_goals exact⟨_,_,_,_,_,_,rfl⟩
theorem yZ(n:Nat):unS (List.replicate n false)=n:=by
 unfold unS
 rw [List.filter_eq_self.2 (fun a ha=>by rw [List.eq_of_mem_replicate ha];rfl),r9]
theorem OI.put{base:Nat}{w1 V V':World}{P:List Ins}{sb:Nat}{S:List Bool}{o:Obj}{v v':Value}{l:List Int}{x:Int}(h:OI base V v l)(hb:w1.heap.size<=base)(hs:w1.heap.size<=V.heap.size)(hown:V'.ownsRow base 3 1 v' (l.length+1) (cJ l++[.int .i64 x]))(hg:(V.alloc o).grownBy V' v.ownBlock)(hR:RcS w1 P sb S V):OI base V' v' (l++[x])/\RcS w1 P sb S V':=
 ⟨by unfold OI;rw [j2,dT];exact hown,⟨h.below hg hR.b hb hs,h.keep hg hR.bo (by decide)⟩⟩
theorem RcS.then{w1 V V':World}{P:List Ins}{sb:Nat}{S:List Bool}(h:RcS w1 P sb S V)(hs:w1.heap.size<=V.heap.size)(hb:wBl V V'):RcS w1 P sb S V':=⟨h.b.trans (hb.mono hs),h.bo.kept hb⟩
theorem yU(i:Ins){b0 b1 b2 b3 b4 b5:Bool}(hu:usA i.op=[b0,b1,b2,b3,b4,b5])(a:Int):ldU i a=(if b5 then [a+1] else [])++((if b1 then [i.x] else [])++(if b2 then [i.y] else [])):=by
 unfold ldU
 rw [hu]
 rfl
theorem rN{w:World}{p:Pg}(h:PgI w p)(hz:rtE p=(0,0)):Calls Tryz.prog 8 #[.agg #[.slice p.q p.L.length p.c,.int .i64 p.g,.int .i64 p.k,.bool p.f]] w (DrP p w):=by
 have B1:Hid (wBl w (w.alloc (.cells #[.slice p.q p.L.length p.c,.int .i64 p.g,.int .i64 p.k,.bool p.f] 24))):=bz9
 have X1:Hid ((w.alloc (.cells #[.slice p.q p.L.length p.c,.int .i64 p.g,.int .i64 p.k,.bool p.f] 24)).heap[w.heap.size]?=some (.cells #[.slice p.q p.L.length p.c,.int .i64 p.g,.int .i64 p.k,.bool p.f] 24 (0,0))):=aE w _
 have H:=aD (h.kept B1.o)
 have HC:=aD (eZ H.o)
 obtain⟨hlen,hne⟩:=nL (p:=p) (by rw [hz])
 have RI:=aD (wV hz).2.2.2
 have LA:=aD (kV RI.o)
 have SI:=aD (fun (S:List Bool) (hs:SeN p.L S [])=>zI RI.o hne hs)
 have NE:Hid (eE (rcM p)≠[]):=aD (fun e=>by
  have h1:(0:Int)∈rcM p:=(pD RI.o hne 0).2 LrA.start
  have h2:(0:Int)∈eE (rcM p):=(List.mergeSort_perm _ _).mem_iff.2 h1
  rw [e] at h2
  cases h2)
 have LE:Hid ((rcM p).length=(eE (rcM p)).length):=aD (dG _).symm
 have SS:=aD (rK (P:=p.L) (List.length_pos_iff.2 hne))
 unfold DrP
 obtain⟨rr,hrr⟩:∃ r,eE (rcM p)=r:=⟨_,rfl⟩
 rw [hrr] at SI NE ⊢
 rw [hz] at HC
 clear h hz hrr LE hne
 obtain⟨pq,pL,pc,pg,pk,pf⟩:=p
 dsimp only at *
 obtain⟨t0,hi,hz0,hz1,hz2⟩:=info_parts fT
 go_enter Tryz.func8,Tryz.ntmps8
 go_upto_region 1 with fail
 have s1:(w.alloc (.cells #[.slice pq pL.length pc,.int .i64 pg,.int .i64 pk,.bool pf] 24)).heap.size=w.heap.size+1:=by simp
 generalize (w.alloc (.cells #[.slice pq pL.length pc,.int .i64 pg,.int .i64 pk,.bool pf] 24))=w1 at B1 X1 HC H s1 ⊢
 clear s1
 have XK:=aD (fun (V:World) (hV:wBl w1 V)=>(hV.block _ (aC X1.o)).trans X1.o)
 have p0:=aA X1.o (i:=0) rfl
 have p1:=aA X1.o (i:=1) rfl
 have p2:=aA X1.o (i:=2) rfl
 have p3:=aA X1.o (i:=3) rfl
 go_upto_region 4 with (go_at_call 6;(with_reducible refine(HC.o).mono ?_);rintro e w2 ⟨rfl,h2⟩;have B2:=aD h2;clear h2)
 clear p0 p1 p2 p3
 have x2:=XK.o _ B2.o
 have p0:=aA x2 (i:=0) rfl
 have MKB:=pO pL.length (by omega)
 go_upto_region 6 with fail
 clear p0 MKB
 have b4:=aC5 w2 pL
 have e4:(w2.alloc (.cells (boA pL.length fun _=>false) 4)).heap.size=w2.heap.size+1:=by simp
 have z4:w1.heap.size<=w2.heap.size:=B2.o.size
 have B4:wBl w1 (w2.alloc (.cells (boA pL.length fun _=>false) 4)):=B2.o.alloc z4 _
 generalize (w2.alloc (.cells (boA pL.length fun _=>false) 4))=w4 at b4 e4 B4 ⊢
 have R5:Hid (OI w1.heap.size (w4.alloc (.cells #[.int .i64 0] 3)) (.slice (some ⟨w4.heap.size,0,none⟩) 1 1) [0]):=World.ownsRow_lit w4 #[.int .i64 0] 1 (by omega) (by unfold maxLen;omega) rfl
 have S5:Hid (RcS w1 pL w2.heap.size (List.replicate pL.length false) (w4.alloc (.cells #[.int .i64 0] 3))):=⟨B4.alloc (by omega) _,b4.kept (bz9)⟩
 obtain⟨sb,hsb⟩:∃ sb,w2.heap.size=sb:=⟨_,rfl⟩
 rw [hsb] at S5 z4 e4 ⊢
 rw [e4] at R5
 have Z4:=aD z4
 generalize (w4.alloc (.cells #[.int .i64 0] 3))=w5 at R5 S5 ⊢
 clear b4 B4 e4 z4 hsb
 have UR:=yZ pL.length
 go_loopg [7] (4*pL.length+1) (fun k v wr=>∃ (S:List Bool) (W:List Int),OI w1.heap.size wr v W/\RcS w1 pL sb S wr/\SeN pL S W/\4*unS S+W.length=k/\k<=4*pL.length+1)
 case atStart=>exact⟨_,[0],R5.o,S5.o,SS.o,by rw [UR];rfl,j9 _⟩
 case round=>
  obtain⟨S,W,hR,hS,hN,hk,hk2⟩:=hrel
  have SN:=aD hN
  have RS:=aD hS
  have szr:=hS.b.size
  rcases n8 W with rfl | ⟨W',a,rfl⟩
  ·obtain⟨q,c,rfl⟩:=aK hR
   have SE:=SI.o S SN.o
   have hSl:=SN.o.len
   have bo:=aD RS.o.bo
   have i0:¬ (0:Int)>0:=by omega
   clear hR hS hN
   go_upto_region 20 with fail
   go_loopw [11,12] (fun v i wr2=>∃ j:Nat,j<=pL.length/\i=.int .i64 (j:Int)/\OI w1.heap.size wr2 v (dR (S.take j))/\wBl w1 wr2/\Bo wr2 sb pL.length (fun k=>S.getD k false)) (fun _ i _=>pL.length-(intOf i).toNat)
   case atStart=>exact⟨0,by omega,rfl,j8 _ _ _ _,RS.o.b,bo.o⟩
   case round=>
    rename World=>wq
    obtain⟨j,hj,rfl,hR2,hB2,hbo2⟩:=hrel
    obtain⟨q2,c2,rfl⟩:=aK hR2
    have R2:=aD hR2
    have B3:=aD hB2
    have bo3:=aD hbo2
    have szq:w1.heap.size<=wq.heap.size:=hB2.size
    have hsl:(dR (S.take j)).length<=40000:=by
     unfold dR
     rw [List.length_map]
     refine j4 (List.length_filter_le _ _) ?_
     rw [List.length_range,List.length_take]
     omega
    clear hR2 hB2 hbo2
    by_cases hjl:j<pL.length
    ·have j0:(0:Int)<=(j:Int):=by omega
     have j1:(j:Int)<(pL.length:Int):=by omega
     have cs:=bo3.o.cell hjl
     have SC:=nJ S j (by rw [hSl];exact hjl)
     have eS:S.getD j false=S[j]'(by rw [hSl];exact hjl):=by rw [k8,i8 (by rw [hSl];exact hjl)];rfl
     rw [eS] at cs
     obtain⟨bj,hbj⟩:∃ b,S[j]'(by rw [hSl];exact hjl)=b:=⟨_,rfl⟩
     rw [hbj] at cs SC
     clear eS hbj
     obtain⟨T,hT⟩:∃ T,dR (S.take j)=T:=⟨_,rfl⟩
     rw [hT] at SC R2 hsl ⊢
     have SC2:=aD SC
     clear SC hT
     cases bj with
     | false=>
      go_wp2
      go_roundw
      case rel=>exact⟨j+1,by omega,by go_num,by have:=SC2.o;simp at this;rw [this];exact R2.o,B3.o,bo3.o⟩
      case measure=>simp only [intOf];omega
     | true=>
      go_wp2_with (at_builtin;refine wpList_append_own_at _ rfl _ _ 31 rfl w1.heap.size 3 t0 (.int .i64 0) 1 8 dQ hi hz0 hz1 hz2 rfl (by decide) (.slice q2 T.length c2) T.length (cJ T) rfl (i9 R2.o _) ⟨wq.heap.size,0,none⟩ 1 1 [.int .i64 (j:Int)] rfl rfl (bH _ _ _) (by simp [Value.oneCell']) (by unfold maxLen;omega) (by omega) (by first | omega |(simp;omega)) ?_;intro v8 w8 hown hgrow _ _;have P8:=aD (OI.put R2.o lz9 szq hown hgrow (⟨B3.o,bo3.o⟩:RcS w1 pL sb S wq));clear hown hgrow)
      go_roundw
      case rel=>exact⟨j+1,by omega,by go_num,by have:=SC2.o;simp at this;rw [this];exact P8.o.1,P8.o.2.b,P8.o.2.bo⟩
      case measure=>simp only [intOf];omega
    ·have j1:¬ (j:Int)<(pL.length:Int):=by omega
     have e:dR (S.take j)=rr:=by rw [k6 (by omega)];exact SE
     rw [e] at R2 ⊢
     clear e
     go_wp2
     go_ret2
     exact⟨B1.o.trans (B3.o.mono B1.o.size),_,rfl,cV R2.o B1.o.size⟩
  ·rw [n9] at hR SN hk
   obtain⟨ha1,ha0,ha2⟩:=SN.o.ws a (by simp)
   obtain⟨kk,rfl⟩:∃ kk:Nat,a=(kk:Int):=⟨a.toNat,by omega⟩
   have hkk:kk<pL.length:=by omega
   obtain⟨g,c,rfl,hc,hcell,hR2,hgl⟩:=OI.pop hR
   have hlk:(W'++[(kk:Int)]).length=W'.length+1:=by simp
   obtain⟨N,hNN⟩:∃ N,(W'++[(kk:Int)]).length=N:=⟨_,rfl⟩
   rw [hNN] at hlk hk ⊢
   have R2:=aD hR2
   obtain⟨m,hm⟩:∃ m,W'.length=m:=⟨_,rfl⟩
   rw [hm] at hc hcell hlk R2 hR2
   have bo:=RS.o.bo
   have cs:=bo.cell hkk
   have i0:(0:Int)<(N:Int):=by omega
   have hw:IntKind.wrap .i64 ((N:Int)-1)=(m:Int):=by rw [wrap_small _ (by omega) (by omega)];omega
   have m0:(0:Int)<=(m:Int):=by omega
   have m1:(m:Int)<(N:Int):=by omega
   have m2:(m:Int)<=(c:Int):=by omega
   have k0:(0:Int)<=(kk:Int):=by omega
   have k1:(kk:Int)<(pL.length:Int):=by omega
   have hSk:kk<S.length:=by rw [SN.o.len];exact hkk
   obtain⟨bk,hbk⟩:∃ bk,S[kk]?=some bk:=⟨_,i8 hSk⟩
   have eg:=aB6 hbk
   rw [eg] at cs
   clear hR hR2
   cases bk with
   | true=>
    have N2:=aD (wS SN.o (by rw [o6];exact hbk))
    clear bo
    go_wp2
    go_roundg (4*unS S+W'.length)
    case measure=>omega
    case rel=>exact⟨S,W',R2.o,RS.o,N2.o,rfl,by omega⟩
   | false=>
    have US:=yY hbk
    have fz:=aG bo kk
    go_upto_region 11 with fail
    have bo2:Bo (wr.setCell ⟨sb,kk,none⟩ (.bool true)) sb pL.length (fun k=>(S.set kk true).getD k false):=bo.set kk (fun x _=>xV hSk x)
    have R3:Hid (OI w1.heap.size (wr.setCell ⟨sb,kk,none⟩ (.bool true)) (.slice (some ⟨g,0,none⟩) m c) W'):=aD (aL R2.o ((Fr.refl (At1 sb) wr).setCell (p:=⟨sb,kk,none⟩) rfl (.bool true)) (fun z hz e=>aJ R2.o bo (by decide) (by rw [hz,show z=_ from e])))
    have S3:Hid (RcS w1 pL sb (S.set kk true) (wr.setCell ⟨sb,kk,none⟩ (.bool true))):=aD ⟨RS.o.b.setCell Z4.o _,bo2⟩
    clear bo2 bo cs fz hcell eg
    generalize (wr.setCell ⟨sb,kk,none⟩ (.bool true))=v2 at R3 S3 ⊢
    obtain⟨i,hi2⟩:∃ i,pL[kk]?=some i:=⟨_,i8 hkk⟩
    have N3:=aD (wR LA.o SN.o (i:=i) (by rw [o6];exact hi2))
    rw [o6] at N3
    have LL:=aB0 i (kk:Int)
    obtain⟨b0,b1,b2,b3,b4,b5,hu⟩:=yT i.op
    have LE:=yU i hu (kk:Int)
    have OF:Hid (∀ w,Calls Tryz.prog 22 #[.int .i64 i.op] w fun e w'=>e=.returned (.tuple #[.agg #[.bool b0,.bool b1,.bool b2,.bool b3,.bool b4,.bool b5],.bool (isO i.op)])/\wBl w w'):=aD (fun w=>by have:=aN i.op w;rw [hu] at this;exact this)
    rw [LE] at N3 LL
    obtain⟨g1,o1,hq1,hl1,-⟩:=(H.o.kept S3.o.b).li.ten hi2
    have hq2:pq=some ⟨g1,o1,none⟩:=hq1
    subst hq2
    have CX:Hid (∀ V,wBl w1 V->V.heap.size>g1/\V.cell? ⟨w.heap.size,0,none⟩=some (.slice (some ⟨g1,o1,none⟩) pL.length pc)/\V.cell? ⟨g1,o1+kk*10,none⟩=some (.int .i64 i.op)/\V.cell? ⟨g1,o1+kk*10+1,none⟩=some (.int .i64 i.x)/\V.cell? ⟨g1,o1+kk*10+2,none⟩=some (.int .i64 i.y)):=aD (fun V hV=>by
     obtain⟨g',o',e,hl',d0,d1,d2,-⟩:=(H.o.kept hV).li.ten hi2
     obtain⟨rfl,rfl⟩:g1=g'/\o1=o':=by cases (j3 e);exact⟨rfl,rfl⟩
     exact⟨hl',aA (XK.o _ hV) (i:=0) rfl,d0,d1,d2⟩)
    clear hq1 hl1 hu LE hi2
    have sz2:w1.heap.size<=v2.heap.size:=S3.o.b.size
    obtain⟨cg,cp,c0,c1,c2⟩:=CX.o _ S3.o.b
    go_upto_region 12 with (go_at_call 22;(with_reducible refine(OF.o _).mono ?_);rintro e w6 ⟨rfl,h6⟩;have B6:=aD h6;have S6:=aD (S3.o.then sz2 h6);have R6:=aD (cW R3.o h6);clear h6)
    clear cg cp c0 c1 c2 OF
    have sz6:w1.heap.size<=w6.heap.size:=S6.o.b.size
    have BA:wBl w6 (w6.alloc (.cells #[.bool b0,.bool b1,.bool b2,.bool b3,.bool b4,.bool b5] 61)):=bz9
    have U7:Hid ((w6.alloc (.cells #[.bool b0,.bool b1,.bool b2,.bool b3,.bool b4,.bool b5] 61)).heap[w6.heap.size]?=some (.cells #[.bool b0,.bool b1,.bool b2,.bool b3,.bool b4,.bool b5] 61 (0,0))):=aE w6 _
    have S7:=aD (S6.o.then sz6 BA)
    have R7:=aD (cW R6.o BA)
    obtain⟨ub,hub⟩:∃ ub,w6.heap.size=ub:=⟨_,rfl⟩
    rw [hub] at U7 ⊢
    generalize (w6.alloc (.cells #[.bool b0,.bool b1,.bool b2,.bool b3,.bool b4,.bool b5] 61))=v7 at U7 S7 R7 ⊢
    clear S6 R6 B6 BA S3 R3 hub sz6 sz2
    have sz7:w1.heap.size<=v7.heap.size:=S7.o.b.size
    have u5:=aA U7.o (i:=5) rfl
    have hw1:IntKind.wrap .i64 ((kk:Int)+1)=(kk:Int)+1:=wrap_small _ (by omega) (by omega)
    have hW:W'.length<=160001:=by omega
    go_upto_if 58 with fail
    subst hm
    obtain⟨l1,hL1⟩:∃ l,W'++(if b5 then [(kk:Int)+1] else [])=l:=⟨_,rfl⟩
    obtain⟨l2,hL2⟩:∃ l,l1++(if b1 then [i.x] else [])=l:=⟨_,rfl⟩
    obtain⟨l3,hL3⟩:∃ l,l2++(if b2 then [i.y] else [])=l:=⟨_,rfl⟩
    have HL1:=aD hL1
    have HL2:=aD hL2
    have HL3:=aD hL3
    have D1:l1.length<=160002:=by rw [<- hL1,j2];split <;> simp <;> omega
    have D2:l2.length<=160003:=by rw [<- hL2,j2];split <;> simp <;> omega
    have E3:Hid (W'++((if b5 then [(kk:Int)+1] else [])++((if b1 then [i.x] else [])++(if b2 then [i.y] else [])))=l3):=aD (by rw [<- hL3,<- hL2,<- hL1];simp only [List.append_assoc])
    rw [E3.o] at N3
    have D3:l3.length<=W'.length+3:=by
     have:=congrArg List.length E3.o
     rw [j2] at this
     omega
    clear hL1 hL2 hL3 LL
    go_cut [7] (fun v wx=>OI w1.heap.size wx v l1/\RcS w1 pL sb (S.set kk true) wx/\wx.heap[ub]?=some (.cells #[.bool b0,.bool b1,.bool b2,.bool b3,.bool b4,.bool b5] 61 (0,0)))
    case first=>
     cases b5 with
     | false=>
      have e:Hid (W'=l1):=aD (by have:=HL1.o;simpa using this)
      go_wp2
      go_meet
      rw [<- e.o]
      exact⟨R7.o,S7.o,U7.o⟩
     | true=>
      have e:Hid (W'++[(kk:Int)+1]=l1):=aD (by have:=HL1.o;simpa using this)
      obtain⟨cg,cp,c0,c1,c2⟩:=CX.o _ S7.o.b
      go_wp2_with (at_builtin;refine wpList_append_own_at _ rfl _ _ 31 rfl w1.heap.size 3 t0 (.int .i64 0) 1 8 dQ hi hz0 hz1 hz2 rfl (by decide) (.slice (some ⟨g,0,none⟩) W'.length c) W'.length (cJ W') rfl (i9 R7.o _) ⟨v7.heap.size,0,none⟩ 1 1 [.int .i64 ((kk:Int)+1)] rfl rfl (bH _ _ _) (by simp [Value.oneCell']) (by unfold maxLen;omega) (by omega) (by first | omega |(simp;omega)) ?_;intro v8 w8 hown hgrow _ _;have P8:=aD (OI.put R7.o lz9 sz7 hown hgrow S7.o);have U8:=aD (OI.keep R7.o hgrow U7.o (by decide));clear hown hgrow)
      go_meet
      rw [<- e.o]
      exact⟨P8.o.1,P8.o.2,U8.o⟩
    case rest=>
     obtain⟨hR,hS,hU⟩:=hcut
     obtain⟨q11,d11,rfl⟩:=aK hR
     have R11:=aD hR
     have S11:=aD hS
     have U11:=aD hU
     clear hR hS hU
     have sz11:w1.heap.size<=wc.heap.size:=S11.o.b.size
     have u11:=aA U11.o (i:=1) rfl
     go_upto_if 65 with fail
     go_cut [7] (fun v wx=>OI w1.heap.size wx v l2/\RcS w1 pL sb (S.set kk true) wx/\wx.heap[ub]?=some (.cells #[.bool b0,.bool b1,.bool b2,.bool b3,.bool b4,.bool b5] 61 (0,0)))
     case first=>
      cases b1 with
      | false=>
       have e:Hid (l1=l2):=aD (by have:=HL2.o;simpa using this)
       go_wp2
       go_meet
       rw [<- e.o]
       exact⟨R11.o,S11.o,U11.o⟩
      | true=>
       have e:Hid (l1++[i.x]=l2):=aD (by have:=HL2.o;simpa using this)
       obtain⟨cg,cp,c0,c1,c2⟩:=CX.o _ S11.o.b
       go_wp2_with (at_builtin;refine wpList_append_own_at _ rfl _ _ 31 rfl w1.heap.size 3 t0 (.int .i64 0) 1 8 dQ hi hz0 hz1 hz2 rfl (by decide) (.slice q11 l1.length d11) l1.length (cJ l1) rfl (i9 R11.o _) ⟨wc.heap.size,0,none⟩ 1 1 [.int .i64 (i.x)] rfl rfl (bH _ _ _) (by simp [Value.oneCell']) (by unfold maxLen;omega) (by omega) (by first | omega |(simp;omega)) ?_;intro v8 w8 hown hgrow _ _;have P8:=aD (OI.put R11.o lz9 sz11 hown hgrow S11.o);have U8:=aD (OI.keep R11.o hgrow U11.o (by decide));clear hown hgrow)
       go_meet
       rw [<- e.o]
       exact⟨P8.o.1,P8.o.2,U8.o⟩
     case rest=>
      obtain⟨hR,hS,hU⟩:=hcut
      obtain⟨q12,d12,rfl⟩:=aK hR
      have R12:=aD hR
      have S12:=aD hS
      have U12:=aD hU
      clear hR hS hU
      have sz12:w1.heap.size<=wc.heap.size:=S12.o.b.size
      have u12:=aA U12.o (i:=2) rfl
      go_upto_if 76 with fail
      cases b2 with
      | false=>
        have e:l2=l3:=by have:=HL3.o;simpa using this
        have R13:=R12
        rw [e] at R13
        go_wp2
        go_roundg (4*unS (S.set kk true)+l3.length)
        case measure=>omega
        case rel=>exact⟨S.set kk true,l3,by rw [e];exact R13.o,S12.o,N3.o,rfl,by omega⟩
      | true=>
        have e:Hid (l2++[i.y]=l3):=aD (by have:=HL3.o;simpa using this)
        obtain⟨cg,cp,c0,c1,c2⟩:=CX.o _ S12.o.b
        go_wp2_with (at_builtin;refine wpList_append_own_at _ rfl _ _ 31 rfl w1.heap.size 3 t0 (.int .i64 0) 1 8 dQ hi hz0 hz1 hz2 rfl (by decide) (.slice q12 l2.length d12) l2.length (cJ l2) rfl (i9 R12.o _) ⟨wc.heap.size,0,none⟩ 1 1 [.int .i64 (i.y)] rfl rfl (bH _ _ _) (by simp [Value.oneCell']) (by unfold maxLen;omega) (by omega) (by first | omega |(simp;omega)) ?_;intro v8 w8 hown hgrow _ _;have P8:=aD (OI.put R12.o lz9 sz12 hown hgrow S12.o);have U8:=aD (OI.keep R12.o hgrow U12.o (by decide));clear hown hgrow)
        go_roundg (4*unS (S.set kk true)+l3.length)
        case measure=>omega
        case rel=>exact⟨S.set kk true,l3,by rw [<- e.o];exact P8.o.1,P8.o.2,N3.o,rfl,by omega⟩
end
section
attribute [local go_sem] Oper.semAt_some cD
theorem aD5(s:aQ)(b:Nat):decide (aB s (b/64)/2 ^ (b%64)%2=1)=s.getLsbD b:=by
 unfold aB
 have h1:(s.extractLsb' (64*(b/64)) 64).getLsbD (b%64)=s.getLsbD b:=by
  rw [BitVec.getLsbD_extractLsb']
  have:b%64<64:=Nat.mod_lt _ (by decide)
  simp only [this,decide_true,Bool.true_and]
  congr 1
  omega
 rw [<- h1]
 unfold BitVec.getLsbD
 rw [Nat.testBit_eq_decide_div_mod_eq]
 generalize (s.extractLsb' (64*(b/64)) 64).toNat=n
 have e:((n:Int)/2 ^ (b%64)%2)=((n/2 ^ (b%64)%2:Nat):Int):=by
  push_cast
  rfl
 rw [e]
 apply decide_eq_decide.2
 omega
theorem wZ(s:aQ)(b:Nat)(hb:b<256)(w:World):Calls Tryz.prog 62 #[.agg #[.int .u64 (aB s 0),.int .u64 (aB s 1),.int .u64 (aB s 2),.int .u64 (aB s 3)],.int .i64 (b:Int)] w fun e w'=>e=.returned (.bool (s.getLsbD b))/\wBl w w':=by
 have B1:Hid (wBl w (w.alloc (.cells #[.int .u64 (aB s 0),.int .u64 (aB s 1),.int .u64 (aB s 2),.int .u64 (aB s 3)] 52))):=bz9
 have X1:Hid ((w.alloc (.cells #[.int .u64 (aB s 0),.int .u64 (aB s 1),.int .u64 (aB s 2),.int .u64 (aB s 3)] 52)).heap[w.heap.size]?=some (.cells #[.int .u64 (aB s 0),.int .u64 (aB s 1),.int .u64 (aB s 2),.int .u64 (aB s 3)] 52 (0,0))):=aE w _
 have HW0:=aD5 s b
 obtain⟨ans,ha⟩:∃ a,s.getLsbD b=a:=⟨_,rfl⟩
 rw [ha] at HW0 ⊢
 have q:∃ k r:Nat,k<4/\r<64/\(b:Int).tdiv 64=k/\(b:Int).tmod 64=r/\b/64=k/\b%64=r:=⟨b/64,b%64,by omega,by omega,by rw [Int.tdiv_eq_ediv_of_nonneg (by omega)];omega,by rw [r8 (by omega)];omega,rfl,rfl⟩
 obtain⟨k,r,hk,hr,t1,t2,e1,e2⟩:=q
 rw [e1,e2] at HW0
 have hz:0<=aB s k/2 ^ r:=Int.ediv_nonneg (by unfold aB;omega) (by exact Int.le_of_lt (Int.pow_pos (by decide)))
 have HW:Hid (((aB s k/2 ^ r).tmod 2==1)=ans):=aD (by rw [r8 hz,<- HW0];exact Bool.eq_iff_iff.2 (by simp))
 have hw1:IntKind.wrap .i64 (k:Int)=(k:Int):=wrap_small _ (by omega) (by omega)
 have hw2:IntKind.wrap .i64 (r:Int)=(r:Int):=wrap_small _ (by omega) (by omega)
 have k0:(0:Int)<=(k:Int):=by omega
 have k1:(k:Int)<4:=by omega
 have r0:¬ (r:Int)<0:=by omega
 have r1:(r:Int)<64:=by omega
 clear e1 e2 HW0 hz ha
 go_enter Tryz.func62,Tryz.ntmps62
 go_upto_region 1 with fail
 generalize (w.alloc (.cells #[.int .u64 (aB s 0),.int .u64 (aB s 1),.int .u64 (aB s 2),.int .u64 (aB s 3)] 52))=w1 at B1 X1 ⊢
 have c:∀ i,i<4->w1.cell? ⟨w.heap.size,i,none⟩=some (.int .u64 (aB s i)):=fun i hi=>by
  match i,hi with
  | 0,_=>exact aA X1.o (i:=0) rfl
  | 1,_=>exact aA X1.o (i:=1) rfl
  | 2,_=>exact aA X1.o (i:=2) rfl
  | 3,_=>exact aA X1.o (i:=3) rfl
 have ck:=c k hk
 clear c
 go_wp2
 go_ret
 exact⟨by rw [<- HW.o];rfl,B1.o⟩
theorem jT{n:Nat}(h:n<10):Lib.decDigits n=[UInt8.ofNat (48+n)]:=by rw [Lib.decDigits,dif_pos h]
theorem qR{n:Nat}(h:¬ n<10):Lib.decDigits n=Lib.decDigits (n/10)++[UInt8.ofNat (48+n%10)]:=by rw [Lib.decDigits,dif_neg h]
def DgA(n0 n:Nat)(l:List UInt8):Prop:=l.length<=20/\n<=n0/\(n=0->Lib.decDigits n0=l)/\(n≠0->Lib.decDigits n0=Lib.decDigits n++l)
theorem yA{n0 n:Nat}{l:List UInt8}(h:DgA n0 n l)(hn:n≠0)(h0:n0<=9223372036854775807):DgA n0 (n/10) ([UInt8.ofNat (48+n%10)]++l):=by
 obtain⟨h1,h2,_,h3⟩:=h
 have h4:=h3 hn
 have e:n/10=0->Lib.decDigits n0=[UInt8.ofNat (48+n%10)]++l:=fun q=>by rw [h4,jT (by omega),Nat.mod_eq_of_lt (by omega)]
 have f:n/10≠0->Lib.decDigits n0=Lib.decDigits (n/10)++([UInt8.ofNat (48+n%10)]++l):=fun q=>by rw [h4,qR (by omega),List.append_assoc]
 have hl:(Lib.decDigits n0).length<=20:=by rw [Lib.decDigits_length];exact Lib.nDigits_le20 n0 (by omega)
 refine⟨?_,by omega,e,f⟩
 by_cases q:n/10=0
 ·rw [<- e q];exact hl
 ·have:=congrArg List.length (f q)
  rw [j2] at this
  omega
theorem vJ{n0:Nat}(h0:n0<=9223372036854775807):DgA n0 (n0/10) [UInt8.ofNat (48+n0%10)]:=by
 by_cases q:n0<10
 ·refine⟨by simp,by omega,fun _=>by rw [jT q,Nat.mod_eq_of_lt q],fun h=>absurd (by omega) h⟩
 ·refine⟨by simp,by omega,fun h=>by omega,fun _=>qR q⟩
end
section
attribute [local go_sem] Oper.semAt_some
theorem cI(a b:List UInt8):txt a++txt b=txt (a++b):=by
 simp [txt,ByteArray.ext_iff]
theorem aD4(W:World)(a:UInt8):(convert 56 9 (.slice (some ⟨W.heap.size,0,none⟩) 1 1)).run Tryz.prog (W.alloc (.cells #[.int .u8 (a.toNat:Int)] 5))=.ok (.string (txt [a])) (W.alloc (.cells #[.int .u8 (a.toNat:Int)] 5)):=by
 refine run_convert_bytes_back (W.alloc (.cells #[.int .u8 (a.toNat:Int)] 5)) _ _ 5 ⟨W.heap.size,0,none⟩ 1 [a] Tryz.underlying56 Tryz.underlying5 Tryz.underlying9 (fun j hj=>?_)
 have hn:(W.alloc (.cells #[.int .u8 (a.toNat:Int)] 5)).heap[W.heap.size]?=some (.cells #[.int .u8 (a.toNat:Int)] 5 (0,0)):=aE W _
 match j,hj with
 | 0,_=>exact aA hn (i:=0) rfl
theorem mO{n:Nat}:∃ a:UInt8,a=UInt8.ofNat (48+n%10)/\IntKind.wrap .u8 (48+((n%10:Nat):Int))=((a.toNat:Nat):Int):=by
 refine⟨_,rfl,?_⟩
 have h:n%10<10:=Nat.mod_lt _ (by decide)
 generalize n%10=r at h ⊢
 have:∀ r:Fin 10,IntKind.wrap .u8 (48+((r.val:Nat):Int))=(((UInt8.ofNat (48+r.val)).toNat:Nat):Int):=by decide +kernel
 exact this ⟨r,h⟩
theorem mN(n0:Nat)(h0:n0<=1000000000)(w:World):Calls Tryz.prog 20 #[.int .i64 (n0:Int)] w fun e w'=>e=.returned (.string (txt (Lib.itoa (n0:Int))))/\wBl w w':=by
 have HD:=aD (vJ (n0:=n0) (by omega))
 have i0:¬ (n0:Int)<0:=by omega
 obtain⟨a,ha,hwa⟩:=mO (n:=n0)
 have t1:(n0:Int).tdiv 10=((n0/10:Nat):Int):=by rw [Int.tdiv_eq_ediv_of_nonneg (by omega)];omega
 have t2:(n0:Int).tmod 10=((n0%10:Nat):Int):=by rw [r8 (by omega)];omega
 have hw1:IntKind.wrap .i64 ((n0/10:Nat):Int)=((n0/10:Nat):Int):=wrap_small _ (by omega) (by omega)
 have hw2:IntKind.wrap .i64 ((n0%10:Nat):Int)=((n0%10:Nat):Int):=wrap_small _ (by omega) (by omega)
 have hw3:IntKind.wrap .i64 (48+((n0%10:Nat):Int))=48+((n0%10:Nat):Int):=wrap_small _ (by omega) (by omega)
 have q0:n0/10<=1000000000:=by omega
 rw [<- ha] at HD
 clear ha
 obtain⟨q,hq⟩:∃ q,n0/10=q:=⟨_,rfl⟩
 obtain⟨r,hr⟩:∃ r,n0%10=r:=⟨_,rfl⟩
 rw [hq] at t1 hw1 q0 HD
 rw [hr] at t2 hw2 hw3 hwa
 clear hq hr
 have hcv:=fun W=>aD4 W a
 go_enter Tryz.func20,Tryz.ntmps20
 go_wp2
 have B1:Hid (wBl w (w.alloc (.cells #[.int .u8 (a.toNat:Int)] 5))):=bz9
 generalize (w.alloc (.cells #[.int .u8 (a.toNat:Int)] 5))=w1 at B1 ⊢
 clear hcv hwa hw1 hw2 hw3 t1 t2
 go_loopw [0,3] (fun n s wr=>∃ (m:Nat) (l:List UInt8),n=.int .i64 (m:Int)/\m<=1000000000/\s=.string (txt l)/\DgA n0 m l/\wBl w wr) (fun n _ _=>(intOf n).toNat)
 case atStart=>exact⟨q,[a],rfl,q0,rfl,HD.o,B1.o⟩
 case round=>
  obtain⟨m,l,rfl,hm,rfl,hd,hb⟩:=hrel
  have B:=aD hb
  have D:=aD hd
  clear hb hd
  by_cases hz:m=0
  ·subst hz
   have E:Hid (Lib.itoa (n0:Int)=l):=aD (by rw [Lib.itoa_nonneg];exact D.o.2.2.1 rfl)
   go_wp2
   go_ret
   exact⟨by rw [E.o];rfl,B.o⟩
  ·have DN:=aD (yA D.o hz (by omega))
   have i1:(0:Int)<(m:Int):=by omega
   obtain⟨d,hd,hwd⟩:=mO (n:=m)
   rw [<- hd] at DN
   have hl:l.length<=20:=D.o.1
   have t1:(m:Int).tdiv 10=((m/10:Nat):Int):=by rw [Int.tdiv_eq_ediv_of_nonneg (by omega)];omega
   have t2:(m:Int).tmod 10=((m%10:Nat):Int):=by rw [r8 (by omega)];omega
   have hw1:IntKind.wrap .i64 ((m/10:Nat):Int)=((m/10:Nat):Int):=wrap_small _ (by omega) (by omega)
   have hw2:IntKind.wrap .i64 ((m%10:Nat):Int)=((m%10:Nat):Int):=wrap_small _ (by omega) (by omega)
   have hw3:IntKind.wrap .i64 (48+((m%10:Nat):Int))=48+((m%10:Nat):Int):=wrap_small _ (by omega) (by omega)
   have q1:m/10<m:=by omega
   have A:txt [d]++txt l=txt ([d]++l):=cI [d] l
   have f1:¬ 9223372036854775807<(txt [d]).size+(txt l).size:=by rw [aR,aR];simp;omega
   clear hd
   obtain⟨q,hq⟩:∃ q,m/10=q:=⟨_,rfl⟩
   obtain⟨r,hr⟩:∃ r,m%10=r:=⟨_,rfl⟩
   rw [hq] at t1 hw1 q1 DN
   rw [hr] at t2 hw2 hw3 hwd
   clear hq hr
   obtain⟨l2,hl2⟩:∃ l2,[d]++l=l2:=⟨_,rfl⟩
   rw [hl2] at DN A
   have hcv:=fun W=>aD4 W d
   generalize txt [d]=d1 at A f1 hcv
   generalize hT:txt l=d2 at A f1 ⊢
   clear hl2 hT
   go_wp2
   go_roundw
   case rel=>exact⟨q,l2,by go_num,by omega,by rw [<- A],DN.o,B.o.alloc (by have:=B.o.size;omega) _⟩
   case measure=>simp only [intOf];omega
end
section
attribute [local go_sem] Oper.semAt_some cD
theorem xS(n:Nat)(h:n<16):(⟨#[48,49,50,51,52,53,54,55,56,57,97,98,99,100,101,102]⟩:ByteArray).extract n (n+1)=txt [hxD n]:=by
 have:∀ n:Fin 16,((⟨#[48,49,50,51,52,53,54,55,56,57,97,98,99,100,101,102]⟩:ByteArray).extract n.val (n.val+1)).data.toList=[hxD n.val]:=by decide +kernel
 have h2:=this ⟨n,h⟩
 apply ByteArray.ext
 apply Array.ext'
 exact h2
theorem xA(b:Nat)(hb:b<256)(w:World):Calls Tryz.prog 63 #[.int .i64 (b:Int)] w fun e w'=>e=.returned (.string (txt (hxW b)))/\w'=w.drew:=by
 obtain⟨q,hq⟩:∃ q,b/16=q:=⟨_,rfl⟩
 obtain⟨r,hr⟩:∃ r,b%16=r:=⟨_,rfl⟩
 have hq2:q<16:=by omega
 have hr2:r<16:=by omega
 have t1:(b:Int).tdiv 16=(q:Int):=by rw [Int.tdiv_eq_ediv_of_nonneg (by omega)];omega
 have t2:(b:Int).tmod 16=(r:Int):=by rw [r8 (by omega)];omega
 have hw1:IntKind.wrap .i64 (q:Int)=(q:Int):=wrap_small _ (by omega) (by omega)
 have hw2:IntKind.wrap .i64 (r:Int)=(r:Int):=wrap_small _ (by omega) (by omega)
 have hw3:IntKind.wrap .i64 ((q:Int)+1)=(q:Int)+1:=wrap_small _ (by omega) (by omega)
 have hw4:IntKind.wrap .i64 ((r:Int)+1)=(r:Int)+1:=wrap_small _ (by omega) (by omega)
 have i1:(0:Int)<=(q:Int):=by omega
 have i2:(q:Int)<=(q:Int)+1:=by omega
 have i3:(q:Int)+1<=16:=by omega
 have i4:(0:Int)<=(r:Int):=by omega
 have i5:(r:Int)<=(r:Int)+1:=by omega
 have i6:(r:Int)+1<=16:=by omega
 have n1:((q:Int)+1).toNat=q+1:=by omega
 have n2:((r:Int)+1).toNat=r+1:=by omega
 have e1:=xS q hq2
 have e2:=xS r hr2
 have E:Hid (txt [hxD q]++txt [hxD r]=txt (hxW b)):=aD (by rw [cI];unfold hxW;rw [hq,hr];rfl)
 have f1:¬ 9223372036854775807<(txt [hxD q]).size+(txt [hxD r]).size:=by rw [aR,aR];simp
 generalize txt [hxD q]=d1 at e1 f1 E
 generalize txt [hxD r]=d2 at e2 f1 E
 generalize txt (hxW b)=d3 at E ⊢
 clear hq hr hq2 hr2 hb
 go_enter Tryz.func63,Tryz.ntmps63
 go_wp2
 go_region
 all_goals go_wp2
 all_goals go_ret
 all_goals exact⟨by rw [<- E.o];rfl,rfl⟩
end
def elW(s:aQ)(n:Nat):List cH:=(List.range n).filterMap fun n=>if h:n<256/\s.getLsbD n=true then some ⟨(n:Int),eX h.1⟩ else none
theorem aH1{s:aQ}{n:Nat}(h:s.getLsbD n=false):elW s (n+1)=elW s n:=by
 unfold elW
 rw [List.range_succ,List.filterMap_append]
 simp [h]
theorem aB9{s:aQ}{n:Nat}(h:s.getLsbD n=true)(hn:n<256):elW s (n+1)=elW s n++[⟨(n:Int),eX hn⟩]:=by
 unfold elW
 rw [List.range_succ,List.filterMap_append]
 simp [h,hn]
def rgs(s:aQ)(n:Nat):lIi:=aT (elW s n)
theorem kO{s:aQ}{n:Nat}(h:s.getLsbD n=false):rgs s (n+1)=rgs s n:=by unfold rgs;rw [aH1 h]
theorem pZ{s:aQ}{n:Nat}(h:s.getLsbD n=true)(hn:n<256):rgs s (n+1)=dO (rgs s n) n:=by unfold rgs;rw [aB9 h hn,bQ]
theorem vE(xs:List (List UInt8))(x sep:List UInt8):Lib.join (xs++[x]) sep=if xs=[] then x else Lib.join xs sep++sep++x:=by
 cases xs with
 | nil=>simp [Lib.join_one]
 | cons y r=>
  rw [n4,Lib.join_cons,Lib.join_cons,if_neg (by simp)]
  simp [Lib.joinTail]
structure ClA(s:aQ)(b:Nat)(out:List UInt8):Prop where
 hb:b<=256
 txt:out=Lib.join (prW (rgs s b)) [44]
 nil:out=[]↔rgs s b=[]
 lo:∀ p∈rgs s b,p.2<b
 op:∀ p∈rgs s b,p.2=(b:Int)-1->s.getLsbD b=false
 len:out.length<=6*b
theorem vN(s:aQ):ClA s 0 []:=⟨by omega,rfl,by simp [rgs,elW,aT],by simp [rgs,elW,aT],by simp [rgs,elW,aT],by simp⟩
theorem aH3{s:aQ}{b:Nat}{out:List UInt8}(h:ClA s b out)(hb:b<256)(hn:s.getLsbD b=false):ClA s (b+1) out:=by
 refine⟨by omega,by rw [kO hn];exact h.txt,by rw [kO hn];exact h.nil,fun p hp=>?_,fun p hp e=>?_,by have:=h.len;omega⟩
 ·rw [kO hn] at hp
  have:=h.lo p hp
  omega
 ·rw [kO hn] at hp
  have:=h.lo p hp
  omega
def ClB(s:aQ)(b t:Nat):Prop:=b<=t/\t<256/\rgs s (t+1)=rgs s b++[((b:Int),(t:Int))]
theorem vM{s:aQ}{b:Nat}{out:List UInt8}(h:ClA s b out)(hb:b<256)(hy:s.getLsbD b=true):ClB s b b:=by
 refine⟨j9 _,hb,?_⟩
 rw [pZ hy hb]
 rcases n8 (rgs s b) with e | ⟨acc,p,e⟩
 ·rw [e]
  rfl
 ·rw [n9] at e
  obtain⟨lo,hi⟩:=p
  have hm:(lo,hi)∈rgs s b:=by rw [e];simp
  rw [e,dF]
  intro q
  have:=h.op _ hm q
  rw [hy] at this
  cases this
theorem yE{s:aQ}{b t:Nat}(h:ClB s b t)(ht:t<255)(hy:s.getLsbD (t+1)=true):ClB s b (t+1):=by
 obtain⟨h1,h2,h3⟩:=h
 refine⟨by omega,by omega,?_⟩
 rw [pZ hy (by omega),h3,dP]
 omega
theorem aC2{s:aQ}{b t:Nat}{out:List UInt8}(h:ClA s b out)(hb:ClB s b t)(he:t=255\/s.getLsbD (t+1)=false) :
  ClA s (t+1) ((if out=[] then [] else out++[44])++rgW b t):=by
 obtain⟨h1,h2,h3⟩:=hb
 have hf:s.getLsbD (t+1)=false:=by
  rcases he with e | e
  ·subst e;exact BitVec.getLsbD_of_ge _ _ (by omega)
  ·exact e
 have hr:(rgW b t).length≠0:=by unfold rgW hxW;split <;> simp
 refine⟨by omega,?_,?_,?_,?_,?_⟩
 ·rw [h3,prW,List.map_append,List.map_cons,List.map_nil,vE]
  by_cases e:rgs s b=[]
  ·rw [if_pos (h.nil.2 e),e,List.map_nil,if_pos rfl]
   simp
  ·rw [if_neg (fun q=>e (h.nil.1 q)),if_neg (by simpa using e),h.txt]
   simp [prW]
 ·constructor
  ·intro q
   have:=congrArg List.length q
   rw [j2,List.length_nil] at this
   omega
  ·intro q
   rw [h3] at q
   simp at q
 ·intro p hp
  rw [h3] at hp
  rcases o4.1 hp with q | q
  ·have:=h.lo p q
   omega
  ·simp at q
   subst q
   dsimp only
   omega
 ·intro p hp _
  exact hf
 ·have:=h.len
  have:=kP b t
  split
  ·simp
   omega
  ·simp
   omega
theorem aC3{s:aQ}{out:List UInt8}(h:ClA s 256 out):(if out=[] then [110,111,110,101] else out)=stW s:=by
 unfold stW
 have e:rgs s 256=aT (aP s):=rfl
 rw [<- e]
 by_cases q:out=[]
 ·rw [if_pos q,if_pos (h.nil.1 q)]
 ·rw [if_neg q,if_neg (fun r=>q (h.nil.2 r)),<- h.txt]
section
attribute [local go_sem] Oper.semAt_some
theorem zL(k:Nat):rgW k k=hxW k:=by unfold rgW;rw [if_pos rfl]
theorem zK{k j:Nat}(h:k<j):rgW k j=hxW k++[45]++hxW j:=by unfold rgW;rw [if_neg (by omega)]
theorem xE(s:aQ)(w:World):Calls Tryz.prog 44 #[.agg #[.int .u64 (aB s 0),.int .u64 (aB s 1),.int .u64 (aB s 2),.int .u64 (aB s 3)]] w fun e w'=>e=.returned (.string (txt (stW s)))/\wBl w w':=by
 have B1:Hid (wBl w (w.alloc (.cells #[.int .u64 (aB s 0),.int .u64 (aB s 1),.int .u64 (aB s 2),.int .u64 (aB s 3)] 52))):=bz9
 have X1:Hid ((w.alloc (.cells #[.int .u64 (aB s 0),.int .u64 (aB s 1),.int .u64 (aB s 2),.int .u64 (aB s 3)] 52)).heap[w.heap.size]?=some (.cells #[.int .u64 (aB s 0),.int .u64 (aB s 1),.int .u64 (aB s 2),.int .u64 (aB s 3)] 52 (0,0))):=aE w _
 have ST:=aD (vN s)
 have EN:=aD (fun l (h:ClA s 256 l)=>aC3 h)
 obtain⟨ans,ha⟩:∃ a,stW s=a:=⟨_,rfl⟩
 rw [ha] at EN ⊢
 clear ha
 go_enter Tryz.func44,Tryz.ntmps44
 go_upto_region 3 with fail
 generalize (w.alloc (.cells #[.int .u64 (aB s 0),.int .u64 (aB s 1),.int .u64 (aB s 2),.int .u64 (aB s 3)] 52))=w1 at B1 X1 ⊢
 have l1:=aC X1.o
 go_loopw [3,4] (fun o b wr=>∃ (l:List UInt8) (k:Nat),o=.string (txt l)/\b=.int .i64 (k:Int)/\ClA s k l/\wBl w1 wr) (fun _ b _=>256-(intOf b).toNat)
 case atStart=>exact⟨[],0,rfl,rfl,ST.o,Below.refl _ _⟩
 case round=>
  obtain⟨l,k,rfl,rfl,hc,hb⟩:=hrel
  have C:=aD hc
  have B:=aD hb
  have X:=aD ((hb.block _ l1).trans X1.o)
  have hk:=hc.hb
  have hll:=hc.len
  clear hc hb
  by_cases hk2:k<256
  ·have i1:(k:Int)<256:=by omega
   have c0:=aA X.o (i:=0) rfl
   have c1:=aA X.o (i:=1) rfl
   have c2:=aA X.o (i:=2) rfl
   have c3:=aA X.o (i:=3) rfl
   have hw1:IntKind.wrap .i64 ((k:Int)+1)=(k:Int)+1:=wrap_small _ (by omega) (by omega)
   have RI:=aD (wZ s k hk2 wr)
   rcases hin:s.getLsbD k with _ | _
   ·rw [hin] at RI
    have CN:=aD (aH3 C.o hk2 hin)
    clear hin
    go_wp2_with (go_at_call 62;(with_reducible refine(RI.o).mono ?_);rintro e w2 ⟨rfl,h2⟩;have B2:=aD (aF B.o h2 lz9);clear h2)
    go_roundw
    case rel=>exact⟨l,k+1,rfl,by go_num,CN.o,B2.o⟩
    case measure=>simp only [intOf];omega
   ·rw [hin] at RI
    have CS:=aD (vM C.o hk2 hin)
    clear hin
    go_upto_region 8 with (go_at_call 62;(with_reducible refine(RI.o).mono ?_);rintro e w2 ⟨rfl,h2⟩;have B2:=aD (aF B.o h2 lz9);clear h2)
    clear c0 c1 c2 c3
    go_loopw [6] (fun t wr=>∃ (j:Nat),t=.int .i64 (j:Int)/\ClB s k j/\wBl w1 wr) (fun t _=>255-(intOf t).toNat)
    case atStart=>exact⟨k,rfl,CS.o,B2.o⟩
    case round=>
     rename World=>wq
     obtain⟨j,rfl,hcb,hb⟩:=hrel
     have D:=aD hcb
     have B3:=aD hb
     have X3:=aD ((hb.block _ l1).trans X1.o)
     have hj:j<256:=hcb.2.1
     have hkj:k<=j:=hcb.1
     clear hcb hb
     obtain⟨bt,hbt⟩:∃ bt,s.getLsbD (j+1)=bt:=⟨_,rfl⟩
     by_cases hgo:j<255/\bt=true
     ·obtain⟨hj2,rfl⟩:=hgo
      have i2:(j:Int)<255:=by omega
      have c0:=aA X3.o (i:=0) rfl
      have c1:=aA X3.o (i:=1) rfl
      have c2:=aA X3.o (i:=2) rfl
      have c3:=aA X3.o (i:=3) rfl
      have hw2:IntKind.wrap .i64 ((j:Int)+1)=(j:Int)+1:=wrap_small _ (by omega) (by omega)
      have RJ:=aD (wZ s (j+1) (by omega) wq)
      rw [hbt,show ((j+1:Nat):Int)=(j:Int)+1 by omega] at RJ
      have CM:=aD (yE D.o hj2 hbt)
      clear hbt
      go_wp2_with (go_at_call 62;(with_reducible refine(RJ.o).mono ?_);rintro e w4 ⟨rfl,h4⟩;have B4:=aD (aF B3.o h4 lz9);clear h4)
      go_roundw
      case rel=>exact⟨j+1,by go_num,CM.o,B4.o⟩
      case measure=>simp only [intOf];omega
     ·have E:j=255\/s.getLsbD (j+1)=false:=by
       rw [hbt]
       cases bt
       ·exact .inr rfl
       ·exact .inl (by have:¬ j<255:=fun q=>hgo ⟨q,rfl⟩;omega)
      have CP:=aD (aC2 C.o D.o E)
      have RJ:Hid (j<255->Calls Tryz.prog 62 #[.agg #[.int .u64 (aB s 0),.int .u64 (aB s 1),.int .u64 (aB s 2),.int .u64 (aB s 3)],.int .i64 ((j:Int)+1)] wq fun e w'=>e=.returned (.bool false)/\wBl wq w'):=aD (fun hj2=>by
       have h:=wZ s (j+1) (by omega) wq
       have hb2:bt=false:=by cases bt;rfl;exact absurd ⟨hj2,rfl⟩ hgo
       rw [hbt,hb2,show ((j+1:Nat):Int)=(j:Int)+1 by omega] at h
       exact h)
      clear E hbt hgo
      have hw2:IntKind.wrap .i64 ((j:Int)+1)=(j:Int)+1:=wrap_small _ (by omega) (by omega)
      have hw3:IntKind.wrap .i64 ((k:Int)+1)=(k:Int)+1:=wrap_small _ (by omega) (by omega)
      have HK:=aD (fun V=>xA k hk2 V)
      have HJ:=aD (fun V=>xA j hj V)
      have b0:0<=0:=j9 _
      obtain⟨ko,hko⟩:∃ o,hxW k=o:=⟨_,rfl⟩
      obtain⟨jo,hjo⟩:∃ o,hxW j=o:=⟨_,rfl⟩
      have kl:ko.length=2:=by rw [<- hko];rfl
      have jl:jo.length=2:=by rw [<- hjo];rfl
      have LP:∃ lp:List UInt8,(if l=[] then [] else l++[44])=lp/\lp.length<=6*256+1:=⟨_,rfl,by split <;> simp <;> omega⟩
      obtain⟨lp,hlp,hlpl⟩:=LP
      rw [hlp] at CP
      have A1:l≠[]->txt l++(⟨#[44]⟩:ByteArray)=txt lp:=fun h=>by rw [<- hlp,if_neg h];exact cI l [44]
      have A0:l=[]->txt l=txt lp:=fun h=>by rw [<- hlp,if_pos h,h]
      have A2:txt lp++txt ko=txt (lp++ko):=cI _ _
      have A3:txt (lp++ko)++(⟨#[45]⟩:ByteArray)=txt (lp++ko++[45]):=cI _ [45]
      have A4:txt (lp++ko++[45])++txt jo=txt (lp++ko++[45]++jo):=cI _ _
      have F1:¬ 9223372036854775807<(txt l).size+1:=by rw [aR];omega
      have F2:¬ 9223372036854775807<(txt lp).size+(txt ko).size:=by rw [aR,aR];omega
      have F3:¬ 9223372036854775807<(txt (lp++ko)).size+1:=by rw [aR];simp;omega
      have F4:¬ 9223372036854775807<(txt (lp++ko++[45])).size+(txt jo).size:=by rw [aR,aR];simp;omega
      have N0:l=[]->(txt l).toList.isEmpty=true:=fun h=>by rw [h,ByteArray.toList_eq];rfl
      have N1:l≠[]->(txt l).toList.isEmpty=false:=fun h=>by
       rw [ByteArray.toList_eq]
       cases l with
       | nil=>exact absurd rfl h
       | cons a r=>rfl
      have R1:k=j->Hid (ClA s (j+1) (lp++ko)):=fun h=>by have:=CP.o;rw [<- h,zL,hko] at this;rw [<- h];exact this
      have R2:k≠j->Hid (ClA s (j+1) (lp++ko++[45]++jo)):=fun h=>by have:=CP.o;rw [zK (by omega),hko,hjo,<- List.append_assoc,<- List.append_assoc] at this;exact this
      rw [hko] at HK
      rw [hjo] at HJ
      clear CP hko hjo hlp kl jl hlpl
      generalize lp++ko++[45]++jo=L4 at A4 R2
      generalize lp++ko++[45]=L3 at A3 A4 F4
      generalize lp++ko=L2 at A2 A3 F3 R1
      generalize txt lp=T1 at A0 A1 A2 F2
      generalize hT4:txt L4=T4 at A4
      generalize txt L3=T3 at A3 A4 F4
      generalize hT2:txt L2=T2 at A2 A3 F3
      generalize txt ko=KO at A2 F2 HK
      generalize txt jo=JO at A4 F4 HJ
      generalize txt l=T0 at A0 A1 F1 N0 N1 ⊢
      by_cases hj2:j<255
      all_goals first
       |(have i2:(j:Int)<255:=(by omega);have c0:=aA X3.o (i:=0) rfl;have c1:=aA X3.o (i:=1) rfl;have c2:=aA X3.o (i:=2) rfl;have c3:=aA X3.o (i:=3) rfl;have RK:=aD (RJ.o hj2);go_upto_region 12 with (go_at_call 62;(with_reducible refine(RK.o).mono ?_);rintro e w4 ⟨rfl,h4⟩;have B4:=aD (aF B3.o h4 lz9);clear h4);clear c0 c1 c2 c3)
       |(have i2:¬ (j:Int)<255:=(by omega);go_upto_region 12 with fail;have B4:=B3)
      all_goals clear i2 RJ
      all_goals by_cases hl:l=[]
      all_goals by_cases hjk:k=j
      all_goals
       first |(have n0:=N0 hl;have a0:=A0 hl;subst a0) |(have n0:=N1 hl;have a1:=A1 hl)
       first |(have jk:¬ (k:Int)<(j:Int):=(by omega);have RR:=R1 hjk) |(have jk:(k:Int)<(j:Int):=(by omega);have RR:=R2 hjk)
       clear N0 N1 R1 R2 hl hjk
       go_wp2_with first
        |(go_at_call 63;(with_reducible refine(HK.o _).mono ?_);rintro e w5 ⟨rfl,h5⟩;subst h5)
        |(go_at_call 63;(with_reducible refine(HJ.o _).mono ?_);rintro e w5 ⟨rfl,h5⟩;subst h5)
       go_roundw
       case rel=>first
        | exact⟨L2,j+1,by rw [hT2,<- A2],by go_num,RR.o,B4.o.drew⟩
        | exact⟨L2,j+1,by rw [hT2,<- A2,<- a1],by go_num,RR.o,B4.o.drew⟩
        | exact⟨L4,j+1,by rw [hT4,<- A4,<- A3,<- A2],by go_num,RR.o,B4.o.drew.drew⟩
        | exact⟨L4,j+1,by rw [hT4,<- A4,<- A3,<- A2,<- a1],by go_num,RR.o,B4.o.drew.drew⟩
       case measure=>simp only [intOf];omega
  ·obtain rfl:k=256:=by omega
   have EE:=aD (EN.o l C.o)
   have i1:¬ ((256:Nat):Int)<256:=by omega
   by_cases hl:l=[]
   ·have n0:(txt l).toList.isEmpty=true:=by rw [hl,ByteArray.toList_eq];rfl
    have E2:=EE.o
    rw [if_pos hl] at E2
    have E3:=aD E2
    clear hl E2 EE
    go_wp2
    go_ret
    exact⟨by rw [<- E3.o];rfl,B1.o.trans (B.o.mono (by omega))⟩
   ·have n1:(txt l).toList.isEmpty=false:=by
     rw [ByteArray.toList_eq]
     cases l with
     | nil=>exact absurd rfl hl
     | cons a r=>rfl
    have E2:=EE.o
    rw [if_neg hl] at E2
    have E3:=aD E2
    clear hl E2 EE
    go_wp2
    go_ret
    exact⟨by rw [<- E3.o];rfl,B1.o.trans (B.o.mono (by omega))⟩
end
section
set_option linter.unusedSimpArgs false
set_option linter.unusedVariables false
attribute [local go_sem] Oper.semAt_some
def nmA:Array Value:=#[.string ⟨#[]⟩,.string ⟨#[98,121,116,101]⟩,.string ⟨#[115,112,108,105,116]⟩,.string ⟨#[106,117,109,112]⟩,.string ⟨#[98,101,103,105,110]⟩,.string ⟨#[101,110,100]⟩,.string ⟨#[111,112,101,110]⟩,.string ⟨#[99,108,111,115,101]⟩,.string ⟨#[98,97,99,107]⟩,.string ⟨#[122,101,114,111]⟩,.string ⟨#[116,117,114,110]⟩,.string ⟨#[109,97,116,99,104]⟩]
theorem aG1{o:Nat}(h1:1<=o)(h2:o<=11):nmA[o]?=some (.string (txt (shW (o:Int)))):=by
 match o,h1,h2 with
 | 1,_,_=>rfl
 | 2,_,_=>rfl
 | 3,_,_=>rfl
 | 4,_,_=>rfl
 | 5,_,_=>rfl
 | 6,_,_=>rfl
 | 7,_,_=>rfl
 | 8,_,_=>rfl
 | 9,_,_=>rfl
 | 10,_,_=>rfl
 | 11,_,_=>rfl
theorem aA7(w:World):Calls Tryz.prog 43 #[] w fun e w'=>∃ g,e=.returned (.slice (some ⟨g,0,none⟩) 12 12)/\w'.heap[g]?=some (.cells nmA 9 (0,0))/\wBl w w':=by
 have B1:Hid (wBl w (w.alloc (.cells nmA 9))):=bz9
 have X1:Hid ((w.alloc (.cells nmA 9)).heap[w.heap.size]?=some (.cells nmA 9 (0,0))):=aE w _
 unfold nmA at B1 X1 ⊢
 go_enter Tryz.func43,Tryz.ntmps43
 go_wp2
 go_ret
 exact⟨_,rfl,X1.o,B1.o⟩
def bdW(m:Int):List UInt8:=if m=-1 then [42] else Lib.itoa m
theorem xH{m:Int}(h:m=-1\/Sm m)(w:World):Calls Tryz.prog 45 #[.int .i64 m] w fun e w'=>e=.returned (.string (txt (bdW m)))/\wBl w w':=by
 unfold bdW
 by_cases e:m=-1
 ·subst e
  rw [if_pos rfl]
  go_enter Tryz.func45,Tryz.ntmps45
  go_wp2
  go_ret
  exact⟨rfl,Below.refl _ _⟩
 ·rw [if_neg e]
  have hs:=h.resolve_left e
  obtain⟨u,rfl⟩:∃ u:Nat,m=(u:Int):=⟨m.toNat,by have:=hs.1;omega⟩
  have HD:=aD (mN u (by have:=hs.2;omega) w)
  have z:((u:Int)==-1)=false:=by rw [i7];omega
  generalize Lib.itoa (u:Int)=d at HD ⊢
  clear hs h e
  go_enter Tryz.func45,Tryz.ntmps45
  go_wp2_with (go_at_call 20;(with_reducible refine(HD.o).mono ?_);rintro e w5 ⟨rfl,h5⟩;have B5:=aD h5;clear h5)
  go_ret
  exact⟨rfl,B5.o⟩
def fdW(b:Bool)(t:List UInt8):List UInt8:=if b then [32]++t else []
theorem aB8(b:Bool)(t:List UInt8):(fdW b t).length<=t.length+1:=by unfold fdW;split <;> simp
def ubD(i:Ins)(k:Nat):Bool:=(usA i.op).getD k false
theorem lnD(i:Ins)(h1:1<=i.op)(h2:i.op<=11):shW i.op++fdW (ubD i 0) (stW i.s)++fdW (ubD i 3) (Lib.itoa i.n)++fdW (ubD i 4) (Lib.itoa i.mn++[32]++bdW i.mx)++fdW (ubD i 1) (Lib.itoa i.x)++fdW (ubD i 2) (Lib.itoa i.y)++[10]=lnG i:=by
 obtain⟨op,x,y,n,mn,mx,s⟩:=i
 unfold lnG wdG ubD
 dsimp only at h1 h2 ⊢
 have ho:op=1\/op=2\/op=3\/op=4\/op=5\/op=6\/op=7\/op=8\/op=9\/op=10\/op=11:=by omega
 have hb:∀ m:Int,(if m=-1 then [42] else Lib.itoa m)=bdW m:=fun m=>rfl
 rw [hb]
 generalize stW s=S
 generalize Lib.itoa n=N
 generalize Lib.itoa mn=MN
 generalize bdW mx=MX
 generalize Lib.itoa x=X
 generalize Lib.itoa y=Y
 rcases ho with rfl | rfl | rfl | rfl | rfl | rfl | rfl | rfl | rfl | rfl | rfl
 ·rw [(show hsT (shT 1) 24=false by decide),(show hsT (shT 1) 32=false by decide),(show hsT (shT 1) 2=false by decide),(show hsT (shT 1) 4=false by decide),(show hsT (shT 1) 1=true by decide)]
  simp [fdW,usA,Lib.join,List.intercalate,List.intersperse]
 ·rw [(show hsT (shT 2) 24=false by decide),(show hsT (shT 2) 32=false by decide),(show hsT (shT 2) 2=true by decide),(show hsT (shT 2) 4=true by decide),(show hsT (shT 2) 1=false by decide)]
  simp [fdW,usA,Lib.join,List.intercalate,List.intersperse]
 ·rw [(show hsT (shT 3) 24=false by decide),(show hsT (shT 3) 32=false by decide),(show hsT (shT 3) 2=true by decide),(show hsT (shT 3) 4=false by decide),(show hsT (shT 3) 1=false by decide)]
  simp [fdW,usA,Lib.join,List.intercalate,List.intersperse]
 ·rw [(show hsT (shT 4) 24=false by decide),(show hsT (shT 4) 32=false by decide),(show hsT (shT 4) 2=false by decide),(show hsT (shT 4) 4=false by decide),(show hsT (shT 4) 1=false by decide)]
  simp [fdW,usA,Lib.join,List.intercalate,List.intersperse]
 ·rw [(show hsT (shT 5) 24=false by decide),(show hsT (shT 5) 32=false by decide),(show hsT (shT 5) 2=false by decide),(show hsT (shT 5) 4=false by decide),(show hsT (shT 5) 1=false by decide)]
  simp [fdW,usA,Lib.join,List.intercalate,List.intersperse]
 ·rw [(show hsT (shT 6) 24=true by decide),(show hsT (shT 6) 32=false by decide),(show hsT (shT 6) 2=false by decide),(show hsT (shT 6) 4=false by decide),(show hsT (shT 6) 1=false by decide)]
  simp [fdW,usA,Lib.join,List.intercalate,List.intersperse]
 ·rw [(show hsT (shT 7) 24=true by decide),(show hsT (shT 7) 32=false by decide),(show hsT (shT 7) 2=false by decide),(show hsT (shT 7) 4=false by decide),(show hsT (shT 7) 1=false by decide)]
  simp [fdW,usA,Lib.join,List.intercalate,List.intersperse]
 ·rw [(show hsT (shT 8) 24=true by decide),(show hsT (shT 8) 32=false by decide),(show hsT (shT 8) 2=false by decide),(show hsT (shT 8) 4=false by decide),(show hsT (shT 8) 1=false by decide)]
  simp [fdW,usA,Lib.join,List.intercalate,List.intersperse]
 ·rw [(show hsT (shT 9) 24=true by decide),(show hsT (shT 9) 32=false by decide),(show hsT (shT 9) 2=false by decide),(show hsT (shT 9) 4=false by decide),(show hsT (shT 9) 1=false by decide)]
  simp [fdW,usA,Lib.join,List.intercalate,List.intersperse]
 ·rw [(show hsT (shT 10) 24=true by decide),(show hsT (shT 10) 32=true by decide),(show hsT (shT 10) 2=true by decide),(show hsT (shT 10) 4=true by decide),(show hsT (shT 10) 1=false by decide)]
  simp [fdW,usA,Lib.join,List.intercalate,List.intersperse]
 ·rw [(show hsT (shT 11) 24=false by decide),(show hsT (shT 11) 32=false by decide),(show hsT (shT 11) 2=false by decide),(show hsT (shT 11) 4=false by decide),(show hsT (shT 11) 1=false by decide)]
  simp [fdW,usA,Lib.join,List.intercalate,List.intersperse]
theorem aF1{n:Int}(h:Sm n):∃ u:Nat,n=u/\u<=1000000000:=⟨n.toNat,by have:=h.1;omega,by have:=h.2;omega⟩
theorem fH{n:Int}(h:Sm n)(w:World):Calls Tryz.prog 20 #[.int .i64 n] w fun e w'=>e=.returned (.string (txt (Lib.itoa n)))/\wBl w w':=by
 obtain⟨u,rfl,hu⟩:=aF1 h
 exact mN u hu w
structure LnI(i:Ins):Prop where
 o1:1<=i.op
 o2:i.op<=11
 n:ubD i 3=true->Sm i.n
 m:ubD i 4=true->Sm i.mn/\(i.mx=-1\/Sm i.mx)
 x:ubD i 1=true->Sm i.x
 y:ubD i 2=true->Sm i.y
theorem aG3{p:Pg}{k:Nat}{i:Ins}(h:bE p k i=true)(hl:p.L.length<=40000)(hg:p.g<=1000000)(hk:p.k<=1000000):LnI i:=by
 obtain⟨sx,sy,sn,sm,sb⟩:=kY h hl hg hk
 have ho:=kZ h
 have aux:∀ k:Nat,ubD i k=(usA i.op).getD k false:=fun _=>rfl
 rcases ho with e | e | e | e | e | e | e | e | e | e | e
 all_goals
  refine⟨by omega,by omega,fun q=>?_,fun q=>?_,fun q=>?_,fun q=>?_⟩
  ·first | exact sn (by rw [e];decide) | exact sm (by rw [e];decide) | exact absurd q (by rw [aux,e];decide)
  ·first | exact sb (by rw [e];decide) | exact absurd q (by rw [aux,e];decide)
  ·first | exact sx (by rw [e];decide) | exact absurd q (by rw [aux,e];decide)
  ·first | exact sy (by rw [e];decide) | exact absurd q (by rw [aux,e];decide)
theorem aE0(o:Int):∃ b0 b1 b2 b3 b4 b5,usA o=[b0,b1,b2,b3,b4,b5]:=by
 unfold usA
 split
 ·exact⟨_,_,_,_,_,_,rfl⟩
 split
 ·exact⟨_,_,_,_,_,_,rfl⟩
 split
 ·exact⟨_,_,_,_,_,_,rfl⟩
 split
 ·exact⟨_,_,_,_,_,_,rfl⟩
 split
 ·exact⟨_,_,_,_,_,_,rfl⟩
 split
 ·exact⟨_,_,_,_,_,_,rfl⟩
 ·exact⟨_,_,_,_,_,_,rfl⟩
theorem fG{D T E:List UInt8}{m n:Nat}(hD:D.length<=m)(hT:T.length<=n)(hm:m+n<=1000000)(hE:D++[32]++T=E):txt D++(⟨#[32]⟩:ByteArray)=txt (D++[32])/\txt (D++[32])++txt T=txt E/\¬ 9223372036854775807<(txt D).size+1/\¬ 9223372036854775807<(txt (D++[32])).size+(txt T).size:=by
 refine⟨cI D [32],by rw [<- hE];exact cI _ _,by rw [aR];omega,by rw [aR,aR];simp;omega⟩
theorem aC0{i:Ins}(h:LnI i)(w:World):Calls Tryz.prog 21 #[.agg #[.int .i64 i.op,.int .i64 i.x,.int .i64 i.y,.int .i64 i.n,.int .i64 i.mn,.int .i64 i.mx,.int .u64 (aB i.s 0),.int .u64 (aB i.s 1),.int .u64 (aB i.s 2),.int .u64 (aB i.s 3)]] w fun e w'=>e=.returned (.string (txt (lnG i)))/\wBl w w':=by
 have B1:Hid (wBl w (w.alloc (.cells #[.int .i64 i.op,.int .i64 i.x,.int .i64 i.y,.int .i64 i.n,.int .i64 i.mn,.int .i64 i.mx,.int .u64 (aB i.s 0),.int .u64 (aB i.s 1),.int .u64 (aB i.s 2),.int .u64 (aB i.s 3)] 54))):=bz9
 have X1:Hid ((w.alloc (.cells #[.int .i64 i.op,.int .i64 i.x,.int .i64 i.y,.int .i64 i.n,.int .i64 i.mn,.int .i64 i.mx,.int .u64 (aB i.s 0),.int .u64 (aB i.s 1),.int .u64 (aB i.s 2),.int .u64 (aB i.s 3)] 54)).heap[w.heap.size]?=some (.cells #[.int .i64 i.op,.int .i64 i.x,.int .i64 i.y,.int .i64 i.n,.int .i64 i.mn,.int .i64 i.mx,.int .u64 (aB i.s 0),.int .u64 (aB i.s 1),.int .u64 (aB i.s 2),.int .u64 (aB i.s 3)] 54 (0,0))):=aE w _
 have H:=aD h
 have LN:=aD (lnD i h.o1 h.o2)
 obtain⟨b0,b1,b2,b3,b4,b5,hu⟩:=aE0 i.op
 have u0:ubD i 0=b0:=by unfold ubD;rw [hu];rfl
 have u1:ubD i 1=b1:=by unfold ubD;rw [hu];rfl
 have u2:ubD i 2=b2:=by unfold ubD;rw [hu];rfl
 have u3:ubD i 3=b3:=by unfold ubD;rw [hu];rfl
 have u4:ubD i 4=b4:=by unfold ubD;rw [hu];rfl
 have HN:=aD h.n
 have HM:=aD h.m
 have HX:=aD h.x
 have HY:=aD h.y
 rw [u0,u1,u2,u3,u4] at LN
 rw [u3] at HN
 rw [u4] at HM
 rw [u1] at HX
 rw [u2] at HY
 clear u0 u1 u2 u3 u4
 have OF:Hid (∀ w,Calls Tryz.prog 22 #[.int .i64 i.op] w fun e w'=>e=.returned (.tuple #[.agg #[.bool b0,.bool b1,.bool b2,.bool b3,.bool b4,.bool b5],.bool (isO i.op)])/\wBl w w'):=aD (fun w=>by have:=aN i.op w;rw [hu] at this;exact this)
 obtain⟨d6,hd6⟩:∃ d,lnG i=d:=⟨_,rfl⟩
 obtain⟨d0,hd0⟩:∃ d,shW i.op=d:=⟨_,rfl⟩
 obtain⟨d1,hd1⟩:∃ d,d0++fdW b0 (stW i.s)=d:=⟨_,rfl⟩
 obtain⟨d2,hd2⟩:∃ d,d1++fdW b3 (Lib.itoa i.n)=d:=⟨_,rfl⟩
 obtain⟨d3,hd3⟩:∃ d,d2++fdW b4 (Lib.itoa i.mn++[32]++bdW i.mx)=d:=⟨_,rfl⟩
 obtain⟨d4,hd4⟩:∃ d,d3++fdW b1 (Lib.itoa i.x)=d:=⟨_,rfl⟩
 obtain⟨d5,hd5⟩:∃ d,d4++fdW b2 (Lib.itoa i.y)=d:=⟨_,rfl⟩
 rw [hd0,hd1,hd2,hd3,hd4,hd5,hd6] at LN
 rw [hd6]
 have hl0:d0.length<=6:=by rw [<- hd0];unfold shW;(repeat' split) <;> decide
 have S0:=aD hl0
 have HD1:=aD hd1
 have HD2:=aD hd2
 have HD3:=aD hd3
 have HD4:=aD hd4
 have HD5:=aD hd5
 have NM:Hid (∃ o:Nat,i.op=o/\o<12/\nmA[o]?=some (.string (txt d0))):=aD (by
  have h1:=h.o1
  have h2:=h.o2
  refine⟨i.op.toNat,by omega,by omega,?_⟩
  have:=aG1 (o:=i.op.toNat) (by omega) (by omega)
  rw [show ((i.op.toNat:Nat):Int)=i.op by omega,hd0] at this
  exact this)
 clear h hu hd6 hd0 hd1 hd2 hd3 hd4 hd5 hl0
 go_enter Tryz.func21,Tryz.ntmps21
 go_upto_region 1 with fail
 generalize (w.alloc (.cells #[.int .i64 i.op,.int .i64 i.x,.int .i64 i.y,.int .i64 i.n,.int .i64 i.mn,.int .i64 i.mx,.int .u64 (aB i.s 0),.int .u64 (aB i.s 1),.int .u64 (aB i.s 2),.int .u64 (aB i.s 3)] 54))=w1 at B1 X1 ⊢
 have l1:=aC X1.o
 have c0:=aA X1.o (i:=0) rfl
 go_upto_region 2 with (go_at_call 22;(with_reducible refine(OF.o _).mono ?_);rintro e w2 ⟨rfl,h2⟩;have B2:=aD (aF B1.o h2 lz9);have X2:=aD ((h2.block _ l1).trans X1.o);clear h2)
 clear c0 OF
 have BA:wBl w2 (w2.alloc (.cells #[.bool b0,.bool b1,.bool b2,.bool b3,.bool b4,.bool b5] 61)):=bz9
 have U3:Hid ((w2.alloc (.cells #[.bool b0,.bool b1,.bool b2,.bool b3,.bool b4,.bool b5] 61)).heap[w2.heap.size]?=some (.cells #[.bool b0,.bool b1,.bool b2,.bool b3,.bool b4,.bool b5] 61 (0,0))):=aE w2 _
 have X3:=aD ((BA.block _ (aC X2.o)).trans X2.o)
 have B3:=aD (aF B2.o BA lz9)
 clear BA
 obtain⟨ub,hub⟩:∃ ub,w2.heap.size=ub:=⟨_,rfl⟩
 have SU:Hid (w.heap.size<ub):=aD (by rw [<- hub];exact aC X2.o)
 rw [hub] at U3 ⊢
 generalize (w2.alloc (.cells #[.bool b0,.bool b1,.bool b2,.bool b3,.bool b4,.bool b5] 61))=w3 at U3 X3 B3 ⊢
 clear B1 X1 B2 X2 hub l1
 have XX:=aD (fun (V:World) (hV:wBl w3 V)=>(hV.block _ (aC X3.o)).trans X3.o)
 have UU:=aD (fun (V:World) (hV:wBl w3 V)=>(hV.block _ (aC U3.o)).trans U3.o)
 go_cut [5] (fun v wx=>v=.string (txt d0)/\wBl w3 wx)
 case first=>
  obtain⟨o,ho,ho2,hno⟩:=NM.o
  have c0:=aA X3.o (i:=0) rfl
  have l3:=aC X3.o
  rw [ho] at c0
  have o0:(0:Int)<=(o:Int):=by omega
  have o1:(o:Int)<12:=by omega
  have HNO:=aD hno
  clear hno ho NM
  go_region_law (go_simp;go_at_call 43;(with_reducible refine(aA7 _).mono ?_);rintro e w4 ⟨g4,rfl,h41,h42⟩;have B4:Hid (wBl w3 w4):=aD (Below.trans ((Below.refl _ _).drew) h42);have N4:=aD h41;have n0:=aA N4.o (i:=o) HNO.o;have lg4:=aC h41;have c4:w4.cell? ⟨w.heap.size,0,none⟩=_:=(B4.o.cell (p:=⟨w.heap.size,0,none⟩) l3).trans c0;clear h42 h41)
  all_goals go_wp2
  all_goals go_meet
  all_goals exact⟨rfl,B4.o⟩
 case rest=>
  obtain⟨rfl,hB⟩:=hcut
  have B4:=aD hB
  clear hB
  have x:=aD (XX.o _ B4.o)
  have u:=aD (UU.o _ B4.o)
  have cb:=aA u.o (i:=0) rfl
  have lx:=aC x.o
  go_upto_if 18 with fail
  go_cut [5] (fun v wx=>v=.string (txt d1)/\wBl w3 wx)
  case first=>
   cases b0 with
   | false=>
    have E:Hid (d0=d1):=aD (by have:=HD1.o;simpa [fdW] using this)
    go_wp2
    go_meet
    exact⟨by rw [E.o],B4.o⟩
   | true=>
    have hT:(stW i.s).length<=2000:=kL i.s
    have f6:=aA x.o (i:=6) rfl
    have f7:=aA x.o (i:=7) rfl
    have f8:=aA x.o (i:=8) rfl
    have f9:=aA x.o (i:=9) rfl
    have CL:=aD (xE i.s wc)
    obtain⟨A1,A2,F1,F2⟩:=fG (E:=d1) S0.o hT (by decide) (by have:=HD1.o;rw [<- this];simp [fdW])
    generalize txt (d0++[32])=T1 at A1 A2 F2
    generalize hT2:txt d1=T2 at A2
    generalize txt d0=T0 at A1 F1 ⊢
    generalize txt (stW i.s)=TT at A2 F2 CL
    clear hT
    go_wp2_with (go_at_call 44;(with_reducible refine(CL.o).mono ?_);rintro e w5 ⟨rfl,h5⟩;have B5:=aD (aF B4.o h5 lz9);clear h5)
    go_meet
    exact⟨by rw [hT2,<- A2,<- A1],B5.o⟩
  case rest=>
   have S1:Hid (d1.length<=2007):=aD (by
    have h1:=HD1.o
    have h2:=S0.o
    rw [<- h1,j2];have h3:=aB8 b0 (stW i.s);have h4:=kL i.s;omega)
   clear B4 x u cb lx
   obtain⟨rfl,hB⟩:=hcut
   have B4:=aD hB
   clear hB
   have x:=aD (XX.o _ B4.o)
   have u:=aD (UU.o _ B4.o)
   have cb:=aA u.o (i:=3) rfl
   have lx:=aC x.o
   go_upto_if 26 with fail
   go_cut [5] (fun v wx=>v=.string (txt d2)/\wBl w3 wx)
   case first=>
    cases b3 with
    | false=>
     have E:Hid (d1=d2):=aD (by have:=HD2.o;simpa [fdW] using this)
     go_wp2
     go_meet
     exact⟨by rw [E.o],B4.o⟩
    | true=>
     have hsm:=HN.o rfl
     have hT:(Lib.itoa i.n).length<=2000:=aY hsm
     have f3:=aA x.o (i:=3) rfl
     have CL:=aD (fH hsm wc)
     clear hsm
     obtain⟨A1,A2,F1,F2⟩:=fG (E:=d2) S1.o hT (by decide) (by have:=HD2.o;rw [<- this];simp [fdW])
     generalize txt (d1++[32])=T1 at A1 A2 F2
     generalize hT2:txt d2=T2 at A2
     generalize txt d1=T0 at A1 F1 ⊢
     generalize txt (Lib.itoa i.n)=TT at A2 F2 CL
     clear hT
     go_wp2_with (go_at_call 20;(with_reducible refine(CL.o).mono ?_);rintro e w5 ⟨rfl,h5⟩;have B5:=aD (aF B4.o h5 lz9);clear h5)
     go_meet
     exact⟨by rw [hT2,<- A2,<- A1],B5.o⟩
   case rest=>
    have S2:Hid (d2.length<=4008):=aD (by
     have h1:=HD2.o
     have h2:=S1.o
     cases b3
     ·rw [<- h1,j2];simp [fdW];omega
     ·have h5:=aY (HN.o rfl)
      rw [<- h1,j2]
      simp [fdW]
      omega)
    clear B4 x u cb lx
    obtain⟨rfl,hB⟩:=hcut
    have B4:=aD hB
    clear hB
    have x:=aD (XX.o _ B4.o)
    have u:=aD (UU.o _ B4.o)
    have cb:=aA u.o (i:=4) rfl
    have lx:=aC x.o
    go_upto_if 34 with fail
    go_cut [5] (fun v wx=>v=.string (txt d3)/\wBl w3 wx)
    case first=>
     cases b4 with
     | false=>
      have E:Hid (d2=d3):=aD (by have:=HD3.o;simpa [fdW] using this)
      go_wp2
      go_meet
      exact⟨by rw [E.o],B4.o⟩
     | true=>
      obtain⟨hs1,hs2⟩:=HM.o rfl
      have hT1:(Lib.itoa i.mn).length<=2000:=aY hs1
      have hT2:(bdW i.mx).length<=2000:=by
       unfold bdW
       split
       ·decide
       ·exact aY (hs2.resolve_left (by assumption))
      have f4:=aA x.o (i:=4) rfl
      have f5:=aA x.o (i:=5) rfl
      have CL:=aD (fun V=>fH hs1 V)
      have CM:=aD (fun V=>xH hs2 V)
      obtain⟨A1,A2,F1,F2⟩:=fG (E:=d2++[32]++Lib.itoa i.mn) S2.o hT1 (by decide) rfl
      have hl2:(d2++[32]++Lib.itoa i.mn).length<=20000:=by have:=S2.o;simp;omega
      obtain⟨A3,A4,F3,F4⟩:=fG (E:=d3) hl2 hT2 (by decide) (by have:=HD3.o;rw [<- this];simp [fdW])
      generalize d2++[32]++Lib.itoa i.mn=M at A2 A3 A4 F3 F4
      generalize txt (M++[32])=T3 at A3 A4 F4
      generalize txt M=T2 at A2 A3 F3
      generalize txt (d2++[32])=T1 at A1 A2 F2
      generalize hT4:txt d3=T4 at A4
      generalize txt d2=T0 at A1 F1 ⊢
      generalize txt (Lib.itoa i.mn)=TT at A2 F2 CL
      generalize txt (bdW i.mx)=TU at A4 F4 CM
      clear hT1 hT2 hs1 hs2 hl2
      go_upto_region 8 with fail
      go_region_with first
       |(go_at_call 20;(with_reducible refine(CL.o _).mono ?_);rintro e w5 ⟨rfl,h5⟩;have B5:=aD (aF B4.o (Below.trans ((Below.refl _ wc).drew) h5) lz9);have g4:=(h5.cell (p:=⟨w.heap.size,4,none⟩) lx).trans f4;have g5:=(h5.cell (p:=⟨w.heap.size,5,none⟩) lx).trans f5;have l5:=j5 lx h5.size;clear h5)
       |(go_at_call 45;(with_reducible refine(CM.o _).mono ?_);rintro e w6 ⟨rfl,h6⟩;have B6:=aD (aF B5.o h6 lz9);have k4:=(h6.cell (p:=⟨w.heap.size,4,none⟩) l5).trans g4;have k5:=(h6.cell (p:=⟨w.heap.size,5,none⟩) l5).trans g5;clear h6)
      all_goals go_wp2
      all_goals go_meet
      all_goals exact⟨by rw [hT4,<- A4,<- A3,<- A2,<- A1],B6.o⟩
    case rest=>
     have S3:Hid (d3.length<=8010):=aD (by
      have h1:=HD3.o
      have h2:=S2.o
      cases b4
      ·rw [<- h1,j2];simp [fdW];omega
      ·obtain⟨hs1,hs2⟩:=HM.o rfl
       have h5:=aY hs1
       have h6:(bdW i.mx).length<=2000:=by
        unfold bdW
        split
        ·decide
        ·exact aY (hs2.resolve_left (by assumption))
       rw [<- h1,j2]
       simp [fdW]
       omega)
     clear B4 x u cb lx
     obtain⟨rfl,hB⟩:=hcut
     have B4:=aD hB
     clear hB
     have x:=aD (XX.o _ B4.o)
     have u:=aD (UU.o _ B4.o)
     have cb:=aA u.o (i:=1) rfl
     have lx:=aC x.o
     go_upto_if 47 with fail
     go_cut [5] (fun v wx=>v=.string (txt d4)/\wBl w3 wx)
     case first=>
      cases b1 with
      | false=>
       have E:Hid (d3=d4):=aD (by have:=HD4.o;simpa [fdW] using this)
       go_wp2
       go_meet
       exact⟨by rw [E.o],B4.o⟩
      | true=>
       have hsm:=HX.o rfl
       have hT:(Lib.itoa i.x).length<=2000:=aY hsm
       have f1:=aA x.o (i:=1) rfl
       have CL:=aD (fH hsm wc)
       clear hsm
       obtain⟨A1,A2,F1,F2⟩:=fG (E:=d4) S3.o hT (by decide) (by have:=HD4.o;rw [<- this];simp [fdW])
       generalize txt (d3++[32])=T1 at A1 A2 F2
       generalize hT2:txt d4=T2 at A2
       generalize txt d3=T0 at A1 F1 ⊢
       generalize txt (Lib.itoa i.x)=TT at A2 F2 CL
       clear hT
       go_wp2_with (go_at_call 20;(with_reducible refine(CL.o).mono ?_);rintro e w5 ⟨rfl,h5⟩;have B5:=aD (aF B4.o h5 lz9);clear h5)
       go_meet
       exact⟨by rw [hT2,<- A2,<- A1],B5.o⟩
     case rest=>
      have S4:Hid (d4.length<=10011):=aD (by
       have h1:=HD4.o
       have h2:=S3.o
       cases b1
       ·rw [<- h1,j2];simp [fdW];omega
       ·have h5:=aY (HX.o rfl)
        rw [<- h1,j2]
        simp [fdW]
        omega)
      clear B4 x u cb lx
      obtain⟨rfl,hB⟩:=hcut
      have B4:=aD hB
      clear hB
      have x:=aD (XX.o _ B4.o)
      have u:=aD (UU.o _ B4.o)
      have cb:=aA u.o (i:=2) rfl
      have lx:=aC x.o
      go_upto_if 55 with fail
      go_cut [5] (fun v wx=>v=.string (txt d5)/\wBl w3 wx)
      case first=>
       cases b2 with
       | false=>
        have E:Hid (d4=d5):=aD (by have:=HD5.o;simpa [fdW] using this)
        go_wp2
        go_meet
        exact⟨by rw [E.o],B4.o⟩
       | true=>
        have hsm:=HY.o rfl
        have hT:(Lib.itoa i.y).length<=2000:=aY hsm
        have f2:=aA x.o (i:=2) rfl
        have CL:=aD (fH hsm wc)
        clear hsm
        obtain⟨A1,A2,F1,F2⟩:=fG (E:=d5) S4.o hT (by decide) (by have:=HD5.o;rw [<- this];simp [fdW])
        generalize txt (d4++[32])=T1 at A1 A2 F2
        generalize hT2:txt d5=T2 at A2
        generalize txt d4=T0 at A1 F1 ⊢
        generalize txt (Lib.itoa i.y)=TT at A2 F2 CL
        clear hT
        go_wp2_with (go_at_call 20;(with_reducible refine(CL.o).mono ?_);rintro e w5 ⟨rfl,h5⟩;have B5:=aD (aF B4.o h5 lz9);clear h5)
        go_meet
        exact⟨by rw [hT2,<- A2,<- A1],B5.o⟩
      case rest=>
       have S5:Hid (d5.length<=12012):=aD (by
        have h1:=HD5.o
        have h2:=S4.o
        cases b2
        ·rw [<- h1,j2];simp [fdW];omega
        ·have h5:=aY (HY.o rfl)
         rw [<- h1,j2]
         simp [fdW]
         omega)
       clear B4 x u cb lx
       obtain⟨rfl,hB⟩:=hcut
       have B4:=aD hB
       clear hB
       have A:txt d5++(⟨#[10]⟩:ByteArray)=txt d6:=by rw [<- LN.o];exact cI d5 [10]
       have F:¬ 9223372036854775807<(txt d5).size+1:=by rw [aR];have:=S5.o;omega
       generalize hT6:txt d6=T6 at A
       generalize txt d5=T5 at A F ⊢
       go_wp2
       refine bodyPost_ret (v:=.string T6) (by simp [results,Tryz.results21,go_sem]) rfl ⟨by rw [hT6],B3.o.trans (B4.o.mono B3.o.size)⟩
end
section
attribute [local go_sem] Oper.semAt_some cD
theorem wM{w:World}{p:Pg}(h:PgI w p){a b:Int}(hr:rtE p=(a,b))(ha:¬ a=0) :
  Calls Tryz.prog 10 #[.agg #[.slice p.q p.L.length p.c,.int .i64 p.g,.int .i64 p.k,.bool p.f]] w fun e w'=>e=.returned (.tuple #[.string ⟨#[]⟩,.int .i64 a])/\wBl w w':=by
 have B1:Hid (wBl w (w.alloc (.cells #[.slice p.q p.L.length p.c,.int .i64 p.g,.int .i64 p.k,.bool p.f] 24))):=bz9
 have X1:Hid ((w.alloc (.cells #[.slice p.q p.L.length p.c,.int .i64 p.g,.int .i64 p.k,.bool p.f] 24)).heap[w.heap.size]?=some (.cells #[.slice p.q p.L.length p.c,.int .i64 p.g,.int .i64 p.k,.bool p.f] 24 (0,0))):=aE w _
 have HC:Hid (Calls Tryz.prog 9 #[.agg #[.slice p.q p.L.length p.c,.int .i64 p.g,.int .i64 p.k,.bool p.f]] (w.alloc (.cells #[.slice p.q p.L.length p.c,.int .i64 p.g,.int .i64 p.k,.bool p.f] 24)) (RtP p (w.alloc (.cells #[.slice p.q p.L.length p.c,.int .i64 p.g,.int .i64 p.k,.bool p.f] 24)))):=eI (h.kept B1.o)
 unfold RtP at HC
 rw [hr] at HC
 clear h hr
 go_enter Tryz.func10,Tryz.ntmps10
 go_upto_region 1 with fail
 generalize (w.alloc (.cells #[.slice p.q p.L.length p.c,.int .i64 p.g,.int .i64 p.k,.bool p.f] 24))=w1 at B1 X1 HC ⊢
 have l1:=aC X1.o
 have p0:=aA X1.o (i:=0) rfl
 have p1:=aA X1.o (i:=1) rfl
 have p2:=aA X1.o (i:=2) rfl
 have p3:=aA X1.o (i:=3) rfl
 go_wp2_with (go_at_call 9;(with_reducible refine(HC.o).mono ?_);rintro e w2 ⟨rfl,h2⟩;have B2:=aD (aF B1.o h2 lz9);clear h2)
 refine bodyPost_ret (v:=.tuple #[.string ⟨#[]⟩,.int .i64 a]) (by simp [results,Tryz.results10,go_sem]) rfl ?_
 exact⟨rfl,B2.o⟩
end
section
set_option linter.unusedSimpArgs false
set_option linter.unusedVariables false
attribute [local go_sem] Oper.semAt_some
theorem gX{P:Program}{ops:Array Oper}{o:Oper}{a:Act}{w:World}{K:Act->World->Prop}{Q:Exit->Act->World->Prop}{E:Prop}(hgd:o.guard=none)(sl x:Operand)(t u:TypeId)
  (ho:o.op=.call { callee:=.builtin .append,args:=#[sl,x],argTypes:=#[t,u] })
  (base:Nat) (e:TypeId) (i:TypeInfo) (ht:P.underlying t=some (.slice e)) (hu:P.underlying u=some .string) (hi:P.info? e=some i) (hz:i.zero=some (.int .u8 0))
  (hsize:i.size=1) (hby:i.bytes=1)
  (v:Value) (n:Nat) (xs:List Value) (hs:a.eval sl=v) (hown:w.ownsRow base e 1 v n xs) (s:ByteArray) (hx:a.eval x=.string s)
  (h63:n+s.size<=maxLen) (hbytes:n+s.size<=140737488355328) (hbase:base<=w.heap.size)
  (h:∀ v' w',w'.ownsRow base e 1 v' (n+s.size) (xs++Lib.strCells s)->w.grownBy w' v.ownBlock->K (a.put o.dst v') w') :
  if Region.wanted o (yielded ops a.tmps)=true then Oper.wp P o a w K Q else E:=by
 have hw:Region.wanted o (yielded ops a.tmps)=true:=by simp [Region.wanted,hgd]
 rw [if_pos hw]
 obtain⟨v',w',hr,h2,h3,h4⟩:=Lib.run_append_own_string (P:=P) w base t u o.type e i ht hu hi hz hsize hby v n xs hown s h63 hbytes hbase
 unfold Oper.wp
 simp [execOp,ho,resolve,invoke,builtin,hs,hx,hr,Result.andThen]
 exact h v' w' h2 h3
theorem fR:Tryz.prog.underlying 56=some (.slice 5):=by kernel_rfl
theorem wO:(Tryz.prog.info? 5).map (fun i=>(i.zero,i.size,i.bytes))=some (some (.int .u8 0),1,1):=by kernel_rfl
structure OU(b:Nat)(w1:World)(v:Value)(L:List UInt8)(wr:World):Prop where
 own:wr.ownsRow b 5 1 v L.length (Lib.byteCells L)
 bel:Below b w1 wr
theorem OU.then{b:Nat}{w1 wr w6:World}{v:Value}{L:List UInt8}(h:OU b w1 v L wr)(hs:b<=wr.heap.size)(hb:wBl wr w6):OU b w1 v L w6:=
 ⟨aL h.own (Fr.of_below (S:=fun _=>False) hb) (fun _ _ q=>q),h.bel.trans (hb.mono hs)⟩
theorem OU.app{b:Nat}{w1 wr w6:World}{v v':Value}{L M:List UInt8}(h:OU b w1 v L wr)(hs:b<=wr.heap.size)(hown:w6.ownsRow b 5 1 v' (L.length+(txt M).size) (Lib.byteCells L++Lib.strCells (txt M)))(hg:wr.grownBy w6 v.ownBlock):OU b w1 v' (L++M) w6:=
 ⟨by rw [j2,Lib.byteCells_append];rw [aR] at hown;exact hown,h.bel.grown hg hs (fun k hk=>(aH h.own hk).1)⟩
theorem vL{w:World}{base n:Nat}{v:Value}{l:List UInt8}(h:w.ownsRow base 5 1 v n (Lib.byteCells l)):(convert 56 9 v).run Tryz.prog w=.ok (.string (txt l)) w:=by
 have hl:l.length=n:=by have:=h.1;rw [Lib.byteCells_length] at this;omega
 subst hl
 rcases h.2 with⟨rfl,hn⟩ | ⟨g,cap,cur,rfl,hg,hc,h1,h2,h3,h4⟩
 ·have:l=[]:=r6 hn
  subst this
  exact run_convert_bytes_nil _ _ 5 Tryz.underlying56 Tryz.underlying5 0 0 _ Tryz.underlying9
 ·refine run_convert_bytes_back w _ _ 5 ⟨g,0,none⟩ cap l Tryz.underlying56 Tryz.underlying5 Tryz.underlying9 (fun j hj=>?_)
  have:=bY h (j:=j) (u:=.int .u8 (l[j].toNat:Int)) (by simp [Lib.byteCells,hj])
  have e:(⟨g,0,none⟩:Addr).add j=⟨g,j,none⟩:=by unfold Addr.add;simp;omega
  rw [e];exact this
theorem rM{w:World}{p:Pg}(h:PgI w p)(hz:(rtE p).1≠0):Calls Tryz.prog 7 #[.agg #[.slice p.q p.L.length p.c,.int .i64 p.g,.int .i64 p.k,.bool p.f]] w fun e w'=>e=.returned (.tuple #[.string ⟨#[]⟩,.int .i64 (rtE p).1])/\wBl w w':=by
 have B1:Hid (wBl w (w.alloc (.cells #[.slice p.q p.L.length p.c,.int .i64 p.g,.int .i64 p.k,.bool p.f] 24))):=bz9
 have X1:Hid ((w.alloc (.cells #[.slice p.q p.L.length p.c,.int .i64 p.g,.int .i64 p.k,.bool p.f] 24)).heap[w.heap.size]?=some (.cells #[.slice p.q p.L.length p.c,.int .i64 p.g,.int .i64 p.k,.bool p.f] 24 (0,0))):=aE w _
 have HC:=aD (eZ (h.kept B1.o))
 obtain⟨re,hr⟩:∃ r,(rtE p).1=r:=⟨_,rfl⟩
 obtain⟨rk,hr2⟩:∃ r,(rtE p).2=r:=⟨_,rfl⟩
 rw [hr] at HC hz ⊢
 rw [hr2] at HC
 clear h hr hr2
 have z0:(re != 0)=true:=by simp [hz]
 go_enter Tryz.func7,Tryz.ntmps7
 go_upto_region 1 with fail
 generalize (w.alloc (.cells #[.slice p.q p.L.length p.c,.int .i64 p.g,.int .i64 p.k,.bool p.f] 24))=w1 at B1 X1 HC ⊢
 have p0:=aA X1.o (i:=0) rfl
 have p1:=aA X1.o (i:=1) rfl
 have p2:=aA X1.o (i:=2) rfl
 have p3:=aA X1.o (i:=3) rfl
 go_wp2_with (go_at_call 6;(with_reducible refine(HC.o).mono ?_);rintro e w2 ⟨rfl,h2⟩;have B2:=aD (aF B1.o h2 lz9);clear h2)
 go_ret2
 exact⟨rfl,B2.o⟩
theorem hdD(g k:Int)(f:Bool):[112,114,111,103,114,97,109,32]++Lib.itoa g++[32]++Lib.itoa k++(if f then [32,102,111,108,100] else [])++[10]=Lib.join (hdW g k f) [32]++[10]:=by
 unfold hdW
 generalize Lib.itoa g=G
 generalize Lib.itoa k=K
 cases f <;> simp [Lib.join,List.intercalate,List.intersperse]
theorem wT{w:World}{p:Pg}(h:PgI w p)(hz:rtE p=(0,0)):Calls Tryz.prog 7 #[.agg #[.slice p.q p.L.length p.c,.int .i64 p.g,.int .i64 p.k,.bool p.f]] w fun e w'=>e=.returned (.tuple #[.string (txt (txG p)),.int .i64 0])/\wBl w w':=by
 have B1:Hid (wBl w (w.alloc (.cells #[.slice p.q p.L.length p.c,.int .i64 p.g,.int .i64 p.k,.bool p.f] 24))):=bz9
 have X1:Hid ((w.alloc (.cells #[.slice p.q p.L.length p.c,.int .i64 p.g,.int .i64 p.k,.bool p.f] 24)).heap[w.heap.size]?=some (.cells #[.slice p.q p.L.length p.c,.int .i64 p.g,.int .i64 p.k,.bool p.f] 24 (0,0))):=aE w _
 have H:=aD (h.kept B1.o)
 have HC:=aD (eZ H.o)
 have RI:=aD (wV hz)
 rw [hz] at HC
 obtain⟨pq,pL,pc,pg,pk,pf⟩:=p
 dsimp only at *
 obtain⟨t0,hi,hz0,hz1,hz2⟩:=info_parts wO
 obtain⟨tx0,htx⟩:∃ t,txG ⟨pq,pL,pc,pg,pk,pf⟩=t:=⟨_,rfl⟩
 rw [htx]
 have HTX:Hid (Lib.join (hdW pg pk pf) [32]++[10]++pL.flatMap lnG=tx0):=aD htx
 rw [<- hdD] at HTX
 obtain⟨h1,hh1⟩:∃ t,[112,114,111,103,114,97,109,32]++Lib.itoa pg++[32]++Lib.itoa pk=t:=⟨_,rfl⟩
 rw [hh1] at HTX
 have HL1:Hid (h1.length<=5000):=aD (by
  have a:=aY RI.o.2.1
  have b:=aY RI.o.2.2.1
  rw [<- hh1]
  simp
  omega)
 obtain⟨h2,hh2⟩:∃ t,h1++(if pf then [32,102,111,108,100] else [])=t:=⟨_,rfl⟩
 rw [hh2] at HTX
 have HH1:=aD hh1
 have HH2:=aD hh2
 have HL2:Hid (h2.length<=6000):=aD (by
  have:=HL1.o
  rw [<- hh2]
  cases pf <;> simp <;> omega)
 clear h hz htx hh1 hh2
 go_enter Tryz.func7,Tryz.ntmps7
 go_upto_region 1 with fail
 have s1:(w.alloc (.cells #[.slice pq pL.length pc,.int .i64 pg,.int .i64 pk,.bool pf] 24)).heap.size=w.heap.size+1:=by simp
 generalize (w.alloc (.cells #[.slice pq pL.length pc,.int .i64 pg,.int .i64 pk,.bool pf] 24))=w1 at B1 X1 HC H s1 ⊢
 have XK:=aD (fun (V:World) (hV:wBl w1 V)=>(hV.block _ (aC X1.o)).trans X1.o)
 have p0:=aA X1.o (i:=0) rfl
 have p1:=aA X1.o (i:=1) rfl
 have p2:=aA X1.o (i:=2) rfl
 have p3:=aA X1.o (i:=3) rfl
 go_upto_region 5 with (go_at_call 6;(with_reducible refine(HC.o).mono ?_);rintro e w2 ⟨rfl,h2⟩;have B2:=aD h2;clear h2)
 clear p0 p1 p2 p3 HC
 go_cut [6] (fun v wx=>OU w1.heap.size w1 v h1 wx)
 case first=>
  have x2:=aD (XK.o _ B2.o)
  have q1:=aA x2.o (i:=1) rfl
  have q2:=aA x2.o (i:=2) rfl
  have lx:=aC x2.o
  have D1:=aD (fun V=>fH RI.o.2.1 V)
  have D2:=aD (fun V=>fH RI.o.2.2.1 V)
  have g1:(Lib.itoa pg).length<=2000:=aY RI.o.2.1
  have g2:(Lib.itoa pk).length<=2000:=aY RI.o.2.2.1
  have sz2:w1.heap.size<=w2.heap.size:=B2.o.size
  have A1:(⟨#[112,114,111,103,114,97,109,32]⟩:ByteArray)++txt (Lib.itoa pg)=txt ([112,114,111,103,114,97,109,32]++Lib.itoa pg):=cI [112,114,111,103,114,97,109,32] _
  have A2:txt ([112,114,111,103,114,97,109,32]++Lib.itoa pg)++(⟨#[32]⟩:ByteArray)=txt ([112,114,111,103,114,97,109,32]++Lib.itoa pg++[32]):=cI _ [32]
  have A3:txt ([112,114,111,103,114,97,109,32]++Lib.itoa pg++[32])++txt (Lib.itoa pk)=txt h1:=by rw [<- HH1.o];exact cI _ _
  have F1:¬ 9223372036854775807<8+(txt (Lib.itoa pg)).size:=by rw [aR];omega
  have F2:¬ 9223372036854775807<(txt ([112,114,111,103,114,97,109,32]++Lib.itoa pg)).size+1:=by rw [aR];simp;omega
  have F3:¬ 9223372036854775807<(txt ([112,114,111,103,114,97,109,32]++Lib.itoa pg++[32])).size+(txt (Lib.itoa pk)).size:=by rw [aR,aR];simp;omega
  generalize txt ([112,114,111,103,114,97,109,32]++Lib.itoa pg++[32])=T2 at A2 A3 F3
  generalize txt ([112,114,111,103,114,97,109,32]++Lib.itoa pg)=T1 at A1 A2 F2
  generalize txt (Lib.itoa pg)=TG at A1 F1 D1
  generalize txt (Lib.itoa pk)=TK at A3 F3 D2
  have FH:(txt h1).size<=5000:=by rw [aR];exact HL1.o
  clear g1 g2
  go_region_law first
   |(go_simp;go_at_call 20;(with_reducible refine(D1.o _).mono ?_);rintro e w5 ⟨rfl,h5⟩;have B5:Hid (wBl w2 w5):=aD (Below.trans ((Below.refl _ _).drew) h5);have r1:=(B5.o.cell (p:=⟨w.heap.size,1,none⟩) lx).trans q1;have r2:=(B5.o.cell (p:=⟨w.heap.size,2,none⟩) lx).trans q2;have l5:=j5 lx B5.o.size;clear h5)
   |(go_simp;go_at_call 20;(with_reducible refine(D2.o _).mono ?_);rintro e w6 ⟨rfl,h6⟩;have B6:Hid (wBl w2 w6):=aD (aF B5.o h6 lz9);have k1:=(h6.cell (p:=⟨w.heap.size,1,none⟩) l5).trans r1;have k2:=(h6.cell (p:=⟨w.heap.size,2,none⟩) l5).trans r2;clear h6)
   |(refine gX rfl _ _ 56 9 rfl w1.heap.size 5 t0 fR Tryz.underlying9 hi hz0 hz1 hz2 (.slice none 0 0) 0 [] (by first |(simp [Act.eval];done) | simp [Act.eval,Act.put]) (j8 _ _ _ _) (txt h1) (by first |(simp [Act.eval];done) | simp [Act.eval,Act.put]) (by unfold maxLen;omega) (by omega) (by have:=B6.o.size;omega) ?_;intro v8 W8 hown hgrow;have O8:=aD hown;have G8:=aD hgrow;clear hown hgrow)
  all_goals go_wp2
  all_goals go_meet
  all_goals
   refine⟨?_,(B2.o.trans (B6.o.mono sz2)).grown G8.o (by have:=B6.o.size;omega) (fun k hk=>by cases hk)⟩
   have:=O8.o
   rw [aR,Nat.zero_add,l9] at this
   exact this
 case rest=>
  have O1:=aD hcut
  obtain⟨q,c,rfl⟩:=aK hcut.own
  have x:=aD (XK.o _ hcut.bel)
  have q3:=aA x.o (i:=3) rfl
  have sz:=hcut.bel.size
  clear hcut
  go_upto_if 28 with fail
  go_cut [6] (fun v wx=>OU w1.heap.size w1 v h2 wx)
  case first=>
   cases pf with
   | false=>
    have E:Hid (h1=h2):=aD (by have:=HH2.o;simpa using this)
    go_wp2
    go_meet
    rw [<- E.o]
    exact O1.o
   | true=>
    have E:Hid (h1++[32,102,111,108,100]=h2):=aD (by have:=HH2.o;simpa using this)
    have hl:=HL1.o
    have ts:(txt [32,102,111,108,100]).size=5:=rfl
    go_wp2_with (at_builtin;refine Lib.wpList_append_own_string _ rfl _ _ 56 9 rfl w1.heap.size 5 t0 fR Tryz.underlying9 hi hz0 hz1 hz2 (.slice q h1.length c) h1.length (Lib.byteCells h1) rfl O1.o.own (txt [32,102,111,108,100]) rfl (by rw [ts];unfold maxLen;omega) (by rw [ts];omega) sz ?_;intro v' w6 hown' hgrow _;have O6:=aD (O1.o.app sz hown' hgrow);clear hown' hgrow)
    go_meet
    rw [<- E.o]
    exact O6.o
  case rest=>
   clear O1 x q3 sz
   have O2:=aD hcut
   obtain⟨q,c,rfl⟩:=aK hcut.own
   have sz:=hcut.bel.size
   clear hcut
   have hl:=HL2.o
   go_upto_region 10 with (at_builtin;refine wpList_append_own_at _ rfl _ _ 56 rfl w1.heap.size 5 t0 (.int .u8 0) 1 1 fR hi hz0 hz1 hz2 rfl (by decide) (.slice q h2.length c) h2.length (Lib.byteCells h2) rfl (i9 O2.o.own _) ⟨wc.heap.size,0,none⟩ 1 1 [.int .u8 10] rfl rfl (bH _ _ _) (by simp [Value.oneCell']) (by unfold maxLen;omega) (by omega) (by simp;omega) ?_;intro v8 w8 hown hgrow _ _;have O8:Hid (OU w1.heap.size w1 v8 (h2++[10]) w8):=aD ⟨by rw [j2,Lib.byteCells_append];exact hown,(O2.o.bel.alloc sz _).grown hgrow (by simp;omega) (fun k hk=>(aH O2.o.own hk).1)⟩;clear hown hgrow)
   clear O2 sz
   obtain⟨h3,hh3⟩:∃ t,h2++[10]=t:=⟨_,rfl⟩
   rw [hh3] at O8 HTX
   have HL3:Hid (h3.length<=6001):=aD (by rw [<- hh3];simp;omega)
   clear hh3 hl HH1 HH2 HL1 HL2
   go_loopw [6,7] (fun b i wr=>∃ j:Nat,j<=pL.length/\i=.int .i64 (j:Int)/\OU w1.heap.size w1 b (h3++(pL.take j).flatMap lnG) wr) (fun _ i _=>pL.length-(intOf i).toNat)
   case atStart=>exact⟨0,by omega,rfl,by rw [List.take_zero,List.flatMap_nil,o5];exact O8.o⟩
   case round=>
    obtain⟨j,hj,rfl,hR⟩:=hrel
    obtain⟨q,c,rfl⟩:=aK hR.own
    have R:=aD hR
    have sz:=hR.bel.size
    have x:=aD (XK.o _ hR.bel)
    have q0:=aA x.o (i:=0) rfl
    have h40:pL.length<=40000:=RI.o.1
    clear hR
    by_cases hjl:j<pL.length
    ·have i0:(j:Int)<(pL.length:Int):=by omega
     have j0:(0:Int)<=(j:Int):=by omega
     obtain⟨i,hi2⟩:∃ i,pL[j]?=some i:=⟨_,i8 hjl⟩
     obtain⟨g1,o1,hq1,hl1,c0,c1,c2,c3,c4,c5,c6,c7,c8,c9⟩:=(H.o.kept R.o.bel).li.ten hi2
     have hq2:pq=some ⟨g1,o1,none⟩:=hq1
     have hfi:=RI.o.2.2.2 j i hi2
     have TK:Hid (h3++(pL.take (j+1)).flatMap lnG=h3++(pL.take j).flatMap lnG++lnG i):=aD (by rw [n5,hi2,List.flatMap_append];simp)
     have PL:(h3++(pL.take j).flatMap lnG).length<=90000000000:=by
      have h1:=qJ (fun x hx=>by obtain⟨m,hm⟩:=s6 (List.mem_of_mem_take hx);exact⟨m,RI.o.2.2.2 m x hm⟩) RI.o.1 RI.o.2.1 RI.o.2.2.1 (L:=pL.take j)
      have h2:=HL3.o
      rw [j2]
      have h4:(pL.take j).length<=40000:=by rw [List.length_take];omega
      have h5:(pL.take j).length*100001<=40000*100001:=Nat.mul_le_mul_right _ h4
      omega
     have LL:(lnG i).length<=100001:=by
      have:=(kK hfi RI.o.1 RI.o.2.1 RI.o.2.2.1).2.2
      unfold lnG
      rw [j2]
      simp
      omega
     have LC:=aD (fun V=>aC0 (aG3 hfi RI.o.1 RI.o.2.1.2 RI.o.2.2.1.2) V)
     obtain⟨T,hT⟩:∃ T,h3++(pL.take j).flatMap lnG=T:=⟨_,rfl⟩
     rw [hT] at R TK PL ⊢
     obtain⟨l,hl⟩:∃ l,lnG i=l:=⟨_,rfl⟩
     rw [hl] at TK LL LC
     have ts:(txt l).size=l.length:=aR l
     subst hq2
     clear hq1 hi2 hfi hT hl
     go_wp2_with first
      |(go_at_call 21;(with_reducible refine(LC.o _).mono ?_);rintro e w6 ⟨rfl,h6⟩;have R6:=aD (R.o.then sz h6);have sz6:=j4 sz h6.size;clear h6)
      |(at_builtin;refine Lib.wpList_append_own_string _ rfl _ _ 56 9 rfl w1.heap.size 5 t0 fR Tryz.underlying9 hi hz0 hz1 hz2 (.slice q T.length c) T.length (Lib.byteCells T) rfl R6.o.own (txt l) rfl (by rw [ts];unfold maxLen;omega) (by rw [ts];omega) sz6 ?_;intro v' w7 hown' hgrow _;have O7:=aD (R6.o.app sz6 hown' hgrow);clear hown' hgrow)
     go_roundw
     case rel=>exact⟨j+1,by omega,by go_num,by rw [TK.o];exact O7.o⟩
     case measure=>simp only [intOf];omega
    ·have i0:¬ (j:Int)<(pL.length:Int):=by omega
     have TX:Hid (OU w1.heap.size w1 (.slice q tx0.length c) tx0 wr):=aD (by
      have h1:=R.o
      rw [k6 (by omega),HTX.o] at h1
      exact h1)
     have E:h3++(pL.take j).flatMap lnG=tx0:=by rw [k6 (by omega)];exact HTX.o
     rw [E]
     have hcv:=vL TX.o.own
     clear E
     go_wp2
     go_ret2
     exact⟨rfl,B1.o.trans (TX.o.bel.mono (by omega))⟩
end
end Go.Proofs.YtliflleaeimngaaGreatDoor
