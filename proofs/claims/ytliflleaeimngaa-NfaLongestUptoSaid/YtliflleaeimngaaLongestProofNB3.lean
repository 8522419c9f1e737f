/-
  Parts of the proof.
-/
import Derived.Test.YtliflleaeimngaaLongestProofNA0
import Derived.Test.YtliflleaeimngaaLongestProofNB2
import Derived.WalkMore
import Derived.Deep.DeepCutAuto
import Derived.Deep.CutBlock
import Derived.Deep.LoopGhost
import Derived.Deep.RegionHeld
import Derived.Lib.Builder
import Derived.Lib.AppendStr
import Derived.Lib.UnsafeStr
import Derived.Lib.OthersKept
import Derived.Lib.FrozenHead
import Derived.Laws.Externs
import Derived.Shelf.RegionOpenPlain
set_option linter.unusedSimpArgs false
set_option maxRecDepth 100000
set_option maxHeartbeats 8000000
namespace Go.Proofs.Ytliflleaeimngaa
open Go Go.RowKit
section
def gR(n:Nat)(L xs:List Int):List Int:=xs.foldl (dE n) L
def bF(l:List Int)(a:Int):Int:=l[a.toNat]?.getD 0
abbrev sL(s:ByteArray):List UInt8:=s.data.toList
theorem cJ(s:ByteArray):(sL s).length=s.size:=Array.length_toList
theorem pY{L:List Int}(h:L.Nodup){j k:Nat}{z:Int}(hj:L[j]?=some z)(hk:L[k]?=some z):j=k:=by
 obtain⟨j1,j2⟩:=f7.1 hj
 obtain⟨k1,k2⟩:=f7.1 hk
 have hp:=List.pairwise_iff_getElem.1 (List.nodup_iff_pairwise_ne.1 h)
 rcases Nat.lt_trichotomy j k with q | q | q
 ·exact absurd (j2.trans k2.symm) (hp j k j1 k1 q)
 ·exact q
 ·exact absurd (k2.trans j2.symm) (hp k j k1 j1 q)
theorem gS(n:Nat)(L:List Int)(x:Int):∃ M,dE n L x=L++M/\(0<=x->x<n->x∈L++M)/\(∀ z∈M,z=x):=by
 unfold dE
 split
 ·exact⟨[x],rfl,fun _ _=>by simp,fun z hz=>by simpa using hz⟩
 ·rename_i h
  refine⟨[],by simp,fun h0 h1=>?_,fun z hz=>by cases hz⟩
  rw [List.append_nil]
  exact Classical.byContradiction fun q=>h ⟨h0,h1,q⟩
theorem fC(n:Nat):∀ (xs L:List Int),∃ M,gR n L xs=L++M/\(∀ z∈xs,0<=z->z<n->z∈L++M)/\∀ z∈M,z∈xs
 | [],L=>⟨[],by simp [gR],fun _ h=>by(cases h),fun _ h=>by(cases h)⟩
 | x :: r,L=>by
  obtain⟨M1,e1,h1,h2⟩:=gS n L x
  obtain⟨M2,e2,h3,h4⟩:=fC n r (L++M1)
  refine⟨M1++M2,?_,fun z hz p0 p1=>?_,fun z hz=>?_⟩
  ·show gR n (dE n L x) r=_
   rw [e1,e2,l7]
  ·rw [<- l7]
   rcases o4.1 hz with rfl | hz
   ·exact l5 _ (h1 p0 p1)
   ·exact h3 z hz p0 p1
  ·rcases l9.1 hz with hz | hz
   ·rw [h2 z hz]
    simp
   ·exact List.mem_cons_of_mem _ (h4 z hz)
structure EnI(P:List Ins)(s:List UInt8)(pl:Nat)(X N:List Int)(x:Int)(k:Nat)(l0 l1:List Int)(b:Int):Prop where
 lo:X.length<=k
 hi:k<=(X++N).length
 mem:x∈X++N
 src:∀ y∈N,∀ Q:Int->Prop,Q x->(∀ a i z,Q a->P[a.toNat]?=some i->z∈cH s i a pl->Q z)->Q y
 clo:∀ (j:Nat) y i z,X.length<=j->j<k->(X++N)[j]?=some y->P[y.toNat]?=some i->z∈cH s i y pl->z∈X++N
 bgn:∀ (j:Nat) y,X.length<=j->j<k->(X++N)[j]?=some y->bF l1 y=b
 old:∀ y∈X,bF l1 y=bF l0 y
section
variable {P:List Ins} {s:List UInt8} {pl:Nat} {X N:List Int} {x b:Int} {k n:Nat} {l0 l1:List Int}
theorem pC(h0:0<=x)(h1:x<n):∃ N,dE n X x=X++N/\EnI P s pl X N x X.length l0 l0 b:=by
 obtain⟨M,e,q1,q2⟩:=gS n X x
 exact⟨M,e,k9 _,by simp,q1 h0 h1,fun y hy Q hx _=>by rw [q2 y hy];exact hx,fun j _ _ _ a c=>by omega,fun j _ a c=>by omega,fun _ _=>rfl⟩
theorem qM(h:EnI P s pl X N x k l0 l1 b){y:Int}{i:Ins}(hy:(X++N)[k]?=some y)(hi:P[y.toNat]?=some i)(hr:∀ z∈cH s i y pl,0<=z/\z<n)(hd:(X++N).Nodup)(hp:∀ z∈X++N,0<=z)(hl:y.toNat<l1.length) :
  ∃ N',gR n (X++N) (cH s i y pl)=X++N'/\EnI P s pl X N' x (k+1) l0 (l1.set y.toNat b) b:=by
 obtain⟨M,e,q1,q2⟩:=fC n (cH s i y pl) (X++N)
 have hk:=(f7.1 hy).1
 have hlo:=h.lo
 have hym:y∈N:=by
  rw [o3 hlo] at hy
  exact j8 hy
 have hy0:=hp y (List.mem_append_right _ hym)
 have pre:∀ (j:Nat) (z:Int),j<(X++N).length->(X++(N++M))[j]?=some z->(X++N)[j]?=some z:=fun j z hj hz=>by
  rw [<- l7,l4 hj] at hz
  exact hz
 have ne:∀ (j:Nat) (z:Int),j≠k->(X++N)[j]?=some z->bF (l1.set y.toNat b) z=bF l1 z:=fun j z hj hz=>by
  have hzy:z≠y:=fun e=>hj (pY hd hz (e ▸ hy))
  have hz0:=hp z (j8 hz)
  unfold bF
  rw [List.getElem?_set_ne (by omega)]
 refine⟨N++M,by rw [e,l7],by omega,by rw [<- l7,List.length_append];omega,?_,fun z hz Q hx hQ=>?_,fun j z i' u h1 h2 h3 h4 h5=>?_,fun j z h1 h2 h3=>?_,fun z hz=>?_⟩
 ·rw [<- l7]
  exact l5 _ h.mem
 ·rcases l9.1 hz with hz | hz
  ·exact h.src z hz Q hx hQ
  ·exact hQ y i z (h.src y hym Q hx hQ) hi (q2 z hz)
 ·have h3:=pre j z (by omega) h3
  rw [<- l7]
  rcases j7 j k with r | r
  ·exact l5 _ (h.clo j z i' u h1 r h3 h4 h5)
  ·obtain rfl:j=k:=by omega
   rw [hy] at h3
   cases h3
   rw [hi] at h4
   cases h4
   obtain⟨r1,r2⟩:=hr u h5
   exact q1 u h5 r1 r2
 ·have h3:=pre j z (by omega) h3
  rcases j7 j k with r | r
  ·rw [ne j z (by omega) h3]
   exact h.bgn j z h1 r h3
  ·obtain rfl:j=k:=by omega
   rw [hy] at h3
   cases h3
   unfold bF
   simp [hl]
 ·obtain⟨j,hj⟩:=List.getElem?_of_mem hz
  have hjl:=(f7.1 hj).1
  rw [ne j z (by omega) (by rw [l4 hjl];exact hj)]
  exact h.old z hz
theorem sF(h:EnI P s pl X N x k l0 l1 b)(hk:(X++N).length<=k):EnQ P s pl X N x/\(∀ y∈N,bF l1 y=b)/\∀ y∈X,bF l1 y=bF l0 y:=by
 have at_:∀ y∈N,∃ j,X.length<=j/\j<k/\(X++N)[j]?=some y:=fun y hy=>by
  obtain⟨j,hj⟩:=List.getElem?_of_mem hy
  have hjl:=(f7.1 hj).1
  refine⟨X.length+j,by omega,by simp at hk;omega,?_⟩
  rw [o3 (by omega),show X.length+j-X.length=j by omega]
  exact hj
 refine⟨⟨h.mem,h.src,fun y hy i z hi hz=>?_⟩,fun y hy=>?_,h.old⟩
 ·obtain⟨j,h1,h2,h3⟩:=at_ y hy
  exact h.clo j y i z h1 h2 h3 hi hz
 ·obtain⟨j,h1,h2,h3⟩:=at_ y hy
  exact h.bgn j y h1 h2 h3
end
end
section
attribute [local go_sem] Oper.semAt_some
structure LdH(w:World)(rb:Nat)(p:Pg)(s:ByteArray)(A B:Cr4)(st:Int)(C:Cr4)(X:List Int)(a:Nat)(i:Ins):Prop where
 r:cW w rb p s A B st
 c:MAt w C.mb C.mo C.mp p.L.length X
 n:p.L.length<=40000
 hi:p.L[a]?=some i
 q:∃ g o,p.q=some ⟨g,o,none⟩/\g<w.heap.size/\¬ cG C.mb C.mo C.mp g/\w.rangeAt g (o+a*10) (inC i)
def LdQ(C:Cr4)(n:Nat)(X xs:List Int)(w:World)(e:Ending)(w':World):Prop:=e=.returned (.tuple #[])/\MAt w' C.mb C.mo C.mp n (gR n X xs)/\Fr (cG C.mb C.mo C.mp) w w'
section
variable {w:World} {rb:Nat} {p:Pg} {s:ByteArray} {A B:Cr4} {st:Int} {C:Cr4} {X:List Int} {a pl:Nat} {i:Ins}
theorem tK(H:LdH w rb p s A B st C X a i)(ho:i.op=2):Calls Try.prog 40 #[.pointer (some ⟨rb,0,none⟩),crV C p.L.length,.int .i64 (a:Int),.int .i64 (pl:Int)] w (LdQ C p.L.length X [i.x,i.y] w):=by
 obtain⟨g,o,hq,hg,hno,hcs⟩:=H.q
 have hal:=(f7.1 H.hi).1
 have hn:=H.n
 have B1:Hid (wBl w (w.alloc (.cells #[.pointer (some ⟨C.mb,0,none⟩),.slice (some ⟨C.gb,0,none⟩) p.L.length p.L.length] 54))):=bz9
 have X1:Hid ((w.alloc (.cells #[.pointer (some ⟨C.mb,0,none⟩),.slice (some ⟨C.gb,0,none⟩) p.L.length p.L.length] 54)).heap[w.heap.size]?=some (.cells #[.pointer (some ⟨C.mb,0,none⟩),.slice (some ⟨C.gb,0,none⟩) p.L.length p.L.length] 54 (0,0))):=aE w _
 have hlt:=aD H.c.ltb
 have hlt2:=aD H.c.lto
 have hlt3:=aD H.c.ltp
 have M1:=aD (H.c.kept B1.o)
 have R1:=aD ((B1.o.block _ (aC H.r)).trans H.r)
 have hcs:=aR hcs (B1.o.block _ hg)
 have HCS:=aD hcs
 have HNO:=aD hno
 clear H hcs hno
 go_enter Try.func40,Try.ntmps40
 go_upto_region 1 with fail
 generalize (w.alloc (.cells #[.pointer (some ⟨C.mb,0,none⟩),.slice (some ⟨C.gb,0,none⟩) p.L.length p.L.length] 54))=w1 at B1 X1 M1 R1 HCS ⊢
 have no:Hid (¬ cG C.mb C.mo C.mp w.heap.size):=aD (fun q=>by have h1:=hlt.o;have h2:=hlt2.o;have h3:=hlt3.o;rcases q with q | q | q <;> omega)
 have y0:w1.cell? ⟨rb,0,none⟩=some (.slice p.q p.L.length p.c):=aA R1.o (i:=0) rfl
 have y1:w1.cell? ⟨rb,1,none⟩=some (.string s):=aA R1.o (i:=1) rfl
 rw [hq] at y0
 have c0:w1.cell? ⟨g,o+a*10,none⟩=some (.int .i64 i.op):=HCS.o 0 _ rfl
 have k0:w1.cell? ⟨w.heap.size,0,none⟩=some (.pointer (some ⟨C.mb,0,none⟩)):=aA X1.o (i:=0) rfl
 have i0:(a:Int)<(p.L.length:Int):=by omega
 have i00:(0:Int)<=(a:Int):=by omega
 have F1:Hid (Fr (cG C.mb C.mo C.mp) w w1):=aD (Fr.of_below B1.o)
 have HC1:=aD HCS.o
 rw [ho] at c0
 go_upto_region 4 with fail
 have Z2:Hid (w1.drew.cell? ⟨w.heap.size,0,none⟩=some (.pointer (some ⟨C.mb,0,none⟩))/\w1.drew.cell? ⟨g,o+a*10+1,none⟩=some (.int .i64 i.x)):=aD ⟨aA X1.o (i:=0) rfl,HC1.o 1 _ rfl⟩
 have MD2:Hid (MAt w1.drew C.mb C.mo C.mp p.L.length (X)):=aD (M1.o.same rfl rfl rfl)
 have lx2:=aC X1.o
 have lg2:=aD (j9 hg F1.o.size)
 refine wp_region_held_drew (S:=fun w'=>w'.cell? ⟨w.heap.size,0,none⟩=some (.pointer (some ⟨C.mb,0,none⟩))/\w'.cell? ⟨g,o+a*10+1,none⟩=some (.int .i64 i.x)) (by kernel_rfl) Z2.o ?_
 intro hS0
 refine wpAnyH_take (i:=0) (oi:=_) (v:=?_) rfl (by kernel_rfl) (by kernel_rfl) (by kernel_rfl) (fun _ _ _ h=>h) (Or.inl ⟨by rfl,?_⟩) (by assumption) ?_
 rotate_left
 ·intro wz hSw
  obtain⟨hs0,hs1⟩:=hSw
  go_simp
  try with_reducible rfl
 dsimp only [Act.put,i8,g7,g9]
 simp only [f9,i9,j3]
 refine wpAnyH_take (i:=1) (oi:=_) (v:=?_) rfl (by kernel_rfl) (by kernel_rfl) (by kernel_rfl) (fun _ _ _ h=>h) (Or.inl ⟨by rfl,?_⟩) (by assumption) ?_
 rotate_left
 ·intro wz hSw
  obtain⟨hs0,hs1⟩:=hSw
  go_simp
  try with_reducible rfl
 dsimp only [Act.put,i8,g7,g9]
 simp only [f9,i9,j3]
 refine wpAnyH_take (i:=2) (oi:=_) (v:=?_) rfl (by kernel_rfl) (by kernel_rfl) (by kernel_rfl) (fun _ _ _ h=>h) (Or.inl ⟨by rfl,?_⟩) (by assumption) ?_
 rotate_left
 ·intro wz hSw
  obtain⟨hs0,hs1⟩:=hSw
  go_simp
  try with_reducible rfl
 dsimp only [Act.put,i8,g7,g9]
 simp only [f9,i9,j3]
 refine wpAnyH_take (i:=3) (oi:=_) (v:=?_) rfl (by kernel_rfl) (by kernel_rfl) (by kernel_rfl) (fun _ _ _ h=>h) (Or.inl ⟨by rfl,?_⟩) (by assumption) ?_
 rotate_left
 ·intro wz hSw
  obtain⟨hs0,hs1⟩:=hSw
  go_simp
  try with_reducible rfl
 dsimp only [Act.put,i8,g7,g9]
 simp only [f9,i9,j3]
 refine wpAnyH_take (i:=4) (oi:=_) (v:=?_) rfl (by kernel_rfl) (by kernel_rfl) (by kernel_rfl) (fun _ _ _ h=>h) (Or.inl ⟨by rfl,?_⟩) (by assumption) ?_
 rotate_left
 ·intro wz hSw
  obtain⟨hs0,hs1⟩:=hSw
  go_simp
  try with_reducible rfl
 dsimp only [Act.put,i8,g7,g9]
 simp only [f9,i9,j3]
 refine wpAnyH_take (i:=5) (oi:=_) (v:=?_) rfl (by kernel_rfl) (by kernel_rfl) (by kernel_rfl) (fun _ _ _ h=>h) (Or.inl ⟨by rfl,?_⟩) (by assumption) ?_
 rotate_left
 ·intro wz hSw
  obtain⟨hs0,hs1⟩:=hSw
  go_simp
  try with_reducible rfl
 dsimp only [Act.put,i8,g7,g9]
 simp only [f9,i9,j3]
 refine wpAnyH_ready (rs:=[6]) (by kernel_rfl) (by simp) ?_
 refine AllReadyH.cons rfl (fun K hK=>?_) AllReadyH.nil
 go_simp
 go_at_call 39
 refine(dW MD2.o _).mono ?_
 rintro e w2 ⟨rfl,h1,h2⟩
 have M2:Hid (MAt w2 C.mb C.mo C.mp p.L.length (dE p.L.length X i.x)):=aD h1
 have F2:=aD ((F1.o.drew).trans h2)
 have X2:=aD ((h2.block _ (by exact lx2) no.o).trans X1.o)
 have HC2:=aD (aR HC1.o (h2.block _ (by exact lg2.o) HNO.o))
 clear h1 h2
 refine hK.out _ _ ⟨aA X2.o (i:=0) rfl,HC2.o 1 _ rfl⟩ (fun hS1=>?_)
 clear hK K hS0 hS1
 refine wpAnyH_done (by kernel_rfl) ?_ _
 clear y0 y1 c0 k0
 go_upto_region 5 with fail
 have Z3:Hid (w2.drew.cell? ⟨w.heap.size,0,none⟩=some (.pointer (some ⟨C.mb,0,none⟩))/\w2.drew.cell? ⟨g,o+a*10+2,none⟩=some (.int .i64 i.y)):=aD ⟨aA X2.o (i:=0) rfl,HC2.o 2 _ rfl⟩
 have MD3:Hid (MAt w2.drew C.mb C.mo C.mp p.L.length (dE p.L.length X i.x)):=aD (M2.o.same rfl rfl rfl)
 have lx3:=aC X2.o
 have lg3:=aD (j9 hg F2.o.size)
 refine wp_region_held_drew (S:=fun w'=>w'.cell? ⟨w.heap.size,0,none⟩=some (.pointer (some ⟨C.mb,0,none⟩))/\w'.cell? ⟨g,o+a*10+2,none⟩=some (.int .i64 i.y)) (by kernel_rfl) Z3.o ?_
 intro hS0
 refine wpAnyH_take (i:=0) (oi:=_) (v:=?_) rfl (by kernel_rfl) (by kernel_rfl) (by kernel_rfl) (fun _ _ _ h=>h) (Or.inl ⟨by rfl,?_⟩) (by assumption) ?_
 rotate_left
 ·intro wz hSw
  obtain⟨hs0,hs1⟩:=hSw
  go_simp
  try with_reducible rfl
 dsimp only [Act.put,i8,g7,g9]
 simp only [f9,i9,j3]
 refine wpAnyH_take (i:=1) (oi:=_) (v:=?_) rfl (by kernel_rfl) (by kernel_rfl) (by kernel_rfl) (fun _ _ _ h=>h) (Or.inl ⟨by rfl,?_⟩) (by assumption) ?_
 rotate_left
 ·intro wz hSw
  obtain⟨hs0,hs1⟩:=hSw
  go_simp
  try with_reducible rfl
 dsimp only [Act.put,i8,g7,g9]
 simp only [f9,i9,j3]
 refine wpAnyH_take (i:=2) (oi:=_) (v:=?_) rfl (by kernel_rfl) (by kernel_rfl) (by kernel_rfl) (fun _ _ _ h=>h) (Or.inl ⟨by rfl,?_⟩) (by assumption) ?_
 rotate_left
 ·intro wz hSw
  obtain⟨hs0,hs1⟩:=hSw
  go_simp
  try with_reducible rfl
 dsimp only [Act.put,i8,g7,g9]
 simp only [f9,i9,j3]
 refine wpAnyH_take (i:=3) (oi:=_) (v:=?_) rfl (by kernel_rfl) (by kernel_rfl) (by kernel_rfl) (fun _ _ _ h=>h) (Or.inl ⟨by rfl,?_⟩) (by assumption) ?_
 rotate_left
 ·intro wz hSw
  obtain⟨hs0,hs1⟩:=hSw
  go_simp
  try with_reducible rfl
 dsimp only [Act.put,i8,g7,g9]
 simp only [f9,i9,j3]
 refine wpAnyH_take (i:=4) (oi:=_) (v:=?_) rfl (by kernel_rfl) (by kernel_rfl) (by kernel_rfl) (fun _ _ _ h=>h) (Or.inl ⟨by rfl,?_⟩) (by assumption) ?_
 rotate_left
 ·intro wz hSw
  obtain⟨hs0,hs1⟩:=hSw
  go_simp
  try with_reducible rfl
 dsimp only [Act.put,i8,g7,g9]
 simp only [f9,i9,j3]
 refine wpAnyH_take (i:=5) (oi:=_) (v:=?_) rfl (by kernel_rfl) (by kernel_rfl) (by kernel_rfl) (fun _ _ _ h=>h) (Or.inl ⟨by rfl,?_⟩) (by assumption) ?_
 rotate_left
 ·intro wz hSw
  obtain⟨hs0,hs1⟩:=hSw
  go_simp
  try with_reducible rfl
 dsimp only [Act.put,i8,g7,g9]
 simp only [f9,i9,j3]
 refine wpAnyH_ready (rs:=[6]) (by kernel_rfl) (by simp) ?_
 refine AllReadyH.cons rfl (fun K hK=>?_) AllReadyH.nil
 go_simp
 go_at_call 39
 refine(dW MD3.o _).mono ?_
 rintro e w3 ⟨rfl,h1,h2⟩
 have M3:Hid (MAt w3 C.mb C.mo C.mp p.L.length (dE p.L.length (dE p.L.length X i.x) i.y)):=aD h1
 have F3:=aD ((F2.o.drew).trans h2)
 have X3:=aD ((h2.block _ (by exact lx3) no.o).trans X2.o)
 have HC3:=aD (aR HC2.o (h2.block _ (by exact lg3.o) HNO.o))
 clear h1 h2
 refine hK.out _ _ ⟨aA X3.o (i:=0) rfl,HC3.o 2 _ rfl⟩ (fun hS1=>?_)
 clear hK K hS0 hS1
 refine wpAnyH_done (by kernel_rfl) ?_ _
 go_wp2
 go_end0
 exact⟨rfl,M3.o,F3.o⟩
theorem tJ(H:LdH w rb p s A B st C X a i)(ho:i.op=3):Calls Try.prog 40 #[.pointer (some ⟨rb,0,none⟩),crV C p.L.length,.int .i64 (a:Int),.int .i64 (pl:Int)] w (LdQ C p.L.length X [i.x] w):=by
 obtain⟨g,o,hq,hg,hno,hcs⟩:=H.q
 have hal:=(f7.1 H.hi).1
 have hn:=H.n
 have B1:Hid (wBl w (w.alloc (.cells #[.pointer (some ⟨C.mb,0,none⟩),.slice (some ⟨C.gb,0,none⟩) p.L.length p.L.length] 54))):=bz9
 have X1:Hid ((w.alloc (.cells #[.pointer (some ⟨C.mb,0,none⟩),.slice (some ⟨C.gb,0,none⟩) p.L.length p.L.length] 54)).heap[w.heap.size]?=some (.cells #[.pointer (some ⟨C.mb,0,none⟩),.slice (some ⟨C.gb,0,none⟩) p.L.length p.L.length] 54 (0,0))):=aE w _
 have hlt:=aD H.c.ltb
 have hlt2:=aD H.c.lto
 have hlt3:=aD H.c.ltp
 have M1:=aD (H.c.kept B1.o)
 have R1:=aD ((B1.o.block _ (aC H.r)).trans H.r)
 have hcs:=aR hcs (B1.o.block _ hg)
 have HCS:=aD hcs
 have HNO:=aD hno
 clear H hcs hno
 go_enter Try.func40,Try.ntmps40
 go_upto_region 1 with fail
 generalize (w.alloc (.cells #[.pointer (some ⟨C.mb,0,none⟩),.slice (some ⟨C.gb,0,none⟩) p.L.length p.L.length] 54))=w1 at B1 X1 M1 R1 HCS ⊢
 have no:Hid (¬ cG C.mb C.mo C.mp w.heap.size):=aD (fun q=>by have h1:=hlt.o;have h2:=hlt2.o;have h3:=hlt3.o;rcases q with q | q | q <;> omega)
 have y0:w1.cell? ⟨rb,0,none⟩=some (.slice p.q p.L.length p.c):=aA R1.o (i:=0) rfl
 have y1:w1.cell? ⟨rb,1,none⟩=some (.string s):=aA R1.o (i:=1) rfl
 rw [hq] at y0
 have c0:w1.cell? ⟨g,o+a*10,none⟩=some (.int .i64 i.op):=HCS.o 0 _ rfl
 have k0:w1.cell? ⟨w.heap.size,0,none⟩=some (.pointer (some ⟨C.mb,0,none⟩)):=aA X1.o (i:=0) rfl
 have i0:(a:Int)<(p.L.length:Int):=by omega
 have i00:(0:Int)<=(a:Int):=by omega
 have F1:Hid (Fr (cG C.mb C.mo C.mp) w w1):=aD (Fr.of_below B1.o)
 have HC1:=aD HCS.o
 rw [ho] at c0
 go_upto_region 7 with fail
 have Z2:Hid (w1.drew.cell? ⟨w.heap.size,0,none⟩=some (.pointer (some ⟨C.mb,0,none⟩))/\w1.drew.cell? ⟨g,o+a*10+1,none⟩=some (.int .i64 i.x)):=aD ⟨aA X1.o (i:=0) rfl,HC1.o 1 _ rfl⟩
 have MD2:Hid (MAt w1.drew C.mb C.mo C.mp p.L.length (X)):=aD (M1.o.same rfl rfl rfl)
 have lx2:=aC X1.o
 have lg2:=aD (j9 hg F1.o.size)
 refine wp_region_held_drew (S:=fun w'=>w'.cell? ⟨w.heap.size,0,none⟩=some (.pointer (some ⟨C.mb,0,none⟩))/\w'.cell? ⟨g,o+a*10+1,none⟩=some (.int .i64 i.x)) (by kernel_rfl) Z2.o ?_
 intro hS0
 refine wpAnyH_take (i:=0) (oi:=_) (v:=?_) rfl (by kernel_rfl) (by kernel_rfl) (by kernel_rfl) (fun _ _ _ h=>h) (Or.inl ⟨by rfl,?_⟩) (by assumption) ?_
 rotate_left
 ·intro wz hSw
  obtain⟨hs0,hs1⟩:=hSw
  go_simp
  try with_reducible rfl
 dsimp only [Act.put,i8,g7,g9]
 simp only [f9,i9,j3]
 refine wpAnyH_take (i:=1) (oi:=_) (v:=?_) rfl (by kernel_rfl) (by kernel_rfl) (by kernel_rfl) (fun _ _ _ h=>h) (Or.inl ⟨by rfl,?_⟩) (by assumption) ?_
 rotate_left
 ·intro wz hSw
  obtain⟨hs0,hs1⟩:=hSw
  go_simp
  try with_reducible rfl
 dsimp only [Act.put,i8,g7,g9]
 simp only [f9,i9,j3]
 refine wpAnyH_take (i:=2) (oi:=_) (v:=?_) rfl (by kernel_rfl) (by kernel_rfl) (by kernel_rfl) (fun _ _ _ h=>h) (Or.inl ⟨by rfl,?_⟩) (by assumption) ?_
 rotate_left
 ·intro wz hSw
  obtain⟨hs0,hs1⟩:=hSw
  go_simp
  try with_reducible rfl
 dsimp only [Act.put,i8,g7,g9]
 simp only [f9,i9,j3]
 refine wpAnyH_take (i:=3) (oi:=_) (v:=?_) rfl (by kernel_rfl) (by kernel_rfl) (by kernel_rfl) (fun _ _ _ h=>h) (Or.inl ⟨by rfl,?_⟩) (by assumption) ?_
 rotate_left
 ·intro wz hSw
  obtain⟨hs0,hs1⟩:=hSw
  go_simp
  try with_reducible rfl
 dsimp only [Act.put,i8,g7,g9]
 simp only [f9,i9,j3]
 refine wpAnyH_take (i:=4) (oi:=_) (v:=?_) rfl (by kernel_rfl) (by kernel_rfl) (by kernel_rfl) (fun _ _ _ h=>h) (Or.inl ⟨by rfl,?_⟩) (by assumption) ?_
 rotate_left
 ·intro wz hSw
  obtain⟨hs0,hs1⟩:=hSw
  go_simp
  try with_reducible rfl
 dsimp only [Act.put,i8,g7,g9]
 simp only [f9,i9,j3]
 refine wpAnyH_take (i:=5) (oi:=_) (v:=?_) rfl (by kernel_rfl) (by kernel_rfl) (by kernel_rfl) (fun _ _ _ h=>h) (Or.inl ⟨by rfl,?_⟩) (by assumption) ?_
 rotate_left
 ·intro wz hSw
  obtain⟨hs0,hs1⟩:=hSw
  go_simp
  try with_reducible rfl
 dsimp only [Act.put,i8,g7,g9]
 simp only [f9,i9,j3]
 refine wpAnyH_ready (rs:=[6]) (by kernel_rfl) (by simp) ?_
 refine AllReadyH.cons rfl (fun K hK=>?_) AllReadyH.nil
 go_simp
 go_at_call 39
 refine(dW MD2.o _).mono ?_
 rintro e w2 ⟨rfl,h1,h2⟩
 have M2:Hid (MAt w2 C.mb C.mo C.mp p.L.length (dE p.L.length X i.x)):=aD h1
 have F2:=aD ((F1.o.drew).trans h2)
 have X2:=aD ((h2.block _ (by exact lx2) no.o).trans X1.o)
 have HC2:=aD (aR HC1.o (h2.block _ (by exact lg2.o) HNO.o))
 clear h1 h2
 refine hK.out _ _ ⟨aA X2.o (i:=0) rfl,HC2.o 1 _ rfl⟩ (fun hS1=>?_)
 clear hK K hS0 hS1
 refine wpAnyH_done (by kernel_rfl) ?_ _
 go_wp2
 go_end0
 exact⟨rfl,M2.o,F2.o⟩
theorem tI(H:LdH w rb p s A B st C X a i)(ho:i.op=6):Calls Try.prog 40 #[.pointer (some ⟨rb,0,none⟩),crV C p.L.length,.int .i64 (a:Int),.int .i64 (pl:Int)] w (LdQ C p.L.length X [(a:Int)+1] w):=by
 obtain⟨g,o,hq,hg,hno,hcs⟩:=H.q
 have hal:=(f7.1 H.hi).1
 have hn:=H.n
 have B1:Hid (wBl w (w.alloc (.cells #[.pointer (some ⟨C.mb,0,none⟩),.slice (some ⟨C.gb,0,none⟩) p.L.length p.L.length] 54))):=bz9
 have X1:Hid ((w.alloc (.cells #[.pointer (some ⟨C.mb,0,none⟩),.slice (some ⟨C.gb,0,none⟩) p.L.length p.L.length] 54)).heap[w.heap.size]?=some (.cells #[.pointer (some ⟨C.mb,0,none⟩),.slice (some ⟨C.gb,0,none⟩) p.L.length p.L.length] 54 (0,0))):=aE w _
 have hlt:=aD H.c.ltb
 have hlt2:=aD H.c.lto
 have hlt3:=aD H.c.ltp
 have M1:=aD (H.c.kept B1.o)
 have R1:=aD ((B1.o.block _ (aC H.r)).trans H.r)
 have hcs:=aR hcs (B1.o.block _ hg)
 have HCS:=aD hcs
 have HNO:=aD hno
 clear H hcs hno
 go_enter Try.func40,Try.ntmps40
 go_upto_region 1 with fail
 generalize (w.alloc (.cells #[.pointer (some ⟨C.mb,0,none⟩),.slice (some ⟨C.gb,0,none⟩) p.L.length p.L.length] 54))=w1 at B1 X1 M1 R1 HCS ⊢
 have no:Hid (¬ cG C.mb C.mo C.mp w.heap.size):=aD (fun q=>by have h1:=hlt.o;have h2:=hlt2.o;have h3:=hlt3.o;rcases q with q | q | q <;> omega)
 have y0:w1.cell? ⟨rb,0,none⟩=some (.slice p.q p.L.length p.c):=aA R1.o (i:=0) rfl
 have y1:w1.cell? ⟨rb,1,none⟩=some (.string s):=aA R1.o (i:=1) rfl
 rw [hq] at y0
 have c0:w1.cell? ⟨g,o+a*10,none⟩=some (.int .i64 i.op):=HCS.o 0 _ rfl
 have k0:w1.cell? ⟨w.heap.size,0,none⟩=some (.pointer (some ⟨C.mb,0,none⟩)):=aA X1.o (i:=0) rfl
 have i0:(a:Int)<(p.L.length:Int):=by omega
 have i00:(0:Int)<=(a:Int):=by omega
 have F1:Hid (Fr (cG C.mb C.mo C.mp) w w1):=aD (Fr.of_below B1.o)
 have HC1:=aD HCS.o
 have hw1:IntKind.wrap .i64 ((a:Int)+1)=(a:Int)+1:=wrap_small _ (by omega) (by omega)
 rw [ho] at c0
 go_wp2_with (go_at_call 39;(with_reducible refine(dW M1.o _).mono ?_);rintro e w2 ⟨rfl,h1,h2⟩;have M2:=aD h1;have F2:=aD (F1.o.trans h2);clear h1 h2)
 go_end0
 exact⟨rfl,M2.o,F2.o⟩
theorem tH(H:LdH w rb p s A B st C X a i)(ho:i.op=7):Calls Try.prog 40 #[.pointer (some ⟨rb,0,none⟩),crV C p.L.length,.int .i64 (a:Int),.int .i64 (pl:Int)] w (LdQ C p.L.length X [(a:Int)+1] w):=by
 obtain⟨g,o,hq,hg,hno,hcs⟩:=H.q
 have hal:=(f7.1 H.hi).1
 have hn:=H.n
 have B1:Hid (wBl w (w.alloc (.cells #[.pointer (some ⟨C.mb,0,none⟩),.slice (some ⟨C.gb,0,none⟩) p.L.length p.L.length] 54))):=bz9
 have X1:Hid ((w.alloc (.cells #[.pointer (some ⟨C.mb,0,none⟩),.slice (some ⟨C.gb,0,none⟩) p.L.length p.L.length] 54)).heap[w.heap.size]?=some (.cells #[.pointer (some ⟨C.mb,0,none⟩),.slice (some ⟨C.gb,0,none⟩) p.L.length p.L.length] 54 (0,0))):=aE w _
 have hlt:=aD H.c.ltb
 have hlt2:=aD H.c.lto
 have hlt3:=aD H.c.ltp
 have M1:=aD (H.c.kept B1.o)
 have R1:=aD ((B1.o.block _ (aC H.r)).trans H.r)
 have hcs:=aR hcs (B1.o.block _ hg)
 have HCS:=aD hcs
 have HNO:=aD hno
 clear H hcs hno
 go_enter Try.func40,Try.ntmps40
 go_upto_region 1 with fail
 generalize (w.alloc (.cells #[.pointer (some ⟨C.mb,0,none⟩),.slice (some ⟨C.gb,0,none⟩) p.L.length p.L.length] 54))=w1 at B1 X1 M1 R1 HCS ⊢
 have no:Hid (¬ cG C.mb C.mo C.mp w.heap.size):=aD (fun q=>by have h1:=hlt.o;have h2:=hlt2.o;have h3:=hlt3.o;rcases q with q | q | q <;> omega)
 have y0:w1.cell? ⟨rb,0,none⟩=some (.slice p.q p.L.length p.c):=aA R1.o (i:=0) rfl
 have y1:w1.cell? ⟨rb,1,none⟩=some (.string s):=aA R1.o (i:=1) rfl
 rw [hq] at y0
 have c0:w1.cell? ⟨g,o+a*10,none⟩=some (.int .i64 i.op):=HCS.o 0 _ rfl
 have k0:w1.cell? ⟨w.heap.size,0,none⟩=some (.pointer (some ⟨C.mb,0,none⟩)):=aA X1.o (i:=0) rfl
 have i0:(a:Int)<(p.L.length:Int):=by omega
 have i00:(0:Int)<=(a:Int):=by omega
 have F1:Hid (Fr (cG C.mb C.mo C.mp) w w1):=aD (Fr.of_below B1.o)
 have HC1:=aD HCS.o
 have hw1:IntKind.wrap .i64 ((a:Int)+1)=(a:Int)+1:=wrap_small _ (by omega) (by omega)
 rw [ho] at c0
 go_wp2_with (go_at_call 39;(with_reducible refine(dW M1.o _).mono ?_);rintro e w2 ⟨rfl,h1,h2⟩;have M2:=aD h1;have F2:=aD (F1.o.trans h2);clear h1 h2)
 go_end0
 exact⟨rfl,M2.o,F2.o⟩
theorem rY(H:LdH w rb p s A B st C X a i)(ho:i.op=4)(h0:pl=0):Calls Try.prog 40 #[.pointer (some ⟨rb,0,none⟩),crV C p.L.length,.int .i64 (a:Int),.int .i64 (pl:Int)] w (LdQ C p.L.length X [(a:Int)+1] w):=by
 obtain⟨g,o,hq,hg,hno,hcs⟩:=H.q
 have hal:=(f7.1 H.hi).1
 have hn:=H.n
 have B1:Hid (wBl w (w.alloc (.cells #[.pointer (some ⟨C.mb,0,none⟩),.slice (some ⟨C.gb,0,none⟩) p.L.length p.L.length] 54))):=bz9
 have X1:Hid ((w.alloc (.cells #[.pointer (some ⟨C.mb,0,none⟩),.slice (some ⟨C.gb,0,none⟩) p.L.length p.L.length] 54)).heap[w.heap.size]?=some (.cells #[.pointer (some ⟨C.mb,0,none⟩),.slice (some ⟨C.gb,0,none⟩) p.L.length p.L.length] 54 (0,0))):=aE w _
 have hlt:=aD H.c.ltb
 have hlt2:=aD H.c.lto
 have hlt3:=aD H.c.ltp
 have M1:=aD (H.c.kept B1.o)
 have R1:=aD ((B1.o.block _ (aC H.r)).trans H.r)
 have hcs:=aR hcs (B1.o.block _ hg)
 have HCS:=aD hcs
 have HNO:=aD hno
 clear H hcs hno
 go_enter Try.func40,Try.ntmps40
 go_upto_region 1 with fail
 generalize (w.alloc (.cells #[.pointer (some ⟨C.mb,0,none⟩),.slice (some ⟨C.gb,0,none⟩) p.L.length p.L.length] 54))=w1 at B1 X1 M1 R1 HCS ⊢
 have no:Hid (¬ cG C.mb C.mo C.mp w.heap.size):=aD (fun q=>by have h1:=hlt.o;have h2:=hlt2.o;have h3:=hlt3.o;rcases q with q | q | q <;> omega)
 have y0:w1.cell? ⟨rb,0,none⟩=some (.slice p.q p.L.length p.c):=aA R1.o (i:=0) rfl
 have y1:w1.cell? ⟨rb,1,none⟩=some (.string s):=aA R1.o (i:=1) rfl
 rw [hq] at y0
 have c0:w1.cell? ⟨g,o+a*10,none⟩=some (.int .i64 i.op):=HCS.o 0 _ rfl
 have k0:w1.cell? ⟨w.heap.size,0,none⟩=some (.pointer (some ⟨C.mb,0,none⟩)):=aA X1.o (i:=0) rfl
 have i0:(a:Int)<(p.L.length:Int):=by omega
 have i00:(0:Int)<=(a:Int):=by omega
 have F1:Hid (Fr (cG C.mb C.mo C.mp) w w1):=aD (Fr.of_below B1.o)
 have HC1:=aD HCS.o
 have hw1:IntKind.wrap .i64 ((a:Int)+1)=(a:Int)+1:=wrap_small _ (by omega) (by omega)
 rw [ho] at c0
 subst h0
 go_wp2_with (go_at_call 39;(with_reducible refine(dW M1.o _).mono ?_);rintro e w2 ⟨rfl,h1,h2⟩;have M2:=aD h1;have F2:=aD (F1.o.trans h2);clear h1 h2)
 go_end0
 exact⟨rfl,M2.o,F2.o⟩
theorem rZ(H:LdH w rb p s A B st C X a i)(ho:i.op=4)(h0:pl≠0):Calls Try.prog 40 #[.pointer (some ⟨rb,0,none⟩),crV C p.L.length,.int .i64 (a:Int),.int .i64 (pl:Int)] w (LdQ C p.L.length X [] w):=by
 obtain⟨g,o,hq,hg,hno,hcs⟩:=H.q
 have hal:=(f7.1 H.hi).1
 have hn:=H.n
 have B1:Hid (wBl w (w.alloc (.cells #[.pointer (some ⟨C.mb,0,none⟩),.slice (some ⟨C.gb,0,none⟩) p.L.length p.L.length] 54))):=bz9
 have X1:Hid ((w.alloc (.cells #[.pointer (some ⟨C.mb,0,none⟩),.slice (some ⟨C.gb,0,none⟩) p.L.length p.L.length] 54)).heap[w.heap.size]?=some (.cells #[.pointer (some ⟨C.mb,0,none⟩),.slice (some ⟨C.gb,0,none⟩) p.L.length p.L.length] 54 (0,0))):=aE w _
 have hlt:=aD H.c.ltb
 have hlt2:=aD H.c.lto
 have hlt3:=aD H.c.ltp
 have M1:=aD (H.c.kept B1.o)
 have R1:=aD ((B1.o.block _ (aC H.r)).trans H.r)
 have hcs:=aR hcs (B1.o.block _ hg)
 have HCS:=aD hcs
 have HNO:=aD hno
 clear H hcs hno
 go_enter Try.func40,Try.ntmps40
 go_upto_region 1 with fail
 generalize (w.alloc (.cells #[.pointer (some ⟨C.mb,0,none⟩),.slice (some ⟨C.gb,0,none⟩) p.L.length p.L.length] 54))=w1 at B1 X1 M1 R1 HCS ⊢
 have no:Hid (¬ cG C.mb C.mo C.mp w.heap.size):=aD (fun q=>by have h1:=hlt.o;have h2:=hlt2.o;have h3:=hlt3.o;rcases q with q | q | q <;> omega)
 have y0:w1.cell? ⟨rb,0,none⟩=some (.slice p.q p.L.length p.c):=aA R1.o (i:=0) rfl
 have y1:w1.cell? ⟨rb,1,none⟩=some (.string s):=aA R1.o (i:=1) rfl
 rw [hq] at y0
 have c0:w1.cell? ⟨g,o+a*10,none⟩=some (.int .i64 i.op):=HCS.o 0 _ rfl
 have k0:w1.cell? ⟨w.heap.size,0,none⟩=some (.pointer (some ⟨C.mb,0,none⟩)):=aA X1.o (i:=0) rfl
 have i0:(a:Int)<(p.L.length:Int):=by omega
 have i00:(0:Int)<=(a:Int):=by omega
 have F1:Hid (Fr (cG C.mb C.mo C.mp) w w1):=aD (Fr.of_below B1.o)
 have HC1:=aD HCS.o
 rw [ho] at c0
 have h00:((pl:Int)==0)=false:=by rw [f8];omega
 go_wp2_with fail
 go_end0
 exact⟨rfl,M1.o,F1.o⟩
theorem rW(H:LdH w rb p s A B st C X a i)(ho:i.op=5)(h0:pl=s.size):Calls Try.prog 40 #[.pointer (some ⟨rb,0,none⟩),crV C p.L.length,.int .i64 (a:Int),.int .i64 (pl:Int)] w (LdQ C p.L.length X [(a:Int)+1] w):=by
 obtain⟨g,o,hq,hg,hno,hcs⟩:=H.q
 have hal:=(f7.1 H.hi).1
 have hn:=H.n
 have B1:Hid (wBl w (w.alloc (.cells #[.pointer (some ⟨C.mb,0,none⟩),.slice (some ⟨C.gb,0,none⟩) p.L.length p.L.length] 54))):=bz9
 have X1:Hid ((w.alloc (.cells #[.pointer (some ⟨C.mb,0,none⟩),.slice (some ⟨C.gb,0,none⟩) p.L.length p.L.length] 54)).heap[w.heap.size]?=some (.cells #[.pointer (some ⟨C.mb,0,none⟩),.slice (some ⟨C.gb,0,none⟩) p.L.length p.L.length] 54 (0,0))):=aE w _
 have hlt:=aD H.c.ltb
 have hlt2:=aD H.c.lto
 have hlt3:=aD H.c.ltp
 have M1:=aD (H.c.kept B1.o)
 have R1:=aD ((B1.o.block _ (aC H.r)).trans H.r)
 have hcs:=aR hcs (B1.o.block _ hg)
 have HCS:=aD hcs
 have HNO:=aD hno
 clear H hcs hno
 go_enter Try.func40,Try.ntmps40
 go_upto_region 1 with fail
 generalize (w.alloc (.cells #[.pointer (some ⟨C.mb,0,none⟩),.slice (some ⟨C.gb,0,none⟩) p.L.length p.L.length] 54))=w1 at B1 X1 M1 R1 HCS ⊢
 have no:Hid (¬ cG C.mb C.mo C.mp w.heap.size):=aD (fun q=>by have h1:=hlt.o;have h2:=hlt2.o;have h3:=hlt3.o;rcases q with q | q | q <;> omega)
 have y0:w1.cell? ⟨rb,0,none⟩=some (.slice p.q p.L.length p.c):=aA R1.o (i:=0) rfl
 have y1:w1.cell? ⟨rb,1,none⟩=some (.string s):=aA R1.o (i:=1) rfl
 rw [hq] at y0
 have c0:w1.cell? ⟨g,o+a*10,none⟩=some (.int .i64 i.op):=HCS.o 0 _ rfl
 have k0:w1.cell? ⟨w.heap.size,0,none⟩=some (.pointer (some ⟨C.mb,0,none⟩)):=aA X1.o (i:=0) rfl
 have i0:(a:Int)<(p.L.length:Int):=by omega
 have i00:(0:Int)<=(a:Int):=by omega
 have F1:Hid (Fr (cG C.mb C.mo C.mp) w w1):=aD (Fr.of_below B1.o)
 have HC1:=aD HCS.o
 have hw1:IntKind.wrap .i64 ((a:Int)+1)=(a:Int)+1:=wrap_small _ (by omega) (by omega)
 rw [ho] at c0
 have h00:((pl:Int)==(s.size:Int))=true:=by rw [beq_iff_eq];omega
 have h01:(pl:Int)=(s.size:Int):=by omega
 go_wp2_with (go_at_call 39;(with_reducible refine(dW M1.o _).mono ?_);rintro e w2 ⟨rfl,h1,h2⟩;have M2:=aD h1;have F2:=aD (F1.o.trans h2);clear h1 h2)
 go_end0
 exact⟨rfl,M2.o,F2.o⟩
theorem rX(H:LdH w rb p s A B st C X a i)(ho:i.op=5)(h0:pl≠s.size):Calls Try.prog 40 #[.pointer (some ⟨rb,0,none⟩),crV C p.L.length,.int .i64 (a:Int),.int .i64 (pl:Int)] w (LdQ C p.L.length X [] w):=by
 obtain⟨g,o,hq,hg,hno,hcs⟩:=H.q
 have hal:=(f7.1 H.hi).1
 have hn:=H.n
 have B1:Hid (wBl w (w.alloc (.cells #[.pointer (some ⟨C.mb,0,none⟩),.slice (some ⟨C.gb,0,none⟩) p.L.length p.L.length] 54))):=bz9
 have X1:Hid ((w.alloc (.cells #[.pointer (some ⟨C.mb,0,none⟩),.slice (some ⟨C.gb,0,none⟩) p.L.length p.L.length] 54)).heap[w.heap.size]?=some (.cells #[.pointer (some ⟨C.mb,0,none⟩),.slice (some ⟨C.gb,0,none⟩) p.L.length p.L.length] 54 (0,0))):=aE w _
 have hlt:=aD H.c.ltb
 have hlt2:=aD H.c.lto
 have hlt3:=aD H.c.ltp
 have M1:=aD (H.c.kept B1.o)
 have R1:=aD ((B1.o.block _ (aC H.r)).trans H.r)
 have hcs:=aR hcs (B1.o.block _ hg)
 have HCS:=aD hcs
 have HNO:=aD hno
 clear H hcs hno
 go_enter Try.func40,Try.ntmps40
 go_upto_region 1 with fail
 generalize (w.alloc (.cells #[.pointer (some ⟨C.mb,0,none⟩),.slice (some ⟨C.gb,0,none⟩) p.L.length p.L.length] 54))=w1 at B1 X1 M1 R1 HCS ⊢
 have no:Hid (¬ cG C.mb C.mo C.mp w.heap.size):=aD (fun q=>by have h1:=hlt.o;have h2:=hlt2.o;have h3:=hlt3.o;rcases q with q | q | q <;> omega)
 have y0:w1.cell? ⟨rb,0,none⟩=some (.slice p.q p.L.length p.c):=aA R1.o (i:=0) rfl
 have y1:w1.cell? ⟨rb,1,none⟩=some (.string s):=aA R1.o (i:=1) rfl
 rw [hq] at y0
 have c0:w1.cell? ⟨g,o+a*10,none⟩=some (.int .i64 i.op):=HCS.o 0 _ rfl
 have k0:w1.cell? ⟨w.heap.size,0,none⟩=some (.pointer (some ⟨C.mb,0,none⟩)):=aA X1.o (i:=0) rfl
 have i0:(a:Int)<(p.L.length:Int):=by omega
 have i00:(0:Int)<=(a:Int):=by omega
 have F1:Hid (Fr (cG C.mb C.mo C.mp) w w1):=aD (Fr.of_below B1.o)
 have HC1:=aD HCS.o
 rw [ho] at c0
 have h00:((pl:Int)==(s.size:Int))=false:=by rw [f8];omega
 go_wp2_with fail
 go_end0
 exact⟨rfl,M1.o,F1.o⟩
theorem rV(H:LdH w rb p s A B st C X a i)(n2:i.op≠2)(n3:i.op≠3)(n6:i.op≠6)(n7:i.op≠7)(n4:i.op≠4)(n5:i.op≠5):Calls Try.prog 40 #[.pointer (some ⟨rb,0,none⟩),crV C p.L.length,.int .i64 (a:Int),.int .i64 (pl:Int)] w (LdQ C p.L.length X [] w):=by
 obtain⟨g,o,hq,hg,hno,hcs⟩:=H.q
 have hal:=(f7.1 H.hi).1
 have hn:=H.n
 have B1:Hid (wBl w (w.alloc (.cells #[.pointer (some ⟨C.mb,0,none⟩),.slice (some ⟨C.gb,0,none⟩) p.L.length p.L.length] 54))):=bz9
 have X1:Hid ((w.alloc (.cells #[.pointer (some ⟨C.mb,0,none⟩),.slice (some ⟨C.gb,0,none⟩) p.L.length p.L.length] 54)).heap[w.heap.size]?=some (.cells #[.pointer (some ⟨C.mb,0,none⟩),.slice (some ⟨C.gb,0,none⟩) p.L.length p.L.length] 54 (0,0))):=aE w _
 have hlt:=aD H.c.ltb
 have hlt2:=aD H.c.lto
 have hlt3:=aD H.c.ltp
 have M1:=aD (H.c.kept B1.o)
 have R1:=aD ((B1.o.block _ (aC H.r)).trans H.r)
 have hcs:=aR hcs (B1.o.block _ hg)
 have HCS:=aD hcs
 have HNO:=aD hno
 clear H hcs hno
 go_enter Try.func40,Try.ntmps40
 go_upto_region 1 with fail
 generalize (w.alloc (.cells #[.pointer (some ⟨C.mb,0,none⟩),.slice (some ⟨C.gb,0,none⟩) p.L.length p.L.length] 54))=w1 at B1 X1 M1 R1 HCS ⊢
 have no:Hid (¬ cG C.mb C.mo C.mp w.heap.size):=aD (fun q=>by have h1:=hlt.o;have h2:=hlt2.o;have h3:=hlt3.o;rcases q with q | q | q <;> omega)
 have y0:w1.cell? ⟨rb,0,none⟩=some (.slice p.q p.L.length p.c):=aA R1.o (i:=0) rfl
 have y1:w1.cell? ⟨rb,1,none⟩=some (.string s):=aA R1.o (i:=1) rfl
 rw [hq] at y0
 have c0:w1.cell? ⟨g,o+a*10,none⟩=some (.int .i64 i.op):=HCS.o 0 _ rfl
 have k0:w1.cell? ⟨w.heap.size,0,none⟩=some (.pointer (some ⟨C.mb,0,none⟩)):=aA X1.o (i:=0) rfl
 have i0:(a:Int)<(p.L.length:Int):=by omega
 have i00:(0:Int)<=(a:Int):=by omega
 have F1:Hid (Fr (cG C.mb C.mo C.mp) w w1):=aD (Fr.of_below B1.o)
 have HC1:=aD HCS.o
 obtain⟨oo,hoo⟩:∃ oo,i.op=oo:=⟨_,rfl⟩
 rw [hoo] at c0 n2 n3 n4 n5 n6 n7
 have e2:(oo==2)=false:=by rw [f8];exact n2
 have e3:(oo==3)=false:=by rw [f8];exact n3
 have e4:(oo==4)=false:=by rw [f8];exact n4
 have e5:(oo==5)=false:=by rw [f8];exact n5
 have e6:(oo==6)=false:=by rw [f8];exact n6
 have e7:(oo==7)=false:=by rw [f8];exact n7
 clear n2 n3 n4 n5 n6 n7 hoo
 go_wp2_with fail
 go_end0
 exact⟨rfl,M1.o,F1.o⟩
theorem tG(H:LdH w rb p s A B st C X a i):Calls Try.prog 40 #[.pointer (some ⟨rb,0,none⟩),crV C p.L.length,.int .i64 (a:Int),.int .i64 (pl:Int)] w (LdQ C p.L.length X (cH (sL s) i (a:Int) pl) w):=by
 unfold cH cV
 rw [cJ]
 by_cases h2:i.op=2
 ·rw [if_pos h2];exact tK H h2
 rw [if_neg h2]
 by_cases h3:i.op=3
 ·rw [if_pos h3];exact tJ H h3
 rw [if_neg h3]
 by_cases h6:i.op=6
 ·rw [if_pos (.inl h6)];exact tI H h6
 by_cases h7:i.op=7
 ·rw [if_pos (.inr h7)];exact tH H h7
 rw [if_neg (fun q=>q.elim h6 h7)]
 by_cases h4:i.op=4
 ·rw [if_pos h4]
  by_cases h0:pl=0
  ·rw [j6 h0,if_pos rfl];exact rY H h4 h0
  ·rw [j5 h0,if_neg (by decide)];exact rZ H h4 h0
 rw [if_neg h4]
 by_cases h5:i.op=5
 ·rw [if_pos h5]
  by_cases h0:pl=s.size
  ·rw [j6 h0,if_pos rfl];exact rW H h5 h0
  ·rw [j5 h0,if_neg (by decide)];exact rX H h5 h0
 rw [if_neg h5]
 exact rV H h2 h3 h6 h7 h4 h5
end
end
section
attribute [local go_sem] Oper.semAt_some
structure EnH(w:World)(rb:Nat)(p:Pg)(s:ByteArray)(A B:Cr4)(st:Int)(C:Cr4)(X l:List Int)(x:Int):Prop where
 r:cW w rb p s A B st
 c:CrB w C p.L.length X l
 gp:GP p.L
 li:LI w p.q p.L
 no:∀ g o,p.q=some ⟨g,o,none⟩->¬ aK C g
 nr:¬ aK C rb
 x0:0<=x
 x1:x<p.L.length
def EnR(P:List Ins)(s:List UInt8)(C:Cr4)(X l:List Int)(pl:Nat)(x b:Int)(w:World)(e:Ending)(w':World):Prop:=
 ∃ N l',e=.returned (.tuple #[])/\CrB w' C P.length (X++N) l'/\EnQ P s pl X N x/\(∀ y∈N,bF l' y=b)/\(∀ y∈X,bF l' y=bF l y)/\Fr (aK C) w w'
theorem CrB.store{w:World}{C:Cr4}{room:Nat}{X l:List Int}(h:CrB w C room X l)(y:Nat)(b:Int):CrB (w.setCell ⟨C.gb,y,none⟩ (.int .i64 b)) C room X (l.set y b):=by
 have hb:=h.bg
 refine⟨h.m.same (Below.heap_setCell _ _ _ _ hb) (Below.heap_setCell _ _ _ _ (Ne.symm h.no.1)) (Below.heap_setCell _ _ _ _ (Ne.symm h.no.2)),?_,by simpa using h.len,h.no⟩
 rw [aG h.g]
 simp [bO,List.map_set]
theorem CrB.cell{w:World}{C:Cr4}{room:Nat}{X l:List Int}(h:CrB w C room X l){y:Nat}(hy:y<room):w.cell? ⟨C.gb,y,none⟩=some (.int .i64 (bF l (y:Int))):=by
 have hl:=h.len
 have hx:l[y]?=some (bF l (y:Int)):=by
  unfold bF
  rw [k4,j4 (show y<l.length by omega)]
  rfl
 have e:=dJ hx
 simp [World.cell?,h.g,e]
theorem CrB.fz{w:World}{C:Cr4}{room:Nat}{X l:List Int}(h:CrB w C room X l)(y:Nat):w.frozen? ⟨C.gb,y,none⟩=false:=by simp [World.frozen?,h.g]
theorem eE{w:World}{rb:Nat}{p:Pg}{s:ByteArray}{A B:Cr4}{st:Int}{C:Cr4}{X l:List Int}{x b plI:Int}{pl:Nat}(H:EnH w rb p s A B st C X l x)(hpl:plI=(pl:Int)) :
  Calls Try.prog 27 #[.pointer (some ⟨rb,0,none⟩),crV C p.L.length,.int .i64 x,.int .i64 plI,.int .i64 b] w (EnR p.L (sL s) C X l pl x b w):=by
 subst hpl
 have hn:=H.gp.len
 have B1:Hid (wBl w (w.alloc (.cells #[.pointer (some ⟨C.mb,0,none⟩),.slice (some ⟨C.gb,0,none⟩) p.L.length p.L.length] 54))):=bz9
 have X1:Hid ((w.alloc (.cells #[.pointer (some ⟨C.mb,0,none⟩),.slice (some ⟨C.gb,0,none⟩) p.L.length p.L.length] 54)).heap[w.heap.size]?=some (.cells #[.pointer (some ⟨C.mb,0,none⟩),.slice (some ⟨C.gb,0,none⟩) p.L.length p.L.length] 54 (0,0))):=aE w _
 have hlt:=aD H.c.lt
 have hrl:=aC H.r
 have C1:=aD (H.c.kept B1.o)
 have R1:=aD ((B1.o.block _ (aC H.r)).trans H.r)
 have L1:=aD (H.li.kept B1.o)
 have HH:=aD H
 have kn:Hid (¬ aK C w.heap.size):=aD (fun q=>by have:=hlt.o _ q;omega)
 clear H
 go_enter Try.func27,Try.ntmps27
 go_upto_region 1 with fail
 generalize (w.alloc (.cells #[.pointer (some ⟨C.mb,0,none⟩),.slice (some ⟨C.gb,0,none⟩) p.L.length p.L.length] 54))=w1 at B1 X1 C1 R1 L1 ⊢
 have k0:w1.cell? ⟨w.heap.size,0,none⟩=some (.pointer (some ⟨C.mb,0,none⟩)):=aA X1.o (i:=0) rfl
 have LN1:=aD (dC C1.o.m)
 have l1:=aC X1.o
 go_wp2_with first
  |(go_at_call 28;(with_reducible refine(LN1.o).mono ?_);rintro e w2 ⟨rfl,h2⟩;subst w2)
  |(go_at_call 39;(with_reducible refine(dW C1.o.m _).mono ?_);rintro e w4 ⟨rfl,h41,h42⟩;have M4:=aD h41;have F4:=aD h42;clear h41 h42)
 obtain⟨N0,hN0,hI0⟩:=pC (P:=p.L) (s:=sL s) (pl:=pl) (X:=X) (n:=p.L.length) (l0:=l) (b:=b) HH.o.x0 HH.o.x1
 have C4:Hid (CrB w4 C p.L.length (X++N0) l):=aD (by
  have h1:=M4.o
  rw [hN0] at h1
  exact⟨h1,(F4.o.block _ (aC C1.o.g) (fun q=>by
   rcases q with q | q | q
   ·exact C1.o.bg q.symm
   ·exact C1.o.no.1 q
   ·exact C1.o.no.2 q)).trans C1.o.g,C1.o.len,C1.o.no⟩)
 have F4c:Hid (Fr (aK C) w1 w4):=aD ⟨F4.o.os,F4.o.tape,F4.o.output,F4.o.size,fun i h1 h2=>F4.o.block i h1 (fun q=>h2 (.inl q))⟩
 have HI0:=aD hI0
 clear hN0 hI0 M4 k0 LN1
 go_loopw [10] (fun i wr=>∃ (k:Nat) (N Z l1:List Int),i=.int .i64 (k:Int)/\k<=Z.length/\X++N=Z/\CrB wr C p.L.length Z l1/\EnI p.L (sL s) pl X N x k l l1 b/\Fr (aK C) w1 wr) (fun i _=>p.L.length+1-(intOf i).toNat)
 case atStart=>exact⟨X.length,N0,X++N0,l,rfl,by simp,rfl,C4.o,HI0.o,F4c.o⟩
 case round=>
  obtain⟨k,N,Z,lc,rfl,hk,hZ,hC,hI,hF⟩:=hrel
  have C0:=aD hC
  have I0:=aD hI
  have F0:=aD hF
  have HZ:=aD hZ
  have hzl:=hC.m.len
  have LN:=aD (dC hC.m)
  have XW:=aD ((hF.block _ l1 kn.o).trans X1.o)
  have RW:=aD ((hF.block _ (aC R1.o) HH.o.nr).trans R1.o)
  have LW:=aD (L1.o.same (fun g o hq hg=>hF.block g hg (HH.o.no g o hq)) hF.size)
  clear hC hI hF hZ HI0 C4
  by_cases hkl:k<Z.length
  ·have i0:(k:Int)<(Z.length:Int):=by omega
   obtain⟨y,hy⟩:∃ y,Z[k]?=some y:=⟨_,j4 hkl⟩
   obtain⟨hy0,hy1⟩:=C0.o.m.inr (j8 hy)
   obtain⟨y,rfl⟩:∃ y':Nat,y=(y':Int):=⟨y.toNat,by omega⟩
   have hyl:y<p.L.length:=by omega
   have AT:Hid (Calls Try.prog 29 #[.pointer (some ⟨C.mb,0,none⟩),.int .i64 (k:Int)] wr fun e w'=>e=.returned (.tuple #[.int .i64 (y:Int),.bool true])/\w'=wr):=by
    have:=sG C0.o.m (k:Int)
    rw [show atV Z (k:Int)=(y:Int) by unfold atV;rw [if_pos ⟨by omega,by omega⟩,k4,hy];rfl,show atB Z (k:Int)=true from j6 ⟨by omega,by omega⟩] at this
    exact this
   obtain⟨i,hi⟩:∃ i,p.L[y]?=some i:=⟨_,j4 hyl⟩
   have y0:wr.cell? ⟨w.heap.size,0,none⟩=some (.pointer (some ⟨C.mb,0,none⟩)):=aA XW.o (i:=0) rfl
   have y1:wr.cell? ⟨w.heap.size,1,none⟩=some (.slice (some ⟨C.gb,0,none⟩) p.L.length p.L.length):=aA XW.o (i:=1) rfl
   have cg:=C0.o.cell hyl
   have fg:=C0.o.fz y
   have j0:(y:Int)<(p.L.length:Int):=by omega
   have j1:(0:Int)<=(y:Int):=by omega
   have C6:=aD (C0.o.store y b)
   have F6:Hid (Fr (aK C) wr (wr.setCell ⟨C.gb,y,none⟩ (.int .i64 b))):=(Fr.refl (aK C) wr).setCell (p:=⟨C.gb,y,none⟩) (.inr rfl) _
   have HY:=aD hy
   have HI:=aD hi
   clear hy hi hy0 hy1
   go_upto_region 7 with first
    |(go_at_call 28;(with_reducible refine(LN.o).mono ?_);rintro e w5 ⟨rfl,h5⟩;subst w5)
    |(go_at_call 29;(with_reducible refine(AT.o).mono ?_);rintro e w5 ⟨rfl,h5⟩;subst w5)
   clear cg fg y0 y1
   generalize (wr.setCell ⟨C.gb,y,none⟩ (.int .i64 b))=V at C6 F6 ⊢
   have FV:=aD (F0.o.trans F6.o)
   have XV:=aD ((FV.o.block _ l1 kn.o).trans X1.o)
   have RV:=aD ((FV.o.block _ (aC R1.o) HH.o.nr).trans R1.o)
   have LV:=aD (L1.o.same (fun g o hq hg=>FV.o.block g hg (HH.o.no g o hq)) FV.o.size)
   have z0:V.cell? ⟨w.heap.size,0,none⟩=some (.pointer (some ⟨C.mb,0,none⟩)):=aA XV.o (i:=0) rfl
   have z1:V.cell? ⟨w.heap.size,1,none⟩=some (.slice (some ⟨C.gb,0,none⟩) p.L.length p.L.length):=aA XV.o (i:=1) rfl
   have LD:=aD (tG (pl:=pl) (show LdH V rb p s A B st C Z y i from ⟨RV.o,C6.o.m,hn,HI.o,by
    obtain⟨g,o,h1,h2,h3⟩:=LV.o y i HI.o
    exact⟨g,o,h1,h2,fun q=>HH.o.no g o h1 (.inl q),h3⟩⟩))
   have ST:=qM (n:=p.L.length) I0.o (y:=(y:Int)) (i:=i) (by rw [HZ.o];exact HY.o) (by rw [k4];exact HI.o) (fun z hz=>HH.o.gp.eps y i HI.o _ _ z hz) (by rw [HZ.o];exact C6.o.m.nodup) (by rw [HZ.o];exact fun z hz=>(C6.o.m.inr hz).1) (by rw [k4,C0.o.len];exact hyl)
   obtain⟨N',hN',hI'⟩:=ST
   rw [HZ.o] at hN'
   rw [k4] at hI'
   have HN':=aD hN'
   have HI':=aD hI'
   clear hN' hI'
   go_wp2_with (go_at_call 40;(with_reducible refine(LD.o).mono ?_);rintro e w7 ⟨rfl,h71,h72⟩;have M7:=aD h71;have F7:=aD h72;clear h71 h72)
   have C7:Hid (CrB w7 C p.L.length (X++N') (lc.set y b)):=aD (by
    have h1:=M7.o
    rw [HN'.o] at h1
    exact⟨h1,(F7.o.block _ (aC C6.o.g) (fun q=>by
     rcases q with q | q | q
     ·exact C6.o.bg q.symm
     ·exact C6.o.no.1 q
     ·exact C6.o.no.2 q)).trans C6.o.g,C6.o.len,C6.o.no⟩)
   have F7c:Hid (Fr (aK C) w1 w7):=aD (FV.o.trans ⟨F7.o.os,F7.o.tape,F7.o.output,F7.o.size,fun i h1 h2=>F7.o.block i h1 (fun q=>h2 (.inl q))⟩)
   go_roundw
   case rel=>exact⟨k+1,N',X++N',lc.set y b,by go_num,HI'.o.hi,rfl,C7.o,HI'.o,F7c.o⟩
   case measure=>simp only [intOf];omega
  ·have i0:¬ (k:Int)<(Z.length:Int):=by omega
   have y0:wr.cell? ⟨w.heap.size,0,none⟩=some (.pointer (some ⟨C.mb,0,none⟩)):=aA XW.o (i:=0) rfl
   go_wp2_with (go_at_call 28;(with_reducible refine(LN.o).mono ?_);rintro e w5 ⟨rfl,h5⟩;subst w5)
   go_end0
   obtain⟨q1,q2,q3⟩:=sF I0.o (by rw [HZ.o];omega)
   refine⟨N,lc,rfl,by rw [HZ.o];exact C0.o,q1,q2,q3,(Fr.of_below B1.o).trans F0.o⟩
end
section
attribute [local go_sem] Oper.semAt_some bI
def tkB(i:Ins)(s:ByteArray)(pl:Nat):Bool:=i.op==1&&(match (sL s)[pl]? with | some c=>aO i.s (c.toNat:Int) | none=>false)
section
variable {w:World} {rb:Nat} {p:Pg} {s:ByteArray} {A B:Cr4} {st:Int} {a pl:Nat} {i:Ins}
theorem pH(hr:cW w rb p s A B st)(hli:LI w p.q p.L)(hi:p.L[a]?=some i)(ho:(i.op==1)=false):Calls Try.prog 30 #[.pointer (some ⟨rb,0,none⟩),.int .i64 (a:Int),.int .i64 (pl:Int)] w fun e w'=>e=.returned (.bool false)/\wBl w w':=by
 obtain⟨g,o,hq,hg,c0,c1,c2,c3,c4,c5,c6,c7,c8,c9⟩:=hli.ten hi
 have lr:=aC hr
 have y0:w.cell? ⟨rb,0,none⟩=some (.slice p.q p.L.length p.c):=aA hr (i:=0) rfl
 have hal:=(f7.1 hi).1
 have i0:(a:Int)<(p.L.length:Int):=by omega
 have i00:(0:Int)<=(a:Int):=by omega
 rw [hq] at y0
 obtain⟨oo,hoo⟩:∃ oo,i.op=oo:=⟨_,rfl⟩
 rw [hoo] at c0 ho
 clear hi hr hli hoo
 go_enter Try.func30,Try.ntmps30
 go_upto_region 2 with fail
 refine wx9 ?_
 repeat (go_big_quiet_step (first | exact rfl))
 refine wpQuiet_nil ?_
 rintro _ ⟨x,rfl⟩
 go_wp2
 go_ret
 exact⟨rfl,x.2⟩
theorem lJ(hr:cW w rb p s A B st)(hli:LI w p.q p.L)(hi:p.L[a]?=some i)(ho:i.op=1)(hpl:¬ pl<s.size):Calls Try.prog 30 #[.pointer (some ⟨rb,0,none⟩),.int .i64 (a:Int),.int .i64 (pl:Int)] w fun e w'=>e=.returned (.bool false)/\wBl w w':=by
 obtain⟨g,o,hq,hg,c0,c1,c2,c3,c4,c5,c6,c7,c8,c9⟩:=hli.ten hi
 have lr:=aC hr
 have y0:w.cell? ⟨rb,0,none⟩=some (.slice p.q p.L.length p.c):=aA hr (i:=0) rfl
 have y1:w.cell? ⟨rb,1,none⟩=some (.string s):=aA hr (i:=1) rfl
 have hal:=(f7.1 hi).1
 have i0:(a:Int)<(p.L.length:Int):=by omega
 have i00:(0:Int)<=(a:Int):=by omega
 have j0:decide ((pl:Int)<(s.size:Int))=false:=j5 (by omega)
 have j1:decide (pl<s.size)=false:=j5 (by omega)
 rw [hq] at y0
 rw [ho] at c0
 clear hi hr hli
 go_enter Try.func30,Try.ntmps30
 go_upto_region 2 with fail
 refine wx9 ?_
 repeat (go_big_quiet_step (first | exact rfl))
 refine wpQuiet_nil ?_
 rintro _ ⟨x,rfl⟩
 go_wp2
 go_ret
 exact⟨rfl,x.2⟩
theorem iQ(hr:cW w rb p s A B st)(hli:LI w p.q p.L)(hi:p.L[a]?=some i)(ho:i.op=1){c:UInt8}(hc:(sL s)[pl]?=some c):Calls Try.prog 30 #[.pointer (some ⟨rb,0,none⟩),.int .i64 (a:Int),.int .i64 (pl:Int)] w fun e w'=>e=.returned (.bool (aO i.s (c.toNat:Int)))/\wBl w w':=by
 obtain⟨g,o,hq,hg,c0,c1,c2,c3,c4,c5,c6,c7,c8,c9⟩:=hli.ten hi
 have lr:=aC hr
 have y0:w.cell? ⟨rb,0,none⟩=some (.slice p.q p.L.length p.c):=aA hr (i:=0) rfl
 have y1:w.cell? ⟨rb,1,none⟩=some (.string s):=aA hr (i:=1) rfl
 have hal:=(f7.1 hi).1
 have hpl:pl<s.size:=by have:=(f7.1 hc).1;rw [cJ] at this;exact this
 have i0:(a:Int)<(p.L.length:Int):=by omega
 have i00:(0:Int)<=(a:Int):=by omega
 have j0:(pl:Int)<(s.size:Int):=by omega
 have j00:(0:Int)<=(pl:Int):=by omega
 rw [hq] at y0
 rw [ho] at c0
 have EV:Hid (wrap64 ((s[pl]'hpl).toNat:Int)=(c.toNat:Int)):=aD (by
  have e1:s[pl]'hpl=c:=(f7.1 hc).2
  rw [e1]
  have hc8:c.toNat<256:=c.toNat_lt
  unfold wrap64
  omega)
 have HX:=aD (fun W=>iK i.s (wrap64 ((s[pl]'hpl).toNat:Int)) W)
 clear hi hr hli hc
 go_enter Try.func30,Try.ntmps30
 go_upto_region 2 with fail
 refine wx9 ?_
 repeat (go_big_quiet_step (first | exact rfl |(go_at_call 41;(with_reducible exact bJ (HX.o _)))))
 refine wpQuiet_nil ?_
 rintro _ ⟨x,rfl⟩
 go_wp2
 go_ret
 exact⟨by rw [EV.o];rfl,x.2⟩
theorem kP(hr:cW w rb p s A B st)(hli:LI w p.q p.L)(hi:p.L[a]?=some i):Calls Try.prog 30 #[.pointer (some ⟨rb,0,none⟩),.int .i64 (a:Int),.int .i64 (pl:Int)] w fun e w'=>e=.returned (.bool (tkB i s pl))/\wBl w w':=by
 by_cases ho:i.op=1
 ·have h1:(i.op==1)=true:=by rw [ho];rfl
  cases hc:(sL s)[pl]? with
  | none=>
   have:tkB i s pl=false:=by unfold tkB;rw [hc,h1];rfl
   rw [this]
   exact lJ hr hli hi ho (fun q=>by rw [<- cJ] at q;rw [j4 q] at hc;cases hc)
  | some c=>
   have:tkB i s pl=aO i.s (c.toNat:Int):=by unfold tkB;rw [hc,h1];rfl
   rw [this]
   exact iQ hr hli hi ho hc
 ·have h1:(i.op==1)=false:=by rw [f8];exact ho
  have:tkB i s pl=false:=by unfold tkB;rw [h1];rfl
  rw [this]
  exact pH hr hli hi h1
end
end
section
structure PlW(W0:World)(own:Nat->Prop)(rb pb:Nat)(p:Pg)(s:ByteArray)(A B:Cr4)(st:Int)(X l Y m:List Int)(F T:Int)(wr:World):Prop where
 hr:cW wr rb p s A B st
 ha:CrB wr A p.L.length X l
 hb:CrB wr B p.L.length Y m
 li:LI wr p.q p.L
 hp:wr.heap[pb]?=some (.cells #[.int .i64 F,.int .i64 T] 37 (0,0))
 fr:Fr own W0 wr
 oa:∀ k,aK A k->own k
 ob:∀ k,aK B k->own k
 orb:own rb
 opb:own pb
 ab:∀ k,aK A k->¬ aK B k
 no:∀ g o,p.q=some ⟨g,o,none⟩->¬ own g
 ra:¬ aK A rb
 rb1:¬ aK B rb
 pa:¬ aK A pb
 pb1:¬ aK B pb
 rp:rb≠pb
section
variable {W0 wr w':World} {own:Nat->Prop} {rb pb:Nat} {p:Pg} {s:ByteArray} {A B:Cr4} {st st':Int} {X l Y m X' l' Y' m':List Int} {F T F' T':Int}
theorem PlW.upd(h:PlW W0 own rb pb p s A B st X l Y m F T wr){S:Nat->Prop}(hf:Fr S wr w')(hs:∀ k,S k->own k)(r:cW w' rb p s A B st')(a:CrB w' A p.L.length X' l')(b:CrB w' B p.L.length Y' m')(q:w'.heap[pb]?=some (.cells #[.int .i64 F',.int .i64 T'] 37 (0,0))):PlW W0 own rb pb p s A B st' X' l' Y' m' F' T' w':=
 ⟨r,a,b,h.li.same (fun g o hq hg=>hf.block g hg (fun z=>h.no g o hq (hs g z))) hf.size,q,h.fr.trans ⟨hf.os,hf.tape,hf.output,hf.size,fun i h1 h2=>hf.block i h1 (fun z=>h2 (hs i z))⟩,h.oa,h.ob,h.orb,h.opb,h.ab,h.no,h.ra,h.rb1,h.pa,h.pb1,h.rp⟩
theorem PlW.below(h:PlW W0 own rb pb p s A B st X l Y m F T wr)(hb:wBl wr w'):PlW W0 own rb pb p s A B st X l Y m F T w':=
 h.upd (S:=fun _=>False) (Fr.of_below hb) (fun _ q=>q.elim) ((hb.block _ (aC h.hr)).trans h.hr) (h.ha.kept hb) (h.hb.kept hb) ((hb.block _ (aC h.hp)).trans h.hp)
theorem PlW.run(h:PlW W0 own rb pb p s A B st X l Y m F T wr)(hf:Fr (fun k=>k=rb) wr w')(r:cW w' rb p s A B st'):PlW W0 own rb pb p s A B st' X l Y m F T w':=
 h.upd hf (fun _ q=>q ▸ h.orb) r (h.ha.fr hf (fun _ q e=>h.ra (e ▸ q))) (h.hb.fr hf (fun _ q e=>h.rb1 (e ▸ q))) ((hf.block _ (aC h.hp) (fun e=>h.rp e.symm)).trans h.hp)
theorem PlW.swap(h:PlW W0 own rb pb p s A B st X l Y m F T wr)(hf:Fr (fun k=>k=rb) wr w')(r:cW w' rb p s B A st):PlW W0 own rb pb p s B A st Y m X l F T w':=by
 have ha:=h.ha.fr hf (fun _ q e=>h.ra (e ▸ q))
 have hb:=h.hb.fr hf (fun _ q e=>h.rb1 (e ▸ q))
 exact⟨r,hb,ha,h.li.same (fun g o hq hg=>hf.block g hg (fun z=>h.no g o hq (z ▸ h.orb))) hf.size,(hf.block _ (aC h.hp) (fun e=>h.rp e.symm)).trans h.hp,h.fr.trans ⟨hf.os,hf.tape,hf.output,hf.size,fun i h1 h2=>hf.block i h1 (fun z=>h2 (z ▸ h.orb))⟩,h.ob,h.oa,h.orb,h.opb,fun k q1 q2=>h.ab k q2 q1,h.no,h.rb1,h.ra,h.pb1,h.pa,h.rp⟩
theorem PlW.clearB(h:PlW W0 own rb pb p s A B st X l Y m F T wr)(hm:MAt w' B.mb B.mo B.mp p.L.length [])(hf:Fr (cG B.mb B.mo B.mp) wr w'):PlW W0 own rb pb p s A B st X l [] m F T w':=
 h.upd hf (fun k q=>h.ob k (.inl q)) ((hf.block _ (aC h.hr) (fun q=>h.rb1 (.inl q))).trans h.hr) (h.ha.fr hf (fun k q e=>h.ab k q (.inl e))) (h.hb.clear hm hf) ((hf.block _ (aC h.hp) (fun q=>h.pb1 (.inl q))).trans h.hp)
theorem PlW.setA(h:PlW W0 own rb pb p s A B st X l Y m F T wr)(hc:CrB w' A p.L.length X' l')(hf:Fr (aK A) wr w'):PlW W0 own rb pb p s A B st X' l' Y m F T w':=
 h.upd hf h.oa ((hf.block _ (aC h.hr) h.ra).trans h.hr) hc (h.hb.fr hf (fun k q e=>h.ab k e q)) ((hf.block _ (aC h.hp) h.pa).trans h.hp)
theorem PlW.setB(h:PlW W0 own rb pb p s A B st X l Y m F T wr)(hc:CrB w' B p.L.length Y' m')(hf:Fr (aK B) wr w'):PlW W0 own rb pb p s A B st X l Y' m' F T w':=
 h.upd hf h.ob ((hf.block _ (aC h.hr) h.rb1).trans h.hr) (h.ha.fr hf (fun k q e=>h.ab k q e)) hc ((hf.block _ (aC h.hp) h.pb1).trans h.hp)
theorem PlW.part(h:PlW W0 own rb pb p s A B st X l Y m F T wr)(F' T':Int):PlW W0 own rb pb p s A B st X l Y m F' T' ((wr.setCell ⟨pb,0,none⟩ (.int .i64 F')).setCell ⟨pb,1,none⟩ (.int .i64 T')):=by
 have hf:Fr (fun k=>k=pb) wr ((wr.setCell ⟨pb,0,none⟩ (.int .i64 F')).setCell ⟨pb,1,none⟩ (.int .i64 T')):=((Fr.refl (fun k=>k=pb) _).setCell (p:=⟨pb,0,none⟩) rfl _).setCell (p:=⟨pb,1,none⟩) rfl _
 exact h.upd hf (fun _ q=>q ▸ h.opb) ((hf.block _ (aC h.hr) h.rp).trans h.hr) (h.ha.fr hf (fun _ q e=>h.pa (e ▸ q))) (h.hb.fr hf (fun _ q e=>h.pb1 (e ▸ q))) (aG (aG h.hp 0 _) 1 _)
theorem PlW.enA(h:PlW W0 own rb pb p s A B st X l Y m F T wr)(gp:GP p.L){x:Int}(h0:0<=x)(h1:x<p.L.length):EnH wr rb p s A B st A X l x:=⟨h.hr,h.ha,gp,h.li,fun g o hq q=>h.no g o hq (h.oa g q),h.ra,h0,h1⟩
theorem PlW.enB(h:PlW W0 own rb pb p s A B st X l Y m F T wr)(gp:GP p.L){x:Int}(h0:0<=x)(h1:x<p.L.length):EnH wr rb p s A B st B Y m x:=⟨h.hr,h.hb,gp,h.li,fun g o hq q=>h.no g o hq (h.ob g q),h.rb1,h0,h1⟩
end
end
section
attribute [local go_sem] Oper.semAt_some
structure PlI(w:World)(rb:Nat)(p:Pg)(s:ByteArray)(A B:Cr4)(la lb:List Int):Prop where
 hr:cW w rb p s A B 0
 ha:CrB w A p.L.length [] la
 hb:CrB w B p.L.length [] lb
 gp:GP p.L
 li:LI w p.q p.L
 ab:∀ k,aK A k->¬ aK B k
 ra:¬ aK A rb
 rb1:¬ aK B rb
 no:∀ g o,p.q=some ⟨g,o,none⟩->g<w.heap.size/\g≠rb/\¬ aK A g/\¬ aK B g
def SB(m f pl n:Nat)(st:Int):Prop:=n<=1000000000->m<=40000->0<=st/\st<=(m:Int)*((pl-f:Nat):Int)
theorem pP(m f n:Nat):SB m f f n 0:=fun _ _=>by simp
theorem pO{m f pl pl' n:Nat}{st:Int}(h:SB m f pl n st)(hp:pl<=pl'):SB m f pl' n st:=fun h1 h2=>by
 obtain⟨a,b⟩:=h h1 h2
 refine⟨a,Int.le_trans b (Int.mul_le_mul_of_nonneg_left (by omega) (by omega))⟩
theorem kS{m f pl n x:Nat}{st:Int}(h:SB m f pl n st)(hf:f<=pl)(hp:pl<=n)(hx:x<=m):SB m f (pl+1) n (IntKind.wrap .i64 (st+(x:Int))):=fun h1 h2=>by
 obtain⟨a,b⟩:=h h1 h2
 have e:((pl+1-f:Nat):Int)=((pl-f:Nat):Int)+1:=by omega
 have q:(m:Int)*((pl-f:Nat):Int)<=40000*1000000000:=Int.mul_le_mul (by omega) (by omega) (by omega) (by omega)
 rw [wrap_small _ (by omega) (by omega),e,Int.mul_add,Int.mul_one]
 omega
def PlR(P:List Ins)(s:ByteArray)(first last:Nat)(rb:Nat)(w:World)(own:Nat->Prop)(p:Pg)(e:Ending)(w':World):Prop:=
 ∃ fd F T,e=.returned (.tuple #[.agg #[.int .i64 F,.int .i64 T],.bool fd])/\dT P (sL s) first last fd F T/\(∃ A B st,cW w' rb p s A B st/\SB p.L.length first (s.size+1) s.size st)/\Fr own w w'
section
variable {w W0 wr w':World} {own:Nat->Prop} {rb pb ob first last:Nat} {p:Pg} {s:ByteArray} {A B A0 B0:Cr4} {st:Int} {X l Y m la lb:List Int} {F T:Int} {fd:Bool}
theorem gT(H:PlI w rb p s A B la lb)(hB:wBl w W0)(hp:W0.heap[w.heap.size+1]?=some (.cells #[.int .i64 0,.int .i64 0] 37 (0,0)))(hpb:w.heap.size+1=pb):PlW W0 (fun k=>aK A k\/aK B k\/k=rb\/k=pb) rb pb p s A B 0 [] la [] lb 0 0 W0:=by
 subst hpb
 have la':=H.ha.lt
 have lb':=H.hb.lt
 have lr:=aC H.hr
 refine⟨(hB.block _ lr).trans H.hr,H.ha.kept hB,H.hb.kept hB,H.li.kept hB,hp,Fr.refl _ _,fun k q=>.inl q,fun k q=>.inr (.inl q),.inr (.inr (.inl rfl)),.inr (.inr (.inr rfl)),H.ab,fun g o hq q=>?_,H.ra,H.rb1,fun q=>by have:=la' _ q;omega,fun q=>by have:=lb' _ q;omega,by omega⟩
 obtain⟨h0,h1,h2,h3⟩:=H.no g o hq
 rcases q with q | q | q | q
 ·exact h2 q
 ·exact h3 q
 ·exact h1 q
 ·omega
theorem iF:Cw p.L (sL s) first last first first [] (bF lb) false 0:=⟨fun _ q=>by(cases q),List.Pairwise.nil,fun b a h1 _ h3=>by omega⟩
theorem iA:Fd p.L (sL s) first last first false 0 0:=⟨fun _=>⟨rfl,rfl⟩,fun _ b e h1 _ h3 hm=>by have:=hm.ge;omega,fun q=>by cases q⟩
theorem fD(h:PlW W0 own rb pb p s A B st X l Y m F T wr)(OB:W0.heap[ob]?=some (.cells #[.int .i64 0,.int .i64 0] 37 (0,0)))(hno:¬ own ob):wr.heap[ob]?=some (.cells #[.int .i64 0,.int .i64 0] 37 (0,0)):=(h.fr.block _ (aC OB) hno).trans OB
theorem kF(h:PlW W0 (fun k=>aK A0 k\/aK B0 k\/k=rb\/k=pb) rb pb p s A B st X l Y m F T wr)(hB:wBl w W0)(hob:w.heap.size=ob)(hpb:w.heap.size+1=pb)(hro:rb≠ob)(hf:dT p.L (sL s) first last fd F T)(hsb:SB p.L.length first (s.size+1) s.size st) :
  PlR p.L s first last rb w (fun k=>aK A0 k\/aK B0 k\/k=rb) p (.returned (.tuple #[.agg #[.int .i64 F,.int .i64 T],.bool fd])) ((wr.setCell ⟨ob,0,none⟩ (.int .i64 F)).setCell ⟨ob,1,none⟩ (.int .i64 T)):=by
 have hfr:Fr (fun k=>k=ob) wr ((wr.setCell ⟨ob,0,none⟩ (.int .i64 F)).setCell ⟨ob,1,none⟩ (.int .i64 T)):=((Fr.refl (fun k=>k=ob) _).setCell (p:=⟨ob,0,none⟩) rfl _).setCell (p:=⟨ob,1,none⟩) rfl _
 have h1:Fr (fun k=>aK A0 k\/aK B0 k\/k=rb) w wr:=⟨h.fr.os.trans hB.os,h.fr.tape.trans hB.tape,h.fr.output.trans hB.output,k6 hB.size h.fr.size,fun i hi hn=>(h.fr.block i (j9 hi hB.size) (fun q=>by
  rcases q with q | q | q | q
  ·exact hn (.inl q)
  ·exact hn (.inr (.inl q))
  ·exact hn (.inr (.inr q))
  ·omega)).trans (hB.block i hi)⟩
 refine⟨fd,F,T,rfl,hf,⟨A,B,st,(hfr.block _ (aC h.hr) hro).trans h.hr,hsb⟩,?_⟩
 exact(h1.setNew (p:=⟨ob,0,none⟩) (by show w.heap.size<=ob;omega) _).setNew (p:=⟨ob,1,none⟩) (by show w.heap.size<=ob;omega) _
theorem dH{V:World}(h:cW V rb p s A B st):cW ((((V.setCell ⟨rb,2,none⟩ (.pointer (some ⟨B.mb,0,none⟩))).setCell ⟨rb,3,none⟩ (.slice (some ⟨B.gb,0,none⟩) p.L.length p.L.length)).setCell ⟨rb,4,none⟩ (.pointer (some ⟨A.mb,0,none⟩))).setCell ⟨rb,5,none⟩ (.slice (some ⟨A.gb,0,none⟩) p.L.length p.L.length)) rb p s B A st:=aG (aG (aG (aG h 2 _) 3 _) 4 _) 5 _
theorem eD(V:World)(a b c d:Value):Fr (fun k=>k=rb) V ((((V.setCell ⟨rb,2,none⟩ a).setCell ⟨rb,3,none⟩ b).setCell ⟨rb,4,none⟩ c).setCell ⟨rb,5,none⟩ d):=((((Fr.refl (fun k=>k=rb) _).setCell (p:=⟨rb,2,none⟩) rfl _).setCell (p:=⟨rb,3,none⟩) rfl _).setCell (p:=⟨rb,4,none⟩) rfl _).setCell (p:=⟨rb,5,none⟩) rfl _
end
theorem pW{w:World}{rb:Nat}{p:Pg}{s:ByteArray}{A B:Cr4}{la lb:List Int}{first last:Nat}(H:PlI w rb p s A B la lb)(hfl:first<=last)(hls:last<=s.size)(hsz:s.size<=4611686018427387904) :
  Calls Try.prog 17 #[.pointer (some ⟨rb,0,none⟩),.int .i64 (first:Int),.int .i64 (last:Int)] w (PlR p.L s first last rb w (fun k=>aK A k\/aK B k\/k=rb) p):=by
 have HH:=aD H
 have hn:=H.gp.len
 have lrb:=aC H.hr
 have lA:=aD H.ha.lt
 have lB:=aD H.hb.lt
 clear H
 have B0:Hid (wBl w ((w.alloc (.cells #[.int .i64 0,.int .i64 0] 37)).alloc (.cells #[.int .i64 0,.int .i64 0] 37))):=(bz9).alloc (by simp) _
 have OB:Hid (((w.alloc (.cells #[.int .i64 0,.int .i64 0] 37)).alloc (.cells #[.int .i64 0,.int .i64 0] 37)).heap[w.heap.size]?=some (.cells #[.int .i64 0,.int .i64 0] 37 (0,0))):=(Below.heap_alloc _ _ _ (by simp)).trans (aE w _)
 have PB:Hid (((w.alloc (.cells #[.int .i64 0,.int .i64 0] 37)).alloc (.cells #[.int .i64 0,.int .i64 0] 37)).heap[w.heap.size+1]?=some (.cells #[.int .i64 0,.int .i64 0] 37 (0,0))):=(by
  have:=aE (w.alloc (.cells #[.int .i64 0,.int .i64 0] 37)) (.cells #[.int .i64 0,.int .i64 0] 37)
  rwa [o6] at this)
 go_enter Try.func17,Try.ntmps17
 go_upto_region 1 with fail
 go_step3
 go_upto_region 2 with fail
 generalize ((w.alloc (.cells #[.int .i64 0,.int .i64 0] 37)).alloc (.cells #[.int .i64 0,.int .i64 0] 37))=W0 at B0 OB PB ⊢
 obtain⟨pb,hpb⟩:∃ pb,w.heap.size+1=pb:=⟨_,rfl⟩
 obtain⟨ob,hob⟩:∃ ob,w.heap.size=ob:=⟨_,rfl⟩
 have P0:=aD (gT HH.o B0.o PB.o hpb)
 have HPB:=aD hpb
 have HOB:=aD hob
 have nob:Hid (¬ (aK A ob\/aK B ob\/ob=rb\/ob=pb)):=aD (fun q=>by
  rcases q with q | q | q | q
  ·have:=lA.o _ q;omega
  ·have:=lB.o _ q;omega
  ·omega
  ·omega)
 rw [hob] at OB ⊢
 rw [show ob+1=pb by omega]
 have hro:Hid (rb≠ob):=aD (by omega)
 clear hpb hob PB
 try go_step3
 go_wp2
 go_loopw [9,10] (fun f pv wr=>∃ (pl:Nat) (fd:Bool) (A' B':Cr4) (st:Int) (X l Y m:List Int) (F T:Int),f=.bool fd/\pv=.int .i64 (pl:Int)/\first<=pl/\pl<=s.size+1/\PlW W0 (fun k=>aK A k\/aK B k\/k=rb\/k=pb) rb pb p s A' B' st X l Y m F T wr/\Cw p.L (sL s) first last pl pl Y (bF m) fd F/\Fd p.L (sL s) first last pl fd F T/\SB p.L.length first pl s.size st) (fun f pv _=>s.size+2-(intOf pv).toNat)
 case atStart=>exact⟨first,false,A,B,0,[],la,[],lb,0,0,rfl,rfl,k9 _,by omega,P0.o,iF,iA,pP _ _ _⟩
 case round=>
  obtain⟨pl,fd,A',B',st,X,l,Y,m,F,T,rfl,rfl,hfp,hpl,hP,hC,hD,hSB⟩:=hrel
  have SB1:=aD hSB
  clear hSB
  have P1:=aD hP
  have C1:=aD hC
  have D1:=aD hD
  have y1:wr.cell? ⟨rb,1,none⟩=some (.string s):=aA hP.hr (i:=1) rfl
  clear hP hC hD P0
  by_cases hps:pl<=s.size
  case neg=>
   have i0:¬ (pl:Int)<=(s.size:Int):=by omega
   have OBW:=fD P1.o OB.o nob.o
   have o0:=aA OBW (i:=0) rfl
   have o1:=aA OBW (i:=1) rfl
   have g0:=aH OBW 0
   have g1:=aH OBW 1
   have q0:=aA P1.o.hp (i:=0) rfl
   have q1:=aA P1.o.hp (i:=1) rfl
   have FN:=aD (kF P1.o B0.o HOB.o HPB.o hro.o (kX D1.o (by rw [cJ];exact hls) (by rw [cJ];omega)) (pO SB1.o (by omega)))
   have hz:=aG (aG OBW 0 (.int .i64 F)) 1 (.int .i64 T)
   have k0:=aA hz (i:=0) rfl
   have k1:=aA hz (i:=1) rfl
   clear hz OBW
   go_wp2
   refine bodyPost_ret (v:=.tuple #[.agg #[.int .i64 F,.int .i64 T],.bool fd]) (by simp [results,Try.results17,go_sem,k0,k1]) rfl ?_
   exact FN.o
  case pos=>
   have i0:(pl:Int)<=(s.size:Int):=by omega
   have HFP:=aD hfp
   have HPS:=aD hps
   go_upto_region 5 with fail
   go_cut [35] (fun _ wx=>PlW W0 (fun k=>aK A k\/aK B k\/k=rb\/k=pb) rb pb p s B' A' st Y m X l F T wx)
   case first=>
    have RD:Hid (cW wr.drew rb p s A' B' st):=P1.o.hr
    have PD:Hid (PlW W0 (fun k=>aK A k\/aK B k\/k=rb\/k=pb) rb pb p s A' B' st X l Y m F T wr.drew):=aD (P1.o.below (Below.refl _ _).drew)
    refine wp_region_held_drew (S:=fun _=>True) (by kernel_rfl) trivial ?_
    intro hS0
    generalize wr.drew=V at RD PD ⊢
    have r2:=aA RD.o (i:=2) rfl
    have r3:=aA RD.o (i:=3) rfl
    have r4:=aA RD.o (i:=4) rfl
    have r5:=aA RD.o (i:=5) rfl
    have f2:=aH RD.o 2
    have f3:=aH RD.o 3
    have f4:=aH RD.o 4
    have f5:=aH RD.o 5
    refine wpAnyH_take (i:=0) (oi:=_) (v:=?_) rfl (by kernel_rfl) (by kernel_rfl) (by kernel_rfl) (fun _ _ _ h=>h) (Or.inl ⟨by rfl,?_⟩) (by assumption) ?_
    rotate_left
    ·intro wz hSw
     go_simp
     try with_reducible rfl
    dsimp only [Act.put,i8,g7,g9]
    simp only [f9,i9,j3]
    refine wpAnyH_take (i:=1) (oi:=_) (v:=?_) rfl (by kernel_rfl) (by kernel_rfl) (by kernel_rfl) (fun _ _ _ h=>h) (Or.inl ⟨by rfl,?_⟩) (by assumption) ?_
    rotate_left
    ·intro wz hSw
     go_simp
     try with_reducible rfl
    dsimp only [Act.put,i8,g7,g9]
    simp only [f9,i9,j3]
    refine wpAnyH_take (i:=2) (oi:=_) (v:=?_) rfl (by kernel_rfl) (by kernel_rfl) (by kernel_rfl) (fun _ _ _ h=>h) (Or.inl ⟨by rfl,?_⟩) (by assumption) ?_
    rotate_left
    ·intro wz hSw
     go_simp
     try with_reducible rfl
    dsimp only [Act.put,i8,g7,g9]
    simp only [f9,i9,j3]
    refine wpAnyH_take (i:=3) (oi:=_) (v:=?_) rfl (by kernel_rfl) (by kernel_rfl) (by kernel_rfl) (fun _ _ _ h=>h) (Or.inl ⟨by rfl,?_⟩) (by assumption) ?_
    rotate_left
    ·intro wz hSw
     go_simp
     try with_reducible rfl
    dsimp only [Act.put,i8,g7,g9]
    simp only [f9,i9,j3]
    refine wpAnyH_take (i:=4) (oi:=_) (v:=?_) rfl (by kernel_rfl) (by kernel_rfl) (by kernel_rfl) (fun _ _ _ h=>h) (Or.inl ⟨by rfl,?_⟩) (by assumption) ?_
    rotate_left
    ·intro wz hSw
     go_simp
     try with_reducible rfl
    dsimp only [Act.put,i8,g7,g9]
    simp only [f9,i9,j3]
    refine wpAnyH_take (i:=6) (oi:=_) (v:=?_) rfl (by kernel_rfl) (by kernel_rfl) (by kernel_rfl) (fun _ _ _ h=>h) (Or.inl ⟨by rfl,?_⟩) (by assumption) ?_
    rotate_left
    ·intro wz hSw
     go_simp
     try with_reducible rfl
    dsimp only [Act.put,i8,g7,g9]
    simp only [f9,i9,j3]
    refine wpAnyH_take (i:=7) (oi:=_) (v:=?_) rfl (by kernel_rfl) (by kernel_rfl) (by kernel_rfl) (fun _ _ _ h=>h) (Or.inl ⟨by rfl,?_⟩) (by assumption) ?_
    rotate_left
    ·intro wz hSw
     go_simp
     try with_reducible rfl
    dsimp only [Act.put,i8,g7,g9]
    simp only [f9,i9,j3]
    refine wpAnyH_take (i:=8) (oi:=_) (v:=?_) rfl (by kernel_rfl) (by kernel_rfl) (by kernel_rfl) (fun _ _ _ h=>h) (Or.inl ⟨by rfl,?_⟩) (by assumption) ?_
    rotate_left
    ·intro wz hSw
     go_simp
     try with_reducible rfl
    dsimp only [Act.put,i8,g7,g9]
    simp only [f9,i9,j3]
    refine wpAnyH_ready (rs:=[5,9]) (by kernel_rfl) (by simp) ?_
    refine AllReadyH.cons rfl (fun K hK=>?_) (AllReadyH.cons rfl (fun K hK=>?_) AllReadyH.nil)
    ·go_simp
     refine hK.out _ _ trivial (fun hSx=>?_)
     clear hK K hSx
     refine wpAnyH_ready (rs:=[9]) (by kernel_rfl) (by simp) ?_
     refine AllReadyH.cons rfl (fun K hK=>?_) AllReadyH.nil
     go_simp
     refine hK.out _ _ trivial (fun hSx=>?_)
     clear hK K hSx
     refine wpAnyH_ready (rs:=[10]) (by kernel_rfl) (by simp) ?_
     refine AllReadyH.cons rfl (fun K hK=>?_) AllReadyH.nil
     go_simp
     refine hK.out _ _ trivial (fun hSx=>?_)
     clear hK K hSx
     refine wpAnyH_ready (rs:=[11]) (by kernel_rfl) (by simp) ?_
     refine AllReadyH.cons rfl (fun K hK=>?_) AllReadyH.nil
     go_simp
     refine hK.out _ _ trivial (fun hSx=>?_)
     clear hK K hSx
     refine wpAnyH_ready (rs:=[12]) (by kernel_rfl) (by simp) ?_
     refine AllReadyH.cons rfl (fun K hK=>?_) AllReadyH.nil
     go_simp
     refine hK.out _ _ trivial (fun hSx=>?_)
     clear hK K hSx
     refine wpAnyH_ready (rs:=[13]) (by kernel_rfl) (by simp) ?_
     refine AllReadyH.cons rfl (fun K hK=>?_) AllReadyH.nil
     go_simp
     refine hK.out _ _ trivial (fun hSx=>?_)
     clear hK K hSx
     refine wpAnyH_ready (rs:=[14]) (by kernel_rfl) (by simp) ?_
     refine AllReadyH.cons rfl (fun K hK=>?_) AllReadyH.nil
     go_simp
     refine hK.out _ _ trivial (fun hSx=>?_)
     clear hK K hSx
     refine wpAnyH_ready (rs:=[15]) (by kernel_rfl) (by simp) ?_
     refine AllReadyH.cons rfl (fun K hK=>?_) AllReadyH.nil
     go_simp
     refine hK.out _ _ trivial (fun hSx=>?_)
     clear hK K hSx
     refine wpAnyH_done (by kernel_rfl) ?_ _
     have SW:=aD (PD.o.swap (eD V _ _ _ _) (dH RD.o))
     clear r2 r3 r4 r5 f2 f3 f4 f5
     go_wp2_with fail
     go_meet
     exact SW.o
    ·go_simp
     refine hK.out _ _ trivial (fun hSx=>?_)
     clear hK K hSx
     refine wpAnyH_ready (rs:=[5]) (by kernel_rfl) (by simp) ?_
     refine AllReadyH.cons rfl (fun K hK=>?_) AllReadyH.nil
     go_simp
     refine hK.out _ _ trivial (fun hSx=>?_)
     clear hK K hSx
     refine wpAnyH_ready (rs:=[10]) (by kernel_rfl) (by simp) ?_
     refine AllReadyH.cons rfl (fun K hK=>?_) AllReadyH.nil
     go_simp
     refine hK.out _ _ trivial (fun hSx=>?_)
     clear hK K hSx
     refine wpAnyH_ready (rs:=[11]) (by kernel_rfl) (by simp) ?_
     refine AllReadyH.cons rfl (fun K hK=>?_) AllReadyH.nil
     go_simp
     refine hK.out _ _ trivial (fun hSx=>?_)
     clear hK K hSx
     refine wpAnyH_ready (rs:=[12]) (by kernel_rfl) (by simp) ?_
     refine AllReadyH.cons rfl (fun K hK=>?_) AllReadyH.nil
     go_simp
     refine hK.out _ _ trivial (fun hSx=>?_)
     clear hK K hSx
     refine wpAnyH_ready (rs:=[13]) (by kernel_rfl) (by simp) ?_
     refine AllReadyH.cons rfl (fun K hK=>?_) AllReadyH.nil
     go_simp
     refine hK.out _ _ trivial (fun hSx=>?_)
     clear hK K hSx
     refine wpAnyH_ready (rs:=[14]) (by kernel_rfl) (by simp) ?_
     refine AllReadyH.cons rfl (fun K hK=>?_) AllReadyH.nil
     go_simp
     refine hK.out _ _ trivial (fun hSx=>?_)
     clear hK K hSx
     refine wpAnyH_ready (rs:=[15]) (by kernel_rfl) (by simp) ?_
     refine AllReadyH.cons rfl (fun K hK=>?_) AllReadyH.nil
     go_simp
     refine hK.out _ _ trivial (fun hSx=>?_)
     clear hK K hSx
     refine wpAnyH_done (by kernel_rfl) ?_ _
     have SW:=aD (PD.o.swap (eD V _ _ _ _) (dH RD.o))
     clear r2 r3 r4 r5 f2 f3 f4 f5
     go_wp2_with fail
     go_meet
     exact SW.o
   case rest=>
   have P2:=aD hcut
   clear hcut P1 y1
   have r4:=aA P2.o.hr (i:=4) rfl
   have CL:=aD (lC P2.o.hb.m)
   go_upto_region 7 with (go_at_call 26;(with_reducible refine(CL.o).mono ?_);rintro e w3 ⟨rfl,h1,h2⟩;have P3:=aD (P2.o.clearB h1 h2);clear h1 h2)
   clear r4 CL P2
   obtain⟨ge,hge⟩:∃ b:Bool,b=(decide (pl<=last) && !fd):=⟨_,rfl⟩
   have HGE:=aD hge
   clear hge
   go_cut [52] (fun v wx=>v=.bool ge/\wx=w3)
   case first=>
    by_cases hl:pl<=last
    ·have i1:(pl:Int)<=(last:Int):=by omega
     have HL:=aD hl
     clear hl
     cases fd
     ·have e:ge=true:=by rw [HGE.o,j6 HL.o];rfl
      subst e
      go_wp2_with fail
      go_meet
      exact⟨rfl,rfl⟩
     ·have e:ge=false:=by rw [HGE.o];simp
      subst e
      go_wp2_with fail
      go_meet
      exact⟨rfl,rfl⟩
    ·have i1:¬ (pl:Int)<=(last:Int):=by omega
     have e:ge=false:=by rw [HGE.o,j5 hl];rfl
     clear hl
     subst e
     go_wp2_with fail
     go_meet
     exact⟨rfl,rfl⟩
   case rest=>
   obtain⟨h52,hwx⟩:=hcut
   subst h52
   subst hwx
   go_upto_if 52 with fail
   go_cut [60] (fun _ wx=>∃ X' l',PlW W0 (fun k=>aK A k\/aK B k\/k=rb\/k=pb) rb pb p s B' A' st X' l' [] l F T wx/\Cw p.L (sL s) first last pl (pl+1) X' (bF l') fd F)
   case first=>
    have hlt:Hid (fd=true->F<pl):=aD (fun q=>by
     obtain⟨b,e,q1,q2,q3,q4,q5,q6,q7⟩:=D1.o.yes q
     have:=q6.ge
     omega)
    cases ge with
    | true=>
     have hh:pl<=last/\fd=false:=by have:=HGE.o;simpa using this.symm
     obtain⟨hl,hfd⟩:=hh
     subst hfd
     have HL:=aD hl
     clear hl hlt
     have r2:=aA P3.o.hr (i:=2) rfl
     have r3:=aA P3.o.hr (i:=3) rfl
     have EN:=aD (eE (b:=(pl:Int)) (pl:=pl) (P3.o.enA HH.o.gp (Int.le_refl 0) (by have:=HH.o.gp.pos;omega)) rfl)
     go_wp2_with (go_at_call 27;(with_reducible refine(EN.o).mono ?_);rintro e w4 ⟨N,l',rfl,h1,h2,h3,h4,h5⟩;have P4:=aD (P3.o.setA h1 h5);have C4:=aD (iG C1.o hfp HL.o rfl h2 h3 h4);clear h1 h2 h3 h4 h5)
     go_meet
     exact⟨_,_,P4.o,C4.o⟩
    | false=>
     have hh:Hid (last<pl\/fd=true):=aD (by
      have q:=HGE.o
      cases fd with
      | true=>exact .inr rfl
      | false=>
       left
       have:¬ pl<=last:=fun z=>by rw [j6 z] at q;cases q
       omega)
     have CS:=aD (kZ C1.o hh.o hlt.o)
     clear hlt hh
     go_wp2_with fail
     go_meet
     exact⟨_,_,P3.o,CS.o⟩
   case rest=>
   obtain⟨X',l',hP4,hC4⟩:=hcut
   have P4:=aD hP4
   have C4:=aD hC4
   clear hP4 hC4 P3 C1
   have r2:wc.cell? ⟨rb,2,none⟩=some (.pointer (some ⟨B'.mb,0,none⟩)):=aA P4.o.hr (i:=2) rfl
   have LN:=aD (dC P4.o.ha.m)
   by_cases hX:X'=[]
   ·subst hX
    have OBW:=fD P4.o OB.o nob.o
    have o0:=aA OBW (i:=0) rfl
    have o1:=aA OBW (i:=1) rfl
    have g0:=aH OBW 0
    have g1:=aH OBW 1
    have q0:=aA P4.o.hp (i:=0) rfl
    have q1:=aA P4.o.hp (i:=1) rfl
    have FN:=aD (kF P4.o B0.o HOB.o HPB.o hro.o (fH D1.o C4.o hfp) (pO SB1.o (by have:=HPS.o;omega)))
    have hz:=aG (aG OBW 0 (.int .i64 F)) 1 (.int .i64 T)
    have k0:=aA hz (i:=0) rfl
    have k1:=aA hz (i:=1) rfl
    clear hz OBW
    go_wp2_with (go_at_call 28;(with_reducible refine(LN.o).mono ?_);rintro e w5 ⟨rfl,h5⟩;subst w5)
    refine bodyPost_ret (v:=.tuple #[.agg #[.int .i64 F,.int .i64 T],.bool fd]) (by simp [results,Try.results17,go_sem,k0,k1]) rfl ?_
    exact FN.o
   have hXl:X'.length≠0:=fun q=>hX (List.eq_nil_of_length_eq_zero q)
   have x0:((X'.length:Int)==0)=false:=by rw [f8];omega
   clear hX
   go_upto_region 10 with (go_at_call 28;(with_reducible refine(LN.o).mono ?_);rintro e w5 ⟨rfl,h5⟩;subst w5)
   clear x0 r2 LN
   go_cut [78] (fun _ wx=>∃ st',PlW W0 (fun k=>aK A k\/aK B k\/k=rb\/k=pb) rb pb p s B' A' st' X' l' [] l F T wx/\SB p.L.length first (pl+1) s.size st')
   case first=>
    have PD:Hid (PlW W0 (fun k=>aK A k\/aK B k\/k=rb\/k=pb) rb pb p s B' A' st X' l' [] l F T wc.drew):=aD (P4.o.below (Below.refl _ _).drew)
    have Z2:Hid (wc.drew.cell? ⟨rb,2,none⟩=some (.pointer (some ⟨B'.mb,0,none⟩))):=aD (aA PD.o.hr (i:=2) rfl)
    refine wp_region_held_drew (S:=fun w'=>w'.cell? ⟨rb,2,none⟩=some (.pointer (some ⟨B'.mb,0,none⟩))) (by kernel_rfl) Z2.o ?_
    intro hS0
    generalize wc.drew=V at PD Z2 hS0 ⊢
    have r2:V.cell? ⟨rb,2,none⟩=some (.pointer (some ⟨B'.mb,0,none⟩)):=Z2.o
    have r6:=aA PD.o.hr (i:=6) rfl
    have f6:=aH PD.o.hr 6
    have LN:=aD (dC PD.o.ha.m)
    refine wpAnyH_take (i:=0) (oi:=_) (v:=?_) rfl (by kernel_rfl) (by kernel_rfl) (by kernel_rfl) (fun _ _ _ h=>h) (Or.inl ⟨by rfl,?_⟩) (by assumption) ?_
    rotate_left
    ·intro wz hSw
     have hs0:wz.cell? ⟨rb,2,none⟩=some (.pointer (some ⟨B'.mb,0,none⟩)):=hSw
     go_simp
     try with_reducible rfl
    dsimp only [Act.put,i8,g7,g9]
    simp only [f9,i9,j3]
    refine wpAnyH_take (i:=1) (oi:=_) (v:=?_) rfl (by kernel_rfl) (by kernel_rfl) (by kernel_rfl) (fun _ _ _ h=>h) (Or.inl ⟨by rfl,?_⟩) (by assumption) ?_
    rotate_left
    ·intro wz hSw
     have hs0:wz.cell? ⟨rb,2,none⟩=some (.pointer (some ⟨B'.mb,0,none⟩)):=hSw
     go_simp
     try with_reducible rfl
    dsimp only [Act.put,i8,g7,g9]
    simp only [f9,i9,j3]
    refine wpAnyH_take (i:=2) (oi:=_) (v:=?_) rfl (by kernel_rfl) (by kernel_rfl) (by kernel_rfl) (fun _ _ _ h=>h) (Or.inl ⟨by rfl,?_⟩) (by assumption) ?_
    rotate_left
    ·intro wz hSw
     have hs0:wz.cell? ⟨rb,2,none⟩=some (.pointer (some ⟨B'.mb,0,none⟩)):=hSw
     go_simp
     try with_reducible rfl
    dsimp only [Act.put,i8,g7,g9]
    simp only [f9,i9,j3]
    refine wpAnyH_take (i:=4) (oi:=_) (v:=?_) rfl (by kernel_rfl) (by kernel_rfl) (by kernel_rfl) (fun _ _ _ h=>h) (Or.inl ⟨by rfl,?_⟩) (by assumption) ?_
    rotate_left
    ·intro wz hSw
     have hs0:wz.cell? ⟨rb,2,none⟩=some (.pointer (some ⟨B'.mb,0,none⟩)):=hSw
     go_simp
     try with_reducible rfl
    dsimp only [Act.put,i8,g7,g9]
    simp only [f9,i9,j3]
    refine wpAnyH_take (i:=5) (oi:=_) (v:=?_) rfl (by kernel_rfl) (by kernel_rfl) (by kernel_rfl) (fun _ _ _ h=>h) (Or.inl ⟨by rfl,?_⟩) (by assumption) ?_
    rotate_left
    ·intro wz hSw
     have hs0:wz.cell? ⟨rb,2,none⟩=some (.pointer (some ⟨B'.mb,0,none⟩)):=hSw
     go_simp
     try with_reducible rfl
    dsimp only [Act.put,i8,g7,g9]
    simp only [f9,i9,j3]
    refine wpAnyH_take (i:=6) (oi:=_) (v:=?_) rfl (by kernel_rfl) (by kernel_rfl) (by kernel_rfl) (fun _ _ _ h=>h) (Or.inl ⟨by rfl,?_⟩) (by assumption) ?_
    rotate_left
    ·intro wz hSw
     have hs0:wz.cell? ⟨rb,2,none⟩=some (.pointer (some ⟨B'.mb,0,none⟩)):=hSw
     go_simp
     try with_reducible rfl
    dsimp only [Act.put,i8,g7,g9]
    simp only [f9,i9,j3]
    refine wpAnyH_take (i:=7) (oi:=_) (v:=?_) rfl (by kernel_rfl) (by kernel_rfl) (by kernel_rfl) (fun _ _ _ h=>h) (Or.inl ⟨by rfl,?_⟩) (by assumption) ?_
    rotate_left
    ·intro wz hSw
     have hs0:wz.cell? ⟨rb,2,none⟩=some (.pointer (some ⟨B'.mb,0,none⟩)):=hSw
     go_simp
     try with_reducible rfl
    dsimp only [Act.put,i8,g7,g9]
    simp only [f9,i9,j3]
    refine wpAnyH_take (i:=8) (oi:=_) (v:=?_) rfl (by kernel_rfl) (by kernel_rfl) (by kernel_rfl) (fun _ _ _ h=>h) (Or.inl ⟨by rfl,?_⟩) (by assumption) ?_
    rotate_left
    ·intro wz hSw
     have hs0:wz.cell? ⟨rb,2,none⟩=some (.pointer (some ⟨B'.mb,0,none⟩)):=hSw
     go_simp
     try with_reducible rfl
    dsimp only [Act.put,i8,g7,g9]
    simp only [f9,i9,j3]
    refine wpAnyH_ready (rs:=[3,9]) (by kernel_rfl) (by simp) ?_
    refine AllReadyH.cons rfl (fun K hK=>?_) (AllReadyH.cons rfl (fun K hK=>?_) AllReadyH.nil)
    ·go_simp
     refine hK.out _ _ Z2.o (fun hSx=>?_)
     clear hK K hSx
     refine wpAnyH_ready (rs:=[9]) (by kernel_rfl) (by simp) ?_
     refine AllReadyH.cons rfl (fun K hK=>?_) AllReadyH.nil
     go_simp
     go_at_call 28
     refine(LN.o).mono ?_
     rintro e w5 ⟨rfl,h5⟩
     subst w5
     refine hK.out _ _ Z2.o (fun hSx=>?_)
     clear hK K hSx
     refine wpAnyH_ready (rs:=[10]) (by kernel_rfl) (by simp) ?_
     refine AllReadyH.cons rfl (fun K hK=>?_) AllReadyH.nil
     go_simp
     refine hK.out _ _ Z2.o (fun hSx=>?_)
     clear hK K hSx
     refine wpAnyH_ready (rs:=[11]) (by kernel_rfl) (by simp) ?_
     refine AllReadyH.cons rfl (fun K hK=>?_) AllReadyH.nil
     go_simp
     refine hK.out _ _ Z2.o (fun hSx=>?_)
     clear hK K hSx
     refine wpAnyH_ready (rs:=[12]) (by kernel_rfl) (by simp) ?_
     refine AllReadyH.cons rfl (fun K hK=>?_) AllReadyH.nil
     go_simp
     refine hK.out _ _ Z2.o (fun hSx=>?_)
     clear hK K hSx
     refine wpAnyH_ready (rs:=[13]) (by kernel_rfl) (by simp) ?_
     refine AllReadyH.cons rfl (fun K hK=>?_) AllReadyH.nil
     go_simp
     refine hK.out _ _ (aA (aG PD.o.hr 6 _) (i:=2) rfl) (fun hSx=>?_)
     clear hK K hSx
     refine wpAnyH_done (by kernel_rfl) ?_ _
     have SW:=aD (fun x=>PD.o.run (st':=x) (((Fr.refl (fun k=>k=rb) _).setCell (p:=⟨rb,6,none⟩) rfl _)) (aG PD.o.hr 6 (.int .i64 x)))
     clear r2 r6 f6 LN
     go_wp2_with fail
     go_meet
     exact⟨_,SW.o _,kS SB1.o HFP.o HPS.o PD.o.ha.m.len⟩
    ·go_simp
     go_at_call 28
     refine(LN.o).mono ?_
     rintro e w5 ⟨rfl,h5⟩
     subst w5
     refine hK.out _ _ Z2.o (fun hSx=>?_)
     clear hK K hSx
     refine wpAnyH_ready (rs:=[3]) (by kernel_rfl) (by simp) ?_
     refine AllReadyH.cons rfl (fun K hK=>?_) AllReadyH.nil
     go_simp
     refine hK.out _ _ Z2.o (fun hSx=>?_)
     clear hK K hSx
     refine wpAnyH_ready (rs:=[10]) (by kernel_rfl) (by simp) ?_
     refine AllReadyH.cons rfl (fun K hK=>?_) AllReadyH.nil
     go_simp
     refine hK.out _ _ Z2.o (fun hSx=>?_)
     clear hK K hSx
     refine wpAnyH_ready (rs:=[11]) (by kernel_rfl) (by simp) ?_
     refine AllReadyH.cons rfl (fun K hK=>?_) AllReadyH.nil
     go_simp
     refine hK.out _ _ Z2.o (fun hSx=>?_)
     clear hK K hSx
     refine wpAnyH_ready (rs:=[12]) (by kernel_rfl) (by simp) ?_
     refine AllReadyH.cons rfl (fun K hK=>?_) AllReadyH.nil
     go_simp
     refine hK.out _ _ Z2.o (fun hSx=>?_)
     clear hK K hSx
     refine wpAnyH_ready (rs:=[13]) (by kernel_rfl) (by simp) ?_
     refine AllReadyH.cons rfl (fun K hK=>?_) AllReadyH.nil
     go_simp
     refine hK.out _ _ (aA (aG PD.o.hr 6 _) (i:=2) rfl) (fun hSx=>?_)
     clear hK K hSx
     refine wpAnyH_done (by kernel_rfl) ?_ _
     have SW:=aD (fun x=>PD.o.run (st':=x) (((Fr.refl (fun k=>k=rb) _).setCell (p:=⟨rb,6,none⟩) rfl _)) (aG PD.o.hr 6 (.int .i64 x)))
     clear r2 r6 f6 LN
     go_wp2_with fail
     go_meet
     exact⟨_,SW.o _,kS SB1.o HFP.o HPS.o PD.o.ha.m.len⟩
   case rest=>
   obtain⟨st',hP5,hS5⟩:=hcut
   have SB2:=aD hS5
   clear hS5
   have P5:=aD hP5
   clear hP5 P4
   have r2:=aA P5.o.hr (i:=2) rfl
   have LN:=aD (dC P5.o.ha.m)
   go_wp2_with (go_at_call 28;(with_reducible refine(LN.o).mono ?_);rintro e w5 ⟨rfl,h5⟩;subst w5)
   clear r2 LN
   go_loopw [9,87] (fun f kv wr=>∃ (k:Nat) (fd':Bool) (Y' m':List Int) (F' T':Int),f=.bool fd'/\kv=.int .i64 (k:Int)/\k<=X'.length/\PlW W0 (fun k=>aK A k\/aK B k\/k=rb\/k=pb) rb pb p s B' A' st' X' l' Y' m' F' T' wr/\Go2 p.L (sL s) first last pl X' (bF l') fd F T k Y' (bF m') fd' F' T') (fun f kv _=>X'.length-(intOf kv).toNat)
   case atStart=>exact⟨0,fd,[],l,F,T,rfl,rfl,o7 _,P5.o,kV⟩
   case round=>
    obtain⟨k,fd',Y',m',F',T',rfl,rfl,hk,hP6,hG6⟩:=hrel
    have P6:=aD hP6
    have G6:=aD hG6
    clear hP6 hG6 P5
    have hw1:IntKind.wrap .i64 ((pl:Int)+1)=(pl:Int)+1:=wrap_small _ (by omega) (by omega)
    by_cases hkx:k<X'.length
    case neg=>
     have i1:¬ (k:Int)<(X'.length:Int):=by omega
     have DN:=aD (dK D1.o C4.o G6.o (.inl (by omega)))
     go_wp2
     go_roundw
     case rel=>exact⟨pl+1,fd',B',A',st',X',l',Y',m',F',T',rfl,by go_num,Nat.le_succ_of_le HFP.o,Nat.succ_le_succ HPS.o,P6.o,DN.o.1,DN.o.2,SB2.o⟩
     case measure=>simp only [intOf];omega
    case pos=>
     have i1:(k:Int)<(X'.length:Int):=by omega
     obtain⟨x,hx⟩:∃ x,X'[k]?=some x:=⟨_,j4 hkx⟩
     obtain⟨hx0,hx1⟩:=P6.o.ha.m.inr (j8 hx)
     obtain⟨x,rfl⟩:∃ x':Nat,x=(x':Int):=⟨x.toNat,by omega⟩
     have hxl:x<p.L.length:=by omega
     have AT:Hid (Calls Try.prog 29 #[.pointer (some ⟨B'.mb,0,none⟩),.int .i64 (k:Int)] wr fun e w'=>e=.returned (.tuple #[.int .i64 (x:Int),.bool true])/\w'=wr):=by
      have:=sG P6.o.ha.m (k:Int)
      rw [show atV X' (k:Int)=(x:Int) by unfold atV;rw [if_pos ⟨by omega,by omega⟩,k4,hx];rfl,show atB X' (k:Int)=true from j6 ⟨by omega,by omega⟩] at this
      exact this
     obtain⟨i,hi⟩:∃ i,p.L[x]?=some i:=⟨_,j4 hxl⟩
     obtain⟨g,o,hq,hg,c0,c1,c2,c3,c4,c5,c6,c7,c8,c9⟩:=P6.o.li.ten hi
     clear c1 c2 c3 c4 c5 c6 c7 c8 c9
     have hi':Hid (p.L[((x:Int)).toNat]?=some i):=aD (by rw [k4];exact hi)
     have HX:=aD hx
     have HI:=aD hi
     have cg:=P6.o.ha.cell hxl
     have r0:wr.cell? ⟨rb,0,none⟩=some (.slice p.q p.L.length p.c):=aA P6.o.hr (i:=0) rfl
     rw [hq] at r0
     have r1:wr.cell? ⟨rb,1,none⟩=some (.string s):=aA P6.o.hr (i:=1) rfl
     have r2:=aA P6.o.hr (i:=2) rfl
     have r3:=aA P6.o.hr (i:=3) rfl
     have q0:=aA P6.o.hp (i:=0) rfl
     have j0:(x:Int)<(p.L.length:Int):=by omega
     have j1:(0:Int)<=(x:Int):=by omega
     have hw2:IntKind.wrap .i64 ((x:Int)+1)=(x:Int)+1:=wrap_small _ (by omega) (by omega)
     have hxr:=P6.o.ha.m.len
     have hw3:IntKind.wrap .i64 ((k:Int)+1)=(k:Int)+1:=wrap_small _ (by omega) (by omega)
     clear hx hi hx0 hx1
     go_upto_region 16 with (go_at_call 29;(with_reducible refine(AT.o).mono ?_);rintro e w5 ⟨rfl,h5⟩;subst w5)
     clear AT cg r2 r3
     go_cut [108] (fun v wx=>v=.bool (fd'&&decide (F'<bF l' (x:Int)))/\wx=wr)
     case first=>
      cases fd'
      all_goals go_wp2_with fail
      all_goals go_meet
      all_goals exact⟨rfl,rfl⟩
     case rest=>
     obtain⟨h108,hwx⟩:=hcut
     subst h108
     subst hwx
     by_cases hgb:(fd'&&decide (F'<bF l' (x:Int)))=true
     ·have hh:fd'=true/\F'<bF l' (x:Int):=by simpa using hgb
      have DN:=aD (dK D1.o C4.o G6.o (.inr ⟨hh.1,_,HX.o,hh.2⟩))
      rw [hgb]
      clear hgb hh
      go_wp2
      go_roundw
      case rel=>exact⟨pl+1,fd',B',A',st',X',l',Y',m',F',T',rfl,by go_num,Nat.le_succ_of_le HFP.o,Nat.succ_le_succ HPS.o,P6.o,DN.o.1,DN.o.2,SB2.o⟩
      case measure=>simp only [intOf];omega
     have hgF:Hid (fd'=true->bF l' (x:Int)<=F'):=aD (fun q=>by
      rw [q] at hgb
      simp only [Bool.true_and,decide_eq_true_eq] at hgb
      omega)
     rw [Bool.eq_false_iff.2 hgb]
     clear hgb
     by_cases ho:i.op=11
     ·rw [ho] at c0
      have HO:=aD ho
      have pf0:=aH P6.o.hp 0
      have pf1:=aH P6.o.hp 1
      have q1:=aA P6.o.hp (i:=1) rfl
      have P7:=aD (P6.o.part (bF l' (x:Int)) (pl:Int))
      clear ho
      go_upto_region 19 with fail
      clear pf0 pf1 q0 q1 c0 r0 r1
      generalize ((wc.setCell ⟨pb,0,none⟩ (.int .i64 (bF l' (x:Int)))).setCell ⟨pb,1,none⟩ (.int .i64 (pl:Int)))=V at P7 ⊢
      have r1:V.cell? ⟨rb,1,none⟩=some (.string s):=aA P7.o.hr (i:=1) rfl
      by_cases hpe:pl=s.size
      ·have e0:((pl:Int)==(s.size:Int))=true:=by rw [beq_iff_eq];omega
       have e1:(pl:Int)=(s.size:Int):=by omega
       have FL:=aD (hU D1.o C4.o G6.o HX.o hi'.o HO.o hgF.o (by rw [cJ];exact hls) (by rw [cJ];exact hpe))
       clear hpe
       have OBW:=fD P7.o OB.o nob.o
       have o0:=aA OBW (i:=0) rfl
       have o1:=aA OBW (i:=1) rfl
       have g0:=aH OBW 0
       have g1:=aH OBW 1
       have q0:=aA P7.o.hp (i:=0) rfl
       have q1:=aA P7.o.hp (i:=1) rfl
       have FN:=aD (kF P7.o B0.o HOB.o HPB.o hro.o FL.o (pO SB2.o (Nat.succ_le_succ HPS.o)))
       have hz:=aG (aG OBW 0 (.int .i64 (bF l' (x:Int)))) 1 (.int .i64 (pl:Int))
       have k0:=aA hz (i:=0) rfl
       have k1:=aA hz (i:=1) rfl
       clear hz OBW
       clear FL e1
       go_wp2
       refine bodyPost_ret (v:=.tuple #[.agg #[.int .i64 (bF l' (x:Int)),.int .i64 (pl:Int)],.bool true]) (by simp [results,Try.results17,go_sem,k0,k1]) rfl ?_
       exact FN.o
      ·have e0:((pl:Int)==(s.size:Int))=false:=by rw [f8];omega
       have GM:=aD (dR C4.o G6.o HX.o hi'.o HO.o hgF.o)
       clear hpe
       go_wp2
       go_roundw
       case rel=>exact⟨k+1,true,Y',m',bF l' (x:Int),(pl:Int),rfl,by go_num,Nat.succ_le_of_lt hkx,P7.o,GM.o⟩
       case measure=>simp only [intOf];omega
     ·obtain⟨oo,hoo⟩:∃ oo,i.op=oo:=⟨_,rfl⟩
      have HNO:Hid (i.op≠11):=aD ho
      have eo:(oo==11)=false:=by rw [f8,<- hoo];exact ho
      rw [hoo] at c0
      clear ho hoo
      have TK:=aD (kP (pl:=pl) P6.o.hr P6.o.li HI.o)
      obtain⟨tb,htb⟩:∃ tb,tkB i s pl=tb:=⟨_,rfl⟩
      rw [htb] at TK
      have HTB:=aD htb
      clear htb
      cases tb with
      | false=>
       have GS:=aD (hJ G6.o HX.o hi'.o HNO.o (fun c h1 h2=>by
        have:=HTB.o
        unfold tkB at this
        rw [h1,h2] at this
        simpa using this))
       go_wp2_with (go_at_call 30;(with_reducible refine(TK.o).mono ?_);rintro e w7 ⟨rfl,h7⟩;have P7:=aD (P6.o.below h7);clear h7)
       go_roundw
       case rel=>exact⟨k+1,fd',Y',m',F',T',rfl,by go_num,Nat.succ_le_of_lt hkx,P7.o,GS.o⟩
       case measure=>simp only [intOf];omega
      | true=>
       have hb:∃ c,i.op=1/\(sL s)[pl]?=some c/\aO i.s (c.toNat:Int)=true:=by
        have:=HTB.o
        unfold tkB at this
        cases hc:(sL s)[pl]? with
        | none=>rw [hc] at this;simp at this
        | some c=>rw [hc] at this;simp at this;exact⟨c,this.1,rfl,this.2⟩
       obtain⟨c,hc1,hc2,hc3⟩:=hb
       have HC:=aD (And.intro hc1 (And.intro hc2 hc3))
       have hnx:=HH.o.gp.nx x i HI.o hc1
       have hnx1:(x:Int)+1<(p.L.length:Int):=by omega
       clear hc1 hc2 hc3 hnx
       go_upto_region 21 with (go_at_call 30;(with_reducible refine(TK.o).mono ?_);rintro e w7 ⟨rfl,h7⟩;have P7:=aD (P6.o.below h7);clear h7)
       have r4:=aA P7.o.hr (i:=4) rfl
       have r5:=aA P7.o.hr (i:=5) rfl
       have EN:=aD (eE (b:=bF l' (x:Int)) (plI:=(pl:Int)+1) (pl:=pl+1) (P7.o.enB HH.o.gp (x:=(x:Int)+1) (by omega) hnx1) (by omega))
       clear q0 c0 r0 r1
       go_wp2_with (go_at_call 27;(with_reducible refine(EN.o).mono ?_);rintro e w8 ⟨N,l8,rfl,h1,h2,h3,h4,h5⟩;have P8:=aD (P7.o.setB h1 h5);have G8:=aD (hY C4.o G6.o HX.o hi'.o HC.o.1 HC.o.2.1 HC.o.2.2 h2 h3 h4);clear h1 h2 h3 h4 h5)
       go_roundw
       case rel=>exact⟨k+1,fd',_,_,F',T',rfl,by go_num,Nat.succ_le_of_lt hkx,P8.o,G8.o⟩
       case measure=>simp only [intOf];omega
end
def txt(l:List UInt8):ByteArray:=⟨l.toArray⟩
abbrev OB(base:Nat)(w:World)(v:Value)(l:List UInt8):Prop:=w.ownsRow base 5 1 v l.length (Lib.byteCells l)
section
attribute [local go_sem] Oper.semAt_some bI
def shW(o:Int):List UInt8:=
 if o=1 then [98,121,116,101] else if o=2 then [115,112,108,105,116] else if o=3 then [106,117,109,112] else if o=4 then [98,101,103,105,110] else if o=5 then [101,110,100] else if o=6 then [111,112,101,110] else if o=7 then [99,108,111,115,101] else if o=8 then [98,97,99,107] else if o=9 then [122,101,114,111] else if o=10 then [116,117,114,110] else if o=11 then [109,97,116,99,104] else []
def shT(o:Int):Int:=if o=1 then 65 else if o=2 then 6 else if o=3 then 2 else if o=4 then 64 else if o=5 then 64 else if o=6 then 72 else if o=7 then 72 else if o=8 then 72 else if o=9 then 80 else if o=10 then 54 else 0
def trs:List Int:=[65,6,2,64,72,80,54,0]
theorem bW(o:Int)(w:World):Calls Try.prog 43 #[.int .i64 o] w fun e w'=>e=.returned (.tuple #[.string (txt (shW o)),.int .i64 (shT o)])/\w'=w:=by
 by_cases h1:o=1
 ·subst h1;go_enter Try.func43,Try.ntmps43;go_wp2;go_ret2;exact⟨rfl,rfl⟩
 by_cases h2:o=2
 ·subst h2;go_enter Try.func43,Try.ntmps43;go_wp2;go_ret2;exact⟨rfl,rfl⟩
 by_cases h3:o=3
 ·subst h3;go_enter Try.func43,Try.ntmps43;go_wp2;go_ret2;exact⟨rfl,rfl⟩
 by_cases h4:o=4
 ·subst h4;go_enter Try.func43,Try.ntmps43;go_wp2;go_ret2;exact⟨rfl,rfl⟩
 by_cases h5:o=5
 ·subst h5;go_enter Try.func43,Try.ntmps43;go_wp2;go_ret2;exact⟨rfl,rfl⟩
 by_cases h6:o=6
 ·subst h6;go_enter Try.func43,Try.ntmps43;go_wp2;go_ret2;exact⟨rfl,rfl⟩
 by_cases h7:o=7
 ·subst h7;go_enter Try.func43,Try.ntmps43;go_wp2;go_ret2;exact⟨rfl,rfl⟩
 by_cases h8:o=8
 ·subst h8;go_enter Try.func43,Try.ntmps43;go_wp2;go_ret2;exact⟨rfl,rfl⟩
 by_cases h9:o=9
 ·subst h9;go_enter Try.func43,Try.ntmps43;go_wp2;go_ret2;exact⟨rfl,rfl⟩
 by_cases h10:o=10
 ·subst h10;go_enter Try.func43,Try.ntmps43;go_wp2;go_ret2;exact⟨rfl,rfl⟩
 by_cases h11:o=11
 ·subst h11;go_enter Try.func43,Try.ntmps43;go_wp2;go_ret2;exact⟨rfl,rfl⟩
 have e1:shW o=[]:=by unfold shW;simp [h1,h2,h3,h4,h5,h6,h7,h8,h9,h10,h11]
 have e2:shT o=0:=by unfold shT;simp [h1,h2,h3,h4,h5,h6,h7,h8,h9,h10]
 rw [e1,e2]
 clear e1 e2
 go_enter Try.func43,Try.ntmps43
 go_wp2
 go_ret2
 exact⟨rfl,rfl⟩
def hsT(t m:Int):Bool:=bits .and .i64 t m != 0
theorem cA(t m:Int)(w:World):Calls Try.prog 45 #[.int .i64 t,.int .i64 m] w fun e w'=>e=.returned (.bool (hsT t m))/\w'=w:=by
 go_enter Try.func45,Try.ntmps45
 go_wp2
 go_ret
 exact⟨rfl,rfl⟩
def blw(n m:Int):Bool:=decide (0<=n)&&decide (n<m)
theorem aX(n m:Int)(w:World):Calls Try.prog 34 #[.int .i64 n,.int .i64 m] w fun e w'=>e=.returned (.bool (blw n m))/\w'=w:=by
 unfold blw
 by_cases h:0<=n
 ·rw [j6 h,Bool.true_and]
  go_enter Try.func34,Try.ntmps34
  go_wp2
  go_ret
  exact⟨rfl,rfl⟩
 ·rw [j5 h,Bool.false_and]
  go_enter Try.func34,Try.ntmps34
  go_wp2
  go_ret
  exact⟨rfl,rfl⟩
def rbd(a b:Int):Bool:=blw a 256&&(b==-1 ||(decide (a<=b)&&decide (b<=255)))
theorem bT(a b:Int)(w:World):Calls Try.prog 46 #[.int .i64 a,.int .i64 b] w fun e w'=>e=.returned (.bool (rbd a b))/\w'=w:=by
 unfold rbd
 have HB:=aD (aX a 256 w)
 obtain⟨r,hr⟩:∃ r,blw a 256=r:=⟨_,rfl⟩
 rw [hr] at HB ⊢
 clear hr
 cases r with
 | false=>
  go_enter Try.func46,Try.ntmps46
  go_wp2_with (go_at_call 34;(with_reducible refine(HB.o).mono ?_);rintro e w5 ⟨rfl,rfl⟩)
  go_ret
  exact⟨rfl,rfl⟩
 | true=>
  by_cases h1:b=-1
  ·subst h1
   go_enter Try.func46,Try.ntmps46
   go_wp2_with (go_at_call 34;(with_reducible refine(HB.o).mono ?_);rintro e w5 ⟨rfl,rfl⟩)
   go_ret
   exact⟨rfl,rfl⟩
  ·rw [Bool.true_and]
   by_cases h2:a<=b
   ·rw [j6 h2,Bool.true_and]
    go_enter Try.func46,Try.ntmps46
    go_wp2_with (go_at_call 34;(with_reducible refine(HB.o).mono ?_);rintro e w5 ⟨rfl,rfl⟩)
    go_ret
    first | exact⟨rfl,rfl⟩ | exact⟨by simp,rfl⟩
   ·rw [j5 h2,Bool.false_and]
    go_enter Try.func46,Try.ntmps46
    go_wp2_with (go_at_call 34;(with_reducible refine(HB.o).mono ?_);rintro e w5 ⟨rfl,rfl⟩)
    go_ret
    first | exact⟨rfl,rfl⟩ | exact⟨by simp,rfl⟩
end
section
attribute [local go_sem] Oper.semAt_some bI
def usI(t:Int)(i:Ins):Ins:=⟨i.op,if hsT t 2 then i.x else 0,if hsT t 4 then i.y else 0,if hsT t 24 then i.n else 0,if hsT t 32 then i.mn else 0,if hsT t 32 then i.mx else 0,if hsT t 1 then i.s else 0#256⟩
def UsP(t:Int)(i:Ins)(w:World)(e:Ending)(w':World):Prop:=∃ j,j=usI t i/\e=.returned (.agg #[.int .i64 j.op,.int .i64 j.x,.int .i64 j.y,.int .i64 j.n,.int .i64 j.mn,.int .i64 j.mx,.int .u64 (aB j.s 0),.int .u64 (aB j.s 1),.int .u64 (aB j.s 2),.int .u64 (aB j.s 3)])/\wBl w w'
theorem qW(i:Ins)(w:World):Calls Try.prog 44 #[.int .i64 65,.agg #[.int .i64 i.op,.int .i64 i.x,.int .i64 i.y,.int .i64 i.n,.int .i64 i.mn,.int .i64 i.mx,.int .u64 (aB i.s 0),.int .u64 (aB i.s 1),.int .u64 (aB i.s 2),.int .u64 (aB i.s 3)]] w (UsP 65 i w):=by
 have q1:hsT 65 1=true:=by decide
 have q2:hsT 65 2=false:=by decide
 have q3:hsT 65 4=false:=by decide
 have q4:hsT 65 24=false:=by decide
 have q5:hsT 65 32=false:=by decide
 have ej:usI 65 i=⟨i.op,0,0,0,0,0,i.s⟩:=by simp [usI,q1,q2,q3,q4,q5]
 go_enter Try.func44,Try.ntmps44
 go_wp2_with (go_at_call 45;(with_reducible refine(cA _ _ _).mono ?_);rintro e w5 ⟨rfl,rfl⟩)
 all_goals refine bodyPost_ret (v:=.agg #[.int .i64 i.op,.int .i64 0,.int .i64 0,.int .i64 0,.int .i64 0,.int .i64 0,.int .u64 (aB i.s 0),.int .u64 (aB i.s 1),.int .u64 (aB i.s 2),.int .u64 (aB i.s 3)]) (by simp [results,Try.results44,go_sem]) rfl ?_
 all_goals refine⟨_,ej.symm,by simp,?_⟩
 all_goals repeat' (first | exact Below.refl _ _ | refine Below.drew ?_ | refine Below.alloc ?_ (by simp <;> omega) _)
theorem sQ(i:Ins)(w:World):Calls Try.prog 44 #[.int .i64 6,.agg #[.int .i64 i.op,.int .i64 i.x,.int .i64 i.y,.int .i64 i.n,.int .i64 i.mn,.int .i64 i.mx,.int .u64 (aB i.s 0),.int .u64 (aB i.s 1),.int .u64 (aB i.s 2),.int .u64 (aB i.s 3)]] w (UsP 6 i w):=by
 have q1:hsT 6 1=false:=by decide
 have q2:hsT 6 2=true:=by decide
 have q3:hsT 6 4=true:=by decide
 have q4:hsT 6 24=false:=by decide
 have q5:hsT 6 32=false:=by decide
 have ej:usI 6 i=⟨i.op,i.x,i.y,0,0,0,0#256⟩:=by simp [usI,q1,q2,q3,q4,q5]
 go_enter Try.func44,Try.ntmps44
 go_wp2_with (go_at_call 45;(with_reducible refine(cA _ _ _).mono ?_);rintro e w5 ⟨rfl,rfl⟩)
 all_goals refine bodyPost_ret (v:=.agg #[.int .i64 i.op,.int .i64 i.x,.int .i64 i.y,.int .i64 0,.int .i64 0,.int .i64 0,.int .u64 0,.int .u64 0,.int .u64 0,.int .u64 0]) (by simp [results,Try.results44,go_sem]) rfl ?_
 all_goals refine⟨_,ej.symm,by simp [bG],?_⟩
 all_goals repeat' (first | exact Below.refl _ _ | refine Below.drew ?_ | refine Below.alloc ?_ (by simp <;> omega) _)
theorem sR(i:Ins)(w:World):Calls Try.prog 44 #[.int .i64 2,.agg #[.int .i64 i.op,.int .i64 i.x,.int .i64 i.y,.int .i64 i.n,.int .i64 i.mn,.int .i64 i.mx,.int .u64 (aB i.s 0),.int .u64 (aB i.s 1),.int .u64 (aB i.s 2),.int .u64 (aB i.s 3)]] w (UsP 2 i w):=by
 have q1:hsT 2 1=false:=by decide
 have q2:hsT 2 2=true:=by decide
 have q3:hsT 2 4=false:=by decide
 have q4:hsT 2 24=false:=by decide
 have q5:hsT 2 32=false:=by decide
 have ej:usI 2 i=⟨i.op,i.x,0,0,0,0,0#256⟩:=by simp [usI,q1,q2,q3,q4,q5]
 go_enter Try.func44,Try.ntmps44
 go_wp2_with (go_at_call 45;(with_reducible refine(cA _ _ _).mono ?_);rintro e w5 ⟨rfl,rfl⟩)
 all_goals refine bodyPost_ret (v:=.agg #[.int .i64 i.op,.int .i64 i.x,.int .i64 0,.int .i64 0,.int .i64 0,.int .i64 0,.int .u64 0,.int .u64 0,.int .u64 0,.int .u64 0]) (by simp [results,Try.results44,go_sem]) rfl ?_
 all_goals refine⟨_,ej.symm,by simp [bG],?_⟩
 all_goals repeat' (first | exact Below.refl _ _ | refine Below.drew ?_ | refine Below.alloc ?_ (by simp <;> omega) _)
theorem qX(i:Ins)(w:World):Calls Try.prog 44 #[.int .i64 64,.agg #[.int .i64 i.op,.int .i64 i.x,.int .i64 i.y,.int .i64 i.n,.int .i64 i.mn,.int .i64 i.mx,.int .u64 (aB i.s 0),.int .u64 (aB i.s 1),.int .u64 (aB i.s 2),.int .u64 (aB i.s 3)]] w (UsP 64 i w):=by
 have q1:hsT 64 1=false:=by decide
 have q2:hsT 64 2=false:=by decide
 have q3:hsT 64 4=false:=by decide
 have q4:hsT 64 24=false:=by decide
 have q5:hsT 64 32=false:=by decide
 have ej:usI 64 i=⟨i.op,0,0,0,0,0,0#256⟩:=by simp [usI,q1,q2,q3,q4,q5]
 go_enter Try.func44,Try.ntmps44
 go_wp2_with (go_at_call 45;(with_reducible refine(cA _ _ _).mono ?_);rintro e w5 ⟨rfl,rfl⟩)
 all_goals refine bodyPost_ret (v:=.agg #[.int .i64 i.op,.int .i64 0,.int .i64 0,.int .i64 0,.int .i64 0,.int .i64 0,.int .u64 0,.int .u64 0,.int .u64 0,.int .u64 0]) (by simp [results,Try.results44,go_sem]) rfl ?_
 all_goals refine⟨_,ej.symm,by simp [bG],?_⟩
 all_goals repeat' (first | exact Below.refl _ _ | refine Below.drew ?_ | refine Below.alloc ?_ (by simp <;> omega) _)
theorem qV(i:Ins)(w:World):Calls Try.prog 44 #[.int .i64 72,.agg #[.int .i64 i.op,.int .i64 i.x,.int .i64 i.y,.int .i64 i.n,.int .i64 i.mn,.int .i64 i.mx,.int .u64 (aB i.s 0),.int .u64 (aB i.s 1),.int .u64 (aB i.s 2),.int .u64 (aB i.s 3)]] w (UsP 72 i w):=by
 have q1:hsT 72 1=false:=by decide
 have q2:hsT 72 2=false:=by decide
 have q3:hsT 72 4=false:=by decide
 have q4:hsT 72 24=true:=by decide
 have q5:hsT 72 32=false:=by decide
 have ej:usI 72 i=⟨i.op,0,0,i.n,0,0,0#256⟩:=by simp [usI,q1,q2,q3,q4,q5]
 go_enter Try.func44,Try.ntmps44
 go_wp2_with (go_at_call 45;(with_reducible refine(cA _ _ _).mono ?_);rintro e w5 ⟨rfl,rfl⟩)
 all_goals refine bodyPost_ret (v:=.agg #[.int .i64 i.op,.int .i64 0,.int .i64 0,.int .i64 i.n,.int .i64 0,.int .i64 0,.int .u64 0,.int .u64 0,.int .u64 0,.int .u64 0]) (by simp [results,Try.results44,go_sem]) rfl ?_
 all_goals refine⟨_,ej.symm,by simp [bG],?_⟩
 all_goals repeat' (first | exact Below.refl _ _ | refine Below.drew ?_ | refine Below.alloc ?_ (by simp <;> omega) _)
theorem qU(i:Ins)(w:World):Calls Try.prog 44 #[.int .i64 80,.agg #[.int .i64 i.op,.int .i64 i.x,.int .i64 i.y,.int .i64 i.n,.int .i64 i.mn,.int .i64 i.mx,.int .u64 (aB i.s 0),.int .u64 (aB i.s 1),.int .u64 (aB i.s 2),.int .u64 (aB i.s 3)]] w (UsP 80 i w):=by
 have q1:hsT 80 1=false:=by decide
 have q2:hsT 80 2=false:=by decide
 have q3:hsT 80 4=false:=by decide
 have q4:hsT 80 24=true:=by decide
 have q5:hsT 80 32=false:=by decide
 have ej:usI 80 i=⟨i.op,0,0,i.n,0,0,0#256⟩:=by simp [usI,q1,q2,q3,q4,q5]
 go_enter Try.func44,Try.ntmps44
 go_wp2_with (go_at_call 45;(with_reducible refine(cA _ _ _).mono ?_);rintro e w5 ⟨rfl,rfl⟩)
 all_goals refine bodyPost_ret (v:=.agg #[.int .i64 i.op,.int .i64 0,.int .i64 0,.int .i64 i.n,.int .i64 0,.int .i64 0,.int .u64 0,.int .u64 0,.int .u64 0,.int .u64 0]) (by simp [results,Try.results44,go_sem]) rfl ?_
 all_goals refine⟨_,ej.symm,by simp [bG],?_⟩
 all_goals repeat' (first | exact Below.refl _ _ | refine Below.drew ?_ | refine Below.alloc ?_ (by simp <;> omega) _)
theorem qY(i:Ins)(w:World):Calls Try.prog 44 #[.int .i64 54,.agg #[.int .i64 i.op,.int .i64 i.x,.int .i64 i.y,.int .i64 i.n,.int .i64 i.mn,.int .i64 i.mx,.int .u64 (aB i.s 0),.int .u64 (aB i.s 1),.int .u64 (aB i.s 2),.int .u64 (aB i.s 3)]] w (UsP 54 i w):=by
 have q1:hsT 54 1=false:=by decide
 have q2:hsT 54 2=true:=by decide
 have q3:hsT 54 4=true:=by decide
 have q4:hsT 54 24=true:=by decide
 have q5:hsT 54 32=true:=by decide
 have ej:usI 54 i=⟨i.op,i.x,i.y,i.n,i.mn,i.mx,0#256⟩:=by simp [usI,q1,q2,q3,q4,q5]
 go_enter Try.func44,Try.ntmps44
 go_wp2_with (go_at_call 45;(with_reducible refine(cA _ _ _).mono ?_);rintro e w5 ⟨rfl,rfl⟩)
 go_region
 all_goals go_wp2
 all_goals refine bodyPost_ret (v:=.agg #[.int .i64 i.op,.int .i64 i.x,.int .i64 i.y,.int .i64 i.n,.int .i64 i.mn,.int .i64 i.mx,.int .u64 0,.int .u64 0,.int .u64 0,.int .u64 0]) (by simp [results,Try.results44,go_sem]) rfl ?_
 all_goals refine⟨_,ej.symm,by simp [bG],?_⟩
 all_goals repeat' (first | exact Below.refl _ _ | refine Below.drew ?_ | refine Below.alloc ?_ (by simp <;> omega) _)
theorem sS(i:Ins)(w:World):Calls Try.prog 44 #[.int .i64 0,.agg #[.int .i64 i.op,.int .i64 i.x,.int .i64 i.y,.int .i64 i.n,.int .i64 i.mn,.int .i64 i.mx,.int .u64 (aB i.s 0),.int .u64 (aB i.s 1),.int .u64 (aB i.s 2),.int .u64 (aB i.s 3)]] w (UsP 0 i w):=by
 have q1:hsT 0 1=false:=by decide
 have q2:hsT 0 2=false:=by decide
 have q3:hsT 0 4=false:=by decide
 have q4:hsT 0 24=false:=by decide
 have q5:hsT 0 32=false:=by decide
 have ej:usI 0 i=⟨i.op,0,0,0,0,0,0#256⟩:=by simp [usI,q1,q2,q3,q4,q5]
 go_enter Try.func44,Try.ntmps44
 go_wp2_with (go_at_call 45;(with_reducible refine(cA _ _ _).mono ?_);rintro e w5 ⟨rfl,rfl⟩)
 all_goals refine bodyPost_ret (v:=.agg #[.int .i64 i.op,.int .i64 0,.int .i64 0,.int .i64 0,.int .i64 0,.int .i64 0,.int .u64 0,.int .u64 0,.int .u64 0,.int .u64 0]) (by simp [results,Try.results44,go_sem]) rfl ?_
 all_goals refine⟨_,ej.symm,by simp [bG],?_⟩
 all_goals repeat' (first | exact Below.refl _ _ | refine Below.drew ?_ | refine Below.alloc ?_ (by simp <;> omega) _)
theorem sP{t:Int}(ht:t∈trs)(i:Ins)(w:World):Calls Try.prog 44 #[.int .i64 t,.agg #[.int .i64 i.op,.int .i64 i.x,.int .i64 i.y,.int .i64 i.n,.int .i64 i.mn,.int .i64 i.mx,.int .u64 (aB i.s 0),.int .u64 (aB i.s 1),.int .u64 (aB i.s 2),.int .u64 (aB i.s 3)]] w (UsP t i w):=by
 simp [trs] at ht
 rcases ht with rfl | rfl | rfl | rfl | rfl | rfl | rfl | rfl
 ·exact qW i w
 ·exact sQ i w
 ·exact sR i w
 ·exact qX i w
 ·exact qV i w
 ·exact qU i w
 ·exact qY i w
 ·exact sS i w
end
end Go.Proofs.Ytliflleaeimngaa
