/-
  Parts of the proof.
-/
import Derived.Test.YticfnglebbakkaaGreatDoorClassProof10B0
import Derived.Test.YticfnglebbakkaaGreatDoorClassProof10B11
import Derived.Lib.OthersKept
import Derived.Lib.LaidTab
import Derived.Lib.ItoaNum
import Derived.Test.YticfnglebbakkaaGreatDoorClassProof10B10
import Derived.Test.YticfnglebbakkaaGreatDoorClassProof10B9
import Derived.OwnWalk
import Derived.Laws.MakeOwn
import Derived.Test.YticfnglebbakkaaGreatDoorClassProof10B1
import Derived.Test.YticfnglebbakkaaGreatDoorClassProof10B5
import Derived.Test.YticfnglebbakkaaGreatDoorClassProof10B7
import Derived.Lib.Builder
import Derived.Lib.AppendStr
import Derived.Lib.UnsafeStr
import Derived.Lib.FrozenHead
import Derived.Laws.Externs
import Derived.Shelf.RegionOpenPlain
import Derived.Laws.Cover4
import Derived.Laws.IdiomStrings
import Derived.Laws.BytesArg
set_option maxRecDepth 100000
set_option maxHeartbeats 8000000
namespace Go.Proofs.YticfnglebbakkaaGreatDoor
open Go Go.RowKit
abbrev Tabs(w:World):Prop:=Lib.Utf8Tabs 2 3 w
theorem jQ{w:World}{b o:Nat}{v:Value}(h:w.cell? ⟨b,o,none⟩=some v):b < w.heap.size:=by
 rcases Nat.lt_or_ge b w.heap.size with g | g
 ·exact g
 ·have:w.heap[b]?=none:=Array.getElem?_eq_none g
  simp [World.cell?,this] at h
theorem Tabs.blocks{w:World}(h:Tabs w):2 < w.heap.size/\3 < w.heap.size:=⟨jQ (h.1 0 (by omega)),jQ (h.2 0 (by omega)).1⟩
theorem Tabs.to{w w':World}(h:Tabs w)(h1:w'.heap[2]?=w.heap[2]?)(h2:w'.heap[3]?=w.heap[3]?):Tabs w':=by
 refine⟨fun c hc=>?_,fun i hi=>?_⟩
 ·have:=h.1 c hc
  simpa [World.cell?,h1] using this
 ·have:=h.2 i hi
  simpa [World.cell?,h2] using this
abbrev Tens (w : World) : Prop := Lib.TabIs Tryz.prog w "internal/strconv.uint64pow10" .u64 Lib.pow10Tab
theorem pF : Tryz.prog.globalNamed "internal/strconv.uint64pow10" = some 1 := by kernel_rfl
theorem Tens.to{w w':World}(h:Tens w)(h1:w'.heap[1]?=w.heap[1]?):Tens w':=by
 unfold Tens Lib.TabIs World.var? at *
 rw [pF] at *
 simpa [h1] using h
def Glb(w:World):Prop:=Tabs w/\(∃ m,w.cell? ⟨0,0,none⟩=some (.int .i64 m))/\Tens w
theorem Glb.size{w:World}(h:Glb w):3 < w.heap.size:=h.1.blocks.2
theorem Glb.to{w w':World}(h:Glb w)(h0:w'.heap[0]?=w.heap[0]?)(h1:w'.heap[1]?=w.heap[1]?)(h2:w'.heap[2]?=w.heap[2]?)(h3:w'.heap[3]?=w.heap[3]?):Glb w':=by
 obtain⟨k1,⟨m,k2⟩,k3⟩:=h
 refine⟨k1.to h2 h3,⟨m,?_⟩,k3.to h1⟩
 simpa [World.cell?,h0] using k2
theorem Glb.below{n:Nat}{w w':World}(h:Glb w)(hb:Below n w w')(hn:3 < n):Glb w':=h.to (hb.block 0 (by omega)) (hb.block 1 (by omega)) (hb.block 2 (by omega)) (hb.block 3 hn)
theorem Glb.kept{w w':World}(h:Glb w)(hb:Below w.heap.size w w'):Glb w':=h.below hb h.size
theorem nP(s:ByteArray)(p:Nat)(w:World)(hp:p < s.size) :
  Calls Tryz.prog 124 #[.string s,.int .i64 (p:Int),.int .i32 ((Utf8.decode s p).1:Int)] w fun e w'=>e=.returned (.bool (bad s p))/\w'=w:=by
 obtain⟨r,hr⟩:∃ r,(Utf8.decode s p).1=r:=⟨_,rfl⟩
 rw [hr]
 have h0:(0:Int)<=(p:Int):=by omega
 have h1:(p:Int)<=(s.size:Int):=by omega
 have h2:¬ s.size < p:=by omega
 by_cases h:r=65533
 ·subst h
  have hb:=vV s p hp hr
  rw [<- tK] at hb
  clear hr
  go_enter Tryz.func124,Tryz.ntmps124
  go_wp2_with (go_at_call 83;refine(Tryz.strings_HasPrefix _ _ _).mono ?_;rintro e w' ⟨rfl,rfl⟩)
  all_goals (go_ret;refine⟨?_,rfl⟩)
  all_goals simp_all
 ·have hb:bad s p=false:=by simp [bad];intro q;rw [q] at hr;exact h hr.symm
  have hz:((r:Int)==65533)=false:=by simp;omega
  clear hr
  go_enter Tryz.func124,Tryz.ntmps124
  go_wp2
  go_ret
  exact⟨by rw [hb];rfl,rfl⟩
theorem uY(s:ByteArray)(p:Nat)(w:World)(hT:Tabs w)(hp:p < s.size)(hs:s.size<=maxLen) :
  Calls Tryz.prog 126 #[.string s,.int .i64 (p:Int)] w fun e w'=>e=.returned (.tuple #[.int .i64 (ch s p),.int .i64 (wd s p:Int)])/\Below w.heap.size w w':=by
 have HT:Hid (Tabs w):=hT
 have HS:Hid (s.size<=maxLen):=hs
 unfold maxLen at hs
 have hz:(s.extract p s.size).size=s.size - p:=by rw [ByteArray.size_extract];omega
 have hd:Lib.decodeGo (s.extract p s.size)=Utf8.decode s p:=by
  unfold Lib.decodeGo
  rw [if_neg (by rw [hz];omega),Lib.tail_decode];rfl
 have h0:¬ (p:Int) < 0:=by omega
 have h1:¬ (s.size:Int)<=(p:Int):=by omega
 have h2:(0:Int)<=(p:Int):=by omega
 have h3:(p:Int)<=(s.size:Int):=by omega
 have h4:¬ s.size < p:=by omega
 have HD:Hid (Utf8.decode s p=((Utf8.decode s p).1,(Utf8.decode s p).2)):=rfl
 have hc:=nP s p
 have hl:=tS s p
 rcases hb:bad s p with _ | _
 ·have e1:=qA hb
  clear hT hz
  go_enter Tryz.func126,Tryz.ntmps126
  go_wp2_with first
   |(go_at_call 153;(with_reducible refine(Tryz.utf8_DecodeRuneInString _ _ HT.out).mono ?_);rw [hd];rintro e w1 ⟨rfl,hb1⟩)
   |(go_at_call 124;(with_reducible refine(hc _ hp).mono ?_);rw [hb];rintro e w' ⟨rfl,rfl⟩)
  go_ret2
  rw [e1]
  refine⟨?_,hb1⟩
  simp only [wd]
  rfl
 ·have e1:Hid _:=oX hb
  clear hT hz
  go_enter Tryz.func126,Tryz.ntmps126
  go_wp2_with first
   |(go_at_call 153;(with_reducible refine(Tryz.utf8_DecodeRuneInString _ _ HT.out).mono ?_);rw [hd];rintro e w1 ⟨rfl,hb1⟩)
   |(go_at_call 124;(with_reducible refine(hc _ hp).mono ?_);rw [hb];rintro e w' ⟨rfl,rfl⟩)
  go_ret2
  rw [e1.out.1,e1.out.2.1]
  exact⟨rfl,hb1⟩
theorem oS{w wr:World}{k n:Nat}{s:ByteArray}(h:Below n w wr)(hk:n<=k)(p:Nat):Below n w (wr.iterAt k s p):=Lib.below_iterAt h hk s p
section
attribute [local go_sem] aT
def RD(w:World)(b:Nat)(s:ByteArray)(m:Md)(p:Nat)(tv:Value):Prop:=
 w.heap[b]?=some (.cells #[.string s,.bool m.c,.bool m.f,.int .i64 (p:Int),tv] 114 (0,0))
end
section
attribute [local go_sem] aT
def LK(w:World)(b:Nat)(tv:Value)(last:Nat):Prop:=
 (tv=.slice none 0 0/\last=0)\/∃ g n c,tv=.slice (some ⟨g,0,none⟩) (n+1) c/\g≠b/\g < w.heap.size/\n<=2000/\1<=last/\w.cell? ⟨g,n * 7,none⟩=some (.int .i64 (last:Int))
end
abbrev Dt:=Tp × Value × List (Int × Int)
def tc(d:Dt):List Value:=[.int .i64 (d.1.1.kind:Int),.int .i64 (d.1.2.1:Int),.int .i64 (d.1.2.2:Int),.int .i64 (d.1.1.n:Int),.int .i64 d.1.1.mn,.int .i64 d.1.1.mx,d.2.1]
def tcs(D:List Dt):List Value:=D.flatMap tc
structure TL(base:Nat)(w:World)(v:Value)(D:List Dt):Prop where
 own:w.ownsRow base 116 7 v D.length (tcs D)
 each:∀ d∈D,RR base w d.2.1 d.2.2/\IsC d.2.2 d.1.1.q
 apart:D.Pairwise (fun a b=>∀ k,a.2.1.ownBlock=some k->b.2.1.ownBlock≠some k)
noncomputable def left (D:List Dt) (p g:Nat):List Sgn:=xP g ((D.map Prod.fst).drop p)
structure RI5(s:ByteArray)(w:World)(k pos:Nat)(e:TypeId)(v:Value)(n:Nat)(L:List Value)(wr:World):Prop where
 lo:w.heap.size<=k
 it:wr.heap[k]?=some (.stringIter s pos)
 own:wr.ownsRow w.heap.size e 1 v n L
 bel:Below w.heap.size w wr
theorem RI5.len{s:ByteArray}{w wr:World}{k pos n:Nat}{e:TypeId}{v:Value}{L:List Value}(h:RI5 s w k pos e v n L wr):w.heap.size<=wr.heap.size:=h.bel.size
theorem oN{wr:World}{base k p p' n:Nat}{e:TypeId}{s:ByteArray}{v:Value}{L:List Value}(h:wr.ownsRow base e 1 v n L)(hk:wr.heap[k]?=some (.stringIter s p)):(wr.iterAt k s p').ownsRow base e 1 v n L:=by
 obtain⟨h1,h2 | ⟨g,cap,cur,q1,q2,q3,q4⟩⟩:=h
 ·exact⟨h1,.inl h2⟩
 ·refine⟨h1,.inr ⟨g,cap,cur,q1,q2,?_,q4⟩⟩
  rw [Lib.iterAt_other _ _ _ _ _ (fun q=>by rw [q,hk] at q3;cases q3)]
  exact q3
theorem RI5.next{s:ByteArray}{w wr:World}{k pos n:Nat}{e:TypeId}{v:Value}{L:List Value}(h:RI5 s w k pos e v n L wr)(p:Nat):RI5 s w k p e v n L (wr.iterAt k s p):=
 ⟨h.lo,Lib.iterAt_heap wr k s pos p h.it,oN h.own h.it,oS h.bel h.lo p⟩
theorem RI5.app{s:ByteArray}{w wr w6:World}{k pos n m:Nat}{e:TypeId}{v v':Value}{L M:List Value}{o:Obj}(h:RI5 s w k pos e v n L wr)(hown:w6.ownsRow w.heap.size e 1 v' m M)(hg:(wr.alloc o).grownBy w6 v.ownBlock):RI5 s w k pos e v' m M w6:=by
 have hk:=aC h.it
 refine⟨h.lo,?_,hown,?_⟩
 ·rw [hg.block k (by simp;omega) ?_,Below.heap_alloc _ _ _ hk]
  ·exact h.it
  ·intro q
   obtain⟨_,_,cur,hc⟩:=aH h.own q.symm
   rw [h.it] at hc;cases hc
 ·exact dN h.bel (((Fr.refl (fun z=>v.ownBlock=some z) wr).alloc _).grown hg (fun z hz=>hz)) lz9 (fun z hz=>(aH h.own hz).1)
def FR(N:Nat->Prop)(t:Tr):Prop:=bY (fun t=>∀ a,t.f.rq=some a->t.f.rs≠[]->N a.block) t
theorem jI(W:World)(cs:Array Value)(t:TypeId):∀ (j:Nat) (u:Value),cs.toList[j]?=some u->(W.alloc (.cells cs t)).cell? ((⟨W.heap.size,0,none⟩:Addr).add j)=some u:=by
 intro j u h
 have hadd:(⟨W.heap.size,0,none⟩:Addr).add j=⟨W.heap.size,j,none⟩:=by unfold Addr.add;split <;> simp_all
 rw [hadd]
 exact aA (aE W _) (by simpa using h)
section
attribute [local go_sem] aT
abbrev yH:Obj:=.cells #[.int .i64 0,.int .i64 0,.int .i64 0,.int .i64 0,.int .i64 0,.int .i64 0,.slice none 0 0] 116
def TZ(w:World)(g:Nat):Prop:=w.heap[g]?=some yH
end
section
open Go
def sl(s:ByteArray)(p n:Nat):List UInt8:=(s.data.toList.drop p).take n
theorem yA(s:ByteArray)(p:Nat):Lib.decodeL (s.data.toList.drop p)=Utf8.decode s p:=by
 rw [Lib.decodeL_N,Lib.decode_N,List.length_drop]
 simp only [List.getD_eq_getElem?_getD,List.getElem?_drop,Nat.add_zero]
theorem xH(s:ByteArray)(p:Nat)(hp:p < s.size)(hb:bad s p=false):Lib.encodeRune ((Utf8.decode s p).1:Int)=sl s p (wd s p):=by
 have hne:s.data.toList.drop p≠[]:=by
  intro e
  have:=congrArg List.length e
  rw [List.length_drop,bS] at this
  simp at this;omega
 have:=Lib.encode_decode (s.data.toList.drop p) hne (by
  rw [yA]
  rintro ⟨h1,h2⟩
  have:bad s p=true:=by
   unfold bad
   rw [decide_eq_true_eq]
   exact Prod.ext h1 h2
  rw [hb] at this;cases this)
 rw [yA] at this
 exact this
end
section
open Go
def bR(n:Nat):List UInt8:=if h:n < 10 then [UInt8.ofNat (48+n)] else bR (n / 10) ++ [UInt8.ofNat (48+n % 10)]
termination_by n
decreasing_by omega
theorem fR{n:Nat}(h:n < 10):bR n=[UInt8.ofNat (48+n)]:=by rw [bR];simp [h]
theorem sQ{n:Nat}(h:¬ n < 10):bR n=bR (n / 10) ++ [UInt8.ofNat (48+n % 10)]:=by rw [bR];simp [h]
theorem mP:∀ (k n:Nat),n < 10 ^ k->1<=k->(bR n).length<=k
 | 0,n,h,h1=>by omega
 | k+1,n,h,_=>by
  by_cases h10:n < 10
  ·rw [fR h10];simp
  ·rw [sQ h10,List.length_append,List.length_singleton]
   have h2:n / 10 < 10 ^ k:=by rw [Nat.pow_succ] at h;omega
   cases k with
   | zero=>simp at h2;omega
   | succ k=>have:=mP (k+1) (n / 10) h2 (by omega);omega
end
section
open Go
def spE(x:Int):Bool:=x==93 || x==91 || x==45 || x==94
def cA(x:Int):List Int:=if spE x then [91,46,x,46,93] else [x]
def dO(r:Int × Int):List Int:=cA r.1 ++ (if r.1 < r.2 then 45 :: cA r.2 else [])
def bN:List (Int × Int)->List Int
 | []=>[]
 | r :: l=>dO r ++ bN l
def bU(c:Bool):List (Int × Int):=if c then [(0,55295),(57344,1114111)] else [(0,255)]
def spA(x:Int):Bool:=x==46 || x==91 || x==42 || x==94 || x==36 || x==92
def cH(x:Int):List Int:=if spA x then [92,x] else [x]
def cR(c:Bool)(L:List (Int × Int)):List Int:=
 if L=[] then [91,94] ++ bN (bU c) ++ [93]
 else if L=bU c then [46]
 else if L.length=1/\(L.headD (0,0)).1=(L.headD (0,0)).2 then cH (L.headD (0,0)).1
 else [91] ++ bN L ++ [93]
def dX(c:Bool)(x:Int):List UInt8:=if c then Lib.encodeRune x else [UInt8.ofNat x.toNat]
def aR(c:Bool)(l:List Int):List UInt8:=l.flatMap (dX c)
def dM(c:Bool)(L:List (Int × Int)):List UInt8:=aR c (cR c L)
theorem eA(c:Bool)(a b:List Int):aR c (a ++ b)=aR c a ++ aR c b:=by simp [aR]
theorem fG(c:Bool)(x:Int)(b:List Int):aR c (x :: b)=dX c x ++ aR c b:=by simp [aR]
theorem rN{x:Int}(h0:0<=x)(h1:x<=255):((UInt8.ofNat x.toNat).toNat:Int)=x:=by
 rw [UInt8.toNat_ofNat']
 omega
theorem vM(c:Bool)(x:Int):(dX c x).length<=4:=by
 unfold dX
 split
 ·have:=(Lib.runeCells_le x).2
  rwa [Lib.runeCells_length] at this
 ·simp
theorem eR(c:Bool)(l:List Int):(aR c l).length<=4 * l.length:=by
 induction l with
 | nil=>simp [aR]
 | cons x l ih=>rw [fG,List.length_append,List.length_cons];have:=vM c x;omega
theorem qH{x:Int}(h:spE x=true):x=93\/x=91\/x=45\/x=94:=by
 simp only [spE,Bool.or_eq_true,beq_iff_eq] at h
 omega
def jV(c:Bool)(r:Int × Int):Prop:=aI c r.1/\aI c r.2/\r.1<=r.2
theorem jR(c:Bool):∀ r∈bU c,jV c r:=by
 intro r hr
 unfold jV aI
 cases c with
 | true=>
  simp only [bU,if_true,List.mem_cons,List.not_mem_nil,or_false,top] at hr ⊢
  rcases hr with rfl | rfl <;> simp
 | false=>
  simp only [bU,Bool.false_eq_true,if_false,List.mem_cons,List.not_mem_nil,or_false,top] at hr ⊢
  subst hr;simp
theorem xL(c:Bool)(x:Int):In (bU c) x ↔ aI c x:=by
 unfold aI bU top
 cases c with
 | true=>simp only [if_true,aV,cQ,or_false,true_imp_iff];omega
 | false=>simp only [Bool.false_eq_true,if_false,aV,cQ,or_false,false_imp_iff,and_true]
theorem iG(c:Bool):IsC (bU c) (aI c):=by
 refine⟨?_,?_,xL c⟩
 ·cases c with
  | true=>exact⟨fun r hr=>(jR true r hr).2.2,by simp [bU]⟩
  | false=>exact⟨fun r hr=>(jR false r hr).2.2,by simp [bU]⟩
 ·intro r hr
  have:=jR c r hr
  unfold jV aI top at this
  cases c <;> simp only [if_true,Bool.false_eq_true,if_false] at this <;> omega
theorem fM{c f:Bool}{L:List (Int × Int)}(h:lE c f L):∀ r∈L,jV c r:=by
 intro r hr
 have hs:=h.1.cls.some r hr
 exact⟨((h.1.mem r.1).1 ⟨r,hr,Int.le_refl _,hs⟩).2,((h.1.mem r.2).1 ⟨r,hr,hs,Int.le_refl _⟩).2,hs⟩
end
theorem kK:(Tryz.prog.info? 21).map (fun i=>(i.zero,i.size,i.bytes))=some (some (.int .i32 0),1,4):=by kernel_rfl
theorem dD:Tryz.prog.underlying 87=some (.slice 21):=by kernel_rfl
def rns(l:List Int):List Value:=l.map (Value.int .i32)
theorem lG(l:List Int):(rns l).length=l.length:=by simp [rns]
theorem uO(a b:List Int):rns (a ++ b)=rns a ++ rns b:=by simp [rns]
abbrev RO(base:Nat)(w:World)(v:Value)(l:List Int):Prop:=w.ownsRow base 21 1 v l.length (rns l)
theorem RO.of{base n:Nat}{w:World}{v:Value}{a b:List Int}(h:w.ownsRow base 21 1 v n (rns a ++ rns b)):RO base w v (a ++ b):=by
 have e:n=(a ++ b).length:=by have:=h.1;simp [lG] at this;simp;omega
 rw [e] at h
 unfold RO
 rw [uO]
 exact h
theorem fH{base n size:Nat}{w w6:World}{v:Value}{xs:List Value}{t:TypeId}(ho:w.ownsRow base t size v n xs)(hg:w.grownBy w6 v.ownBlock)(hb:base<=w.heap.size):Below base w w6:=
 ((Fr.refl (blk v) w).grown hg fun _ hk=>hk).below hb (fun _ hk=>(aH ho hk).1)
abbrev Kr(w w':World):Prop:=Lib.OthersKept 21 none w w'
theorem sZ{base n:Nat}{w w6:World}{v:Value}{xs:List Value}{o:Obj}(ho:w.ownsRow base 21 1 v n xs)(hg:(w.alloc o).grownBy w6 v.ownBlock):Kr w w6:=
 ((Lib.OthersKept.refl _ _ w).alloc o).grown hg (Lib.ownsRowF_kind (World.ownsRowF_of (World.ownsRow.alloc ho o)))
theorem eP(x:Int):(cA x).length<=5:=by unfold cA;split <;> simp
theorem jS{base:Nat}{w:World}{v:Value}{l:List Int}(x:Int)(h:RO base w v l)(hl:l.length<=1000000000000)(hb:base<=w.heap.size) :
  Calls Tryz.prog 132 #[v,.int .i32 x] w fun e w'=>∃ v',e=.returned v'/\RO base w' v' (l ++ cA x)/\Below base w w'/\Kr w w':=by
 obtain⟨t0,hi,hz0,hz1,hz2⟩:=aQ kK
 obtain⟨q,c,rfl⟩:=aJ h
 have H:Hid (RO base w (.slice q l.length c) l):=h
 have HB:Hid (base<=w.heap.size):=hb
 clear h
 cases hs:spE x with
 | true=>
  have E:Hid (cA x=[91,46,x,46,93]):=by show cA x=_;unfold cA;rw [hs];rfl
  rcases qH hs with rfl | rfl | rfl | rfl
  all_goals
   clear hs
   go_enter Tryz.func132,Tryz.ntmps132
   go_wp2_with (at_builtin;refine wpList_append_own_at _ rfl _ _ 87 rfl base 21 t0 (.int .i32 0) 1 4 dD hi hz0 hz1 hz2 rfl (by decide) (.slice q l.length c) l.length (rns l) rfl (World.ownsRow.alloc H.out _) ⟨w.heap.size,0,none⟩ 5 5 (rns [91,46,_,46,93]) rfl rfl (jI _ #[.int .i32 91,.int .i32 46,.int .i32 _,.int .i32 46,.int .i32 93] _) (by simp [rns,Value.oneCell']) (by unfold maxLen;omega) (by omega) (by simp;omega) ?_;intro v' w6 hown' hgrow _ hblk;have A6:Hid (RO base w6 v' (l ++ [91,46,_,46,93])):=RO.of hown';have B6:Hid (Below base w w6):=((Below.refl base w).alloc HB.out _).trans (fH (World.ownsRow.alloc H.out _) hgrow (by simp;omega));have K6:Hid (Kr w w6):=sZ H.out hgrow;obtain⟨q6,c6,rfl⟩:=aJ hown';clear hown' hgrow hblk)
   go_ret
   exact⟨_,rfl,by rw [E.out];exact A6.out,B6.out,K6.out⟩
 | false=>
  have E:Hid (cA x=[x]):=by show cA x=_;unfold cA;rw [hs];rfl
  simp only [spE,Bool.or_eq_false_iff] at hs
  obtain⟨⟨⟨h1,h2⟩,h3⟩,h4⟩:=hs
  go_enter Tryz.func132,Tryz.ntmps132
  go_wp2_with (at_builtin;refine wpList_append_own_at _ rfl _ _ 87 rfl base 21 t0 (.int .i32 0) 1 4 dD hi hz0 hz1 hz2 rfl (by decide) (.slice q l.length c) l.length (rns l) rfl (World.ownsRow.alloc H.out _) ⟨w.heap.size,0,none⟩ 1 1 (rns [x]) rfl rfl (jI _ #[.int .i32 x] _) (by simp [rns,Value.oneCell']) (by unfold maxLen;omega) (by omega) (by simp;omega) ?_;intro v' w6 hown' hgrow _ hblk;have A6:Hid (RO base w6 v' (l ++ [x])):=RO.of hown';have B6:Hid (Below base w w6):=((Below.refl base w).alloc HB.out _).trans (fH (World.ownsRow.alloc H.out _) hgrow (by simp;omega));have K6:Hid (Kr w w6):=sZ H.out hgrow;obtain⟨q6,c6,rfl⟩:=aJ hown';clear hown' hgrow hblk)
  go_ret
  exact⟨_,rfl,by rw [E.out];exact A6.out,B6.out,K6.out⟩
theorem kM(l:List (Int × Int))(r:Int × Int):bN (l ++ [r])=bN l ++ dO r:=by
 induction l with
 | nil=>simp [bN]
 | cons x l ih=>rw [List.cons_append,bN,bN,ih,List.append_assoc]
theorem sB(r:Int × Int):(dO r).length<=11:=by
 unfold dO
 have:=eP r.1
 have:=eP r.2
 split <;> simp <;> omega
theorem gD(l:List (Int × Int)):(bN l).length<=11 * l.length:=by
 induction l with
 | nil=>simp [bN]
 | cons x l ih=>rw [bN,List.length_append,List.length_cons];have:=sB x;omega
theorem nV{x:Int}(h0:0<=x)(h1:x<=1114111):IntKind.wrap .i32 x=x:=by rw [IntKind.wrap_i32];omega
theorem sP(W:World)(a:Value)(t:TypeId):∀ (j:Nat) (u:Value),[a][j]?=some u->(W.alloc (.cells #[a] t)).cell? ((⟨W.heap.size,0,none⟩:Addr).add j)=some u:=jI W #[a] t
theorem eH{W0 w:World}{v vL:Value}{a:List Int}{L:List (Int × Int)}(hA:ArgR W0 vL L)(hb:Below W0.heap.size W0 w)(h:RO W0.heap.size w v a)(hl:L.length<=600000)(ha:a.length<=10)(hF:∀ r∈L,0<=r.1/\r.1<=1114111/\0<=r.2/\r.2<=1114111) :
  Calls Tryz.prog 89 #[v,vL] w fun e w'=>∃ v',e=.returned v'/\RO W0.heap.size w' v' (a ++ bN L ++ [93])/\Below W0.heap.size W0 w':=by
 obtain⟨t0,hi,hz0,hz1,hz2⟩:=aQ kK
 obtain⟨q,cap,rfl,hlen,-,hcells⟩:=hA.slice
 have HC:Hid (∀ (i:Nat) (r:Int × Int),L[i]?=some r->∃ g off,q=some ⟨g,off,none⟩/\g < W0.heap.size/\W0.cell? ⟨g,off+2 * i,none⟩=some (.int .i64 r.1)/\W0.cell? ⟨g,off+2 * i+1,none⟩=some (.int .i64 r.2)):=hcells
 have HF:Hid (∀ r∈L,0<=r.1/\r.1<=1114111/\0<=r.2/\r.2<=1114111):=hF
 have H0:Hid (RO W0.heap.size w v a/\Below W0.heap.size W0 w):=⟨h,hb⟩
 obtain⟨q0,c0,rfl⟩:=aJ h
 unfold maxLen at hlen
 clear hA hcells hF h hb
 go_enter Tryz.func89,Tryz.ntmps89
 go_wp2
 go_loopw [0,9] (fun t i wr=>∃ k:Nat,k<=L.length/\i=.int .i64 (k:Int)/\RO W0.heap.size wr t (a ++ bN (L.take k))/\Below W0.heap.size W0 wr) (fun _ i _=>L.length - (intOf i).toNat)
 case atStart=>exact⟨0,Nat.zero_le _,rfl,by simpa [bN] using H0.out.1,H0.out.2⟩
 case round=>
  obtain⟨k,hk,rfl,hO,hB⟩:=hrel
  obtain⟨qr,cr,rfl⟩:=aJ hO
  have O:Hid _:=hO
  have B:Hid _:=hB
  have hsz:=hB.size
  obtain⟨N,hN⟩:∃ N,(a ++ bN (L.take k)).length=N:=⟨_,rfl⟩
  have hNl:N<=6600010:=by
   rw [<- hN,List.length_append]
   have:=gD (L.take k)
   have:(L.take k).length<=L.length:=by simp;omega
   omega
  obtain⟨M,hM⟩:∃ M,a ++ bN (L.take k)=M:=⟨_,rfl⟩
  have HM:Hid (a ++ bN (L.take k)=M):=hM
  rw [hM] at O hN ⊢
  subst hN
  clear hO hB hM
  by_cases hlt:k < L.length
  ·obtain⟨r,hr⟩:∃ r,L[k]?=some r:=⟨_,List.getElem?_eq_getElem hlt⟩
   obtain⟨g,off,rfl,hg,x1,x2⟩:=HC.out k r hr
   have d1:=(B.out.cell (p:=⟨g,off+2 * k,none⟩) hg).trans x1
   have d2:=(B.out.cell (p:=⟨g,off+2 * k+1,none⟩) hg).trans x2
   rw [Nat.mul_comm] at d1 d2
   have hgr:g < wr.heap.size:=Nat.lt_of_lt_of_le hg hsz
   have NX:Hid (a ++ bN (L.take (k+1))=M ++ dO r):=by
    show a ++ bN (L.take (k+1))=M ++ dO r
    obtain⟨hk',rfl⟩:=List.getElem?_eq_some_iff.1 hr
    rw [bC L k hk',kM,<- List.append_assoc,HM.out]
   obtain⟨f0,f1,f2,f3⟩:=HF.out r (List.mem_of_getElem? hr)
   have i0:(0:Int)<=(k:Int):=by omega
   have i1:(k:Int) < (L.length:Int):=by omega
   have hwr:IntKind.wrap .i64 ((k:Int)+1)=(k:Int)+1:=wrap_small _ (by omega) (by omega)
   clear x1 x2 hr
   obtain⟨lo,hi'⟩:=r
   dsimp only at d1 d2 f0 f1 f2 f3
   have w1:=nV f0 f1
   have w2:=nV f2 f3
   have OA:Hid (RO W0.heap.size (wr.alloc (.cells #[.int .i64 lo,.int .i64 hi'] 48)) (.slice qr M.length cr) M):=World.ownsRow.alloc O.out _
   have BA:Hid (Below W0.heap.size W0 (wr.alloc (.cells #[.int .i64 lo,.int .i64 hi'] 48))):=B.out.alloc hsz _
   have XA:Hid ((wr.alloc (.cells #[.int .i64 lo,.int .i64 hi'] 48)).heap[wr.heap.size]?=some (.cells #[.int .i64 lo,.int .i64 hi'] 48 (0,0))):=aE wr _
   obtain⟨M5,hM5⟩:∃ M5,M ++ cA lo=M5:=⟨_,rfl⟩
   have HM5:Hid (M ++ cA lo=M5):=hM5
   have hl5:M5.length<=6600015:=by rw [<- hM5,List.length_append];have:=eP lo;omega
   clear hM5
   by_cases hgt:lo < hi'
   ·have E:Hid (dO (lo,hi')=cA lo ++ 45 :: cA hi'):=by show dO (lo,hi')=_;unfold dO;rw [if_pos hgt]
    go_upto_region 6 with (go_at_call 132;refine(jS lo OA.out (by omega) (by simp;omega)).mono ?_;rintro e w5 ⟨v5,rfl,h51,h52,h53⟩;rw [HM5.out] at h51;have O5:Hid (RO W0.heap.size w5 v5 M5):=h51;have B5:Hid (Below W0.heap.size W0 w5):=BA.out.trans h52;have X5:Hid (w5.heap[wr.heap.size]?=some (.cells #[.int .i64 lo,.int .i64 hi'] 48 (0,0))):=h53 _ _ XA.out (by simp) (fun c fz e=>by cases e);have c50:=aA X5.out (i:=0) rfl;have c51:=aA X5.out (i:=1) rfl;have l5:=aC X5.out;obtain⟨q5,k5,rfl⟩:=aJ h51;clear h51 h52 h53)
    have hs5:W0.heap.size<=w5.heap.size:=B5.out.size
    go_region_law first
     |(refine dH rfl _ _ 87 rfl W0.heap.size 21 t0 (.int .i32 0) 1 4 dD hi hz0 hz1 hz2 rfl (by decide) (.slice q5 M5.length k5) M5.length _ (by first | rfl | simp [Act.eval,Act.put]) (World.ownsRow.drew (World.ownsRow.alloc O5.out _)) ⟨w5.heap.size,0,none⟩ 1 1 (rns [45]) (by first | rfl | simp [Act.eval,Act.put]) rfl (sP _ _ _) (by simp [rns,Value.oneCell']) (by unfold maxLen;omega) (by omega) (by simp;omega) ?_;intro v' w6 hown' hgrow hblk;have O6:Hid (RO W0.heap.size w6 v' (M5 ++ [45])):=RO.of hown';have B6:Hid (Below W0.heap.size W0 w6):=((B5.out.alloc hs5 _).drew).trans (fH (World.ownsRow.drew (World.ownsRow.alloc O5.out _)) hgrow (by simp;omega));have K6:Hid (Kr w5 w6):=(((Lib.OthersKept.refl _ _ w5).alloc _).drew).grown hgrow (Lib.ownsRowF_kind (World.ownsRowF_of (World.ownsRow.drew (World.ownsRow.alloc O5.out _))));have X6:Hid (w6.heap[wr.heap.size]?=some (.cells #[.int .i64 lo,.int .i64 hi'] 48 (0,0))):=K6.out _ _ X5.out (by simp) (fun c fz e=>by cases e);have c60:=aA X6.out (i:=0) rfl;have c61:=aA X6.out (i:=1) rfl;obtain⟨q6,k6,rfl⟩:=aJ hown';clear hown' hgrow hblk)
     |(go_simp;go_at_call 132;refine(jS hi' O6.out (by simp;omega) B6.out.size).mono ?_;rintro e w7 ⟨v7,rfl,h71,h72,h73⟩;have O7:Hid (RO W0.heap.size w7 v7 (M5 ++ [45] ++ cA hi')):=h71;have B7:Hid (Below W0.heap.size W0 w7):=B6.out.trans h72;clear h71 h72 h73)
    all_goals go_wp2
    all_goals
     refine⟨⟨k+1,by omega,by go_num,?_,B7.out⟩,by simp [intOf];omega⟩
     rw [NX.out,E.out]
     have:=O7.out
     rw [<- HM5.out] at this
     simpa using this
   ·have E:Hid (dO (lo,hi')=cA lo):=by show dO (lo,hi')=_;unfold dO;rw [if_neg hgt,List.append_nil]
    go_wp2_with (go_at_call 132;refine(jS lo OA.out (by omega) (by simp;omega)).mono ?_;rintro e w5 ⟨v5,rfl,h51,h52,h53⟩;rw [HM5.out] at h51;have O5:Hid (RO W0.heap.size w5 v5 M5):=h51;have B5:Hid (Below W0.heap.size W0 w5):=BA.out.trans h52;have X5:Hid (w5.heap[wr.heap.size]?=some (.cells #[.int .i64 lo,.int .i64 hi'] 48 (0,0))):=h53 _ _ XA.out (by simp) (fun c fz e=>by cases e);have c50:=aA X5.out (i:=0) rfl;have c51:=aA X5.out (i:=1) rfl;obtain⟨q5,k5,rfl⟩:=aJ h51;clear h51 h52 h53)
    go_roundw
    case rel=>exact⟨k+1,by omega,by go_num,by rw [NX.out,E.out,HM5.out];exact O5.out,B5.out⟩
    case measure=>simp [intOf];omega
  ·obtain rfl:k=L.length:=by omega
   have i1:¬ (L.length:Int) < (L.length:Int):=by omega
   have NX:Hid (a ++ bN L=M):=by show a ++ bN L=M;rw [<- HM.out,List.take_length]
   go_wp2_with (at_builtin;refine wpList_append_own_at _ rfl _ _ 87 rfl W0.heap.size 21 t0 (.int .i32 0) 1 4 dD hi hz0 hz1 hz2 rfl (by decide) (.slice qr M.length cr) M.length (rns M) rfl (World.ownsRow.alloc O.out _) ⟨wr.heap.size,0,none⟩ 1 1 (rns [93]) rfl rfl (sP _ _ _) (by simp [rns,Value.oneCell']) (by unfold maxLen;omega) (by omega) (by simp;omega) ?_;intro v' w6 hown' hgrow _ hblk;have A6:Hid (RO W0.heap.size w6 v' (M ++ [93])):=RO.of hown';have B6:Hid (Below W0.heap.size W0 w6):=(B.out.alloc hsz _).trans (fH (World.ownsRow.alloc O.out _) hgrow (by simp;omega));obtain⟨q6,c6,rfl⟩:=aJ hown';clear hown' hgrow hblk)
   go_ret
   exact⟨_,rfl,by first |(rw [NX.out];exact A6.out) |(rw [<- List.append_assoc,NX.out];exact A6.out),B6.out⟩
theorem gB:(Tryz.prog.info? 5).map (fun i=>(i.zero,i.size,i.bytes))=some (some (.int .u8 0),1,1):=by kernel_rfl
theorem eY:Tryz.prog.underlying 52=some (.slice 5):=by kernel_rfl
theorem lA:Tryz.prog.underlying 9=some .string:=by kernel_rfl
theorem nX:Tryz.prog.underlying 51=some (.pointer 54):=by kernel_rfl
theorem rL:Tryz.prog.underlying 172=some .unsafePointer:=by kernel_rfl
theorem rU:(Tryz.prog.info? 54).map (·.size)=some 2:=by kernel_rfl
def txt(l:List UInt8):ByteArray:=⟨l.toArray⟩
theorem aK(l:List UInt8):(txt l).size=l.length:=by simp [txt,ByteArray.size]
theorem qE(l:List UInt8):Lib.strCells (txt l)=Lib.byteCells l:=rfl
abbrev OB(base:Nat)(w:World)(v:Value)(l:List UInt8):Prop:=w.ownsRow base 5 1 v l.length (Lib.byteCells l)
structure BT(T:TypeId)(k:Nat):Prop where
 ne:T≠5
 lies:liesAt Tryz.prog Tryz.prog.depth T ((k+2) / Tryz.prog.cellsOf T) k 54 1=true
theorem bt0:BT 54 0:=⟨by decide,by kernel_rfl⟩
theorem bt2:BT 56 2:=⟨by decide,by kernel_rfl⟩
abbrev Oth(b:Nat)(w w':World):Prop:=Lib.OthersKept 5 (some b) w w'
def BL(T:TypeId)(base:Nat)(w:World)(b:Nat)(pre:List Value)(l:List UInt8):Prop:=
 ∃ p v,w.heap[b]?=some (.cells (pre ++ [p,v]).toArray T (0,0))/\(p=.pointer none\/p=.pointer (some ⟨b,pre.length,none⟩))/\OB base w v l/\(l=[]->v=.slice none 0 0)/\base<=b
theorem fP{w:World}{b:Nat}{T:TypeId}{pre:List Value}{p v:Value}(h:w.heap[b]?=some (.cells (pre ++ [p,v]).toArray T (0,0))) :
  w.cell? ⟨b,pre.length,none⟩=some p/\w.cell? ⟨b,pre.length+1,none⟩=some v/\∀ i,w.frozen? ⟨b,i,none⟩=false:=
 ⟨aA h (by simp),aA h (by simp),bL h⟩
theorem lI{w:World}{b:Nat}{T:TypeId}{pre:List Value}{p v:Value}(h:w.heap[b]?=some (.cells (pre ++ [p,v]).toArray T (0,0)))(q:Value) :
  (w.setCell ⟨b,pre.length,none⟩ q).heap[b]?=some (.cells (pre ++ [q,v]).toArray T (0,0))/\(w.setCell ⟨b,pre.length+1,none⟩ q).heap[b]?=some (.cells (pre ++ [p,q]).toArray T (0,0)):=by
 refine⟨(aZ h _ _).trans ?_,(aZ h _ _).trans ?_⟩
 ·congr 2
  apply Array.ext'
  simp
 ·congr 2
  apply Array.ext'
  simp
theorem jH{base:Nat}{w:World}{v:Value}{l:List UInt8}{b:Nat}{cs:Array Value}{T:TypeId}(h:OB base w v l)(hb:w.heap[b]?=some (.cells cs T (0,0)))(hT:T≠5):v.ownBlock≠some b:=bK h hb hT
theorem oP{base:Nat}{w:World}{v:Value}{l:List UInt8}{b:Nat}(h:OB base w v l)(hn:v.ownBlock≠some b)(i:Nat)(q:Value):OB base (w.setCell ⟨b,i,none⟩ q) v l:=
 aX h ((Fr.refl (fun z=>z=b) w).setCell (p:=⟨b,i,none⟩) rfl q) (fun k hk e=>hn (by rw [hk,e]))
def xM(T:TypeId)(base:Nat)(w:World)(b:Nat)(pre:List Value)(l:List UInt8)(e:Ending)(w':World):Prop:=
 e=.returned (.tuple #[])/\(∃ v,w'.heap[b]?=some (.cells (pre ++ [.pointer (some ⟨b,pre.length,none⟩),v]).toArray T (0,0))/\OB base w' v l/\(l=[]->v=.slice none 0 0)/\base<=b)/\Below base w w'/\Oth b w w'
theorem iM{T:TypeId}{base:Nat}{w:World}{b:Nat}{pre:List Value}{l:List UInt8}(hT:BT T pre.length)(h:BL T base w b pre l) :
  Calls Tryz.prog 81 #[.pointer (some ⟨b,pre.length,none⟩)] w (xM T base w b pre l):=by
 obtain⟨p,v,h1,h2,h3,h4,h5⟩:=h
 obtain⟨c0,c1,fz⟩:=fP h1
 obtain⟨j,hj,hjs⟩:=Option.map_eq_some_iff.1 rU
 have H:Hid (w.heap[b]?=some (.cells (pre ++ [p,v]).toArray T (0,0))/\OB base w v l/\(l=[]->v=.slice none 0 0)/\base<=b):=⟨h1,h3,h4,h5⟩
 have hsh:w.shape? b=some (T,pre.length+2):=by simp [World.shape?,h1]
 clear h1 h3 h4 h5
 obtain⟨k,hk⟩:∃ k,pre.length=k:=⟨_,rfl⟩
 have lies:=hT.lies
 have HK:Hid (pre.length=k):=hk
 rw [hk] at c0 c1 h2 hsh lies ⊢
 clear hk
 rcases h2 with rfl | rfl
 ·have fz0:=fz k
  go_enter Tryz.func81,Tryz.ntmps81
  go_wp2
  rw [Lib.run_to_unsafe w ⟨b,k,none⟩ nX rL hj (by rw [hjs];decide) hsh (by simp only;omega)]
  simp only [Result.andThen]
  rw [Oper.upon_value]
  go_wp2
  rw [run_callFunc_extern Tryz.func118 (by kernel_rfl) (by kernel_rfl) (by kernel_rfl) (e:=Extern.AbiNoEscape.same) (by kernel_rfl)]
  rw [Lib.run_noEscape]
  simp only [Result.andThen]
  rw [Oper.upon_value]
  go_wp2
  rw [Lib.run_from_unsafe w ⟨b,k,none⟩ rL nX hj hsh lies]
  simp only [Result.andThen]
  rw [Oper.upon_value]
  go_wp2
  go_end0
  rw [<- HK.out]
  refine⟨rfl,⟨v,(lI H.out.1 _).1,oP H.out.2.1 (jH H.out.2.1 H.out.1 hT.ne) _ _,H.out.2.2.1,H.out.2.2.2⟩,(Below.refl base w).setCell (p:=⟨b,_,none⟩) H.out.2.2.2 _,(Lib.OthersKept.refl _ _ w).setCell ⟨b,_,none⟩ rfl _⟩
 ·go_enter Tryz.func81,Tryz.ntmps81
  go_wp2
  rw [Lib.run_neq_ptr_same w _ nX hj]
  go_wp2
  go_end0
  exact⟨rfl,⟨v,by rw [HK.out];exact H.out.1,H.out.2⟩,Below.refl base _,Lib.OthersKept.refl _ _ _⟩
def gY(T:TypeId)(base:Nat)(w:World)(b:Nat)(pre:List Value)(l:List UInt8)(w':World):Prop:=BL T base w' b pre l/\Below base w w'/\Oth b w w'
theorem dW{T:TypeId}{base:Nat}{w:World}{b:Nat}{pre:List Value}{l:List UInt8}(hT:BT T pre.length)(h:BL T base w b pre l)(s:List UInt8)(hl:l.length+s.length<=140737488355328)(hb:base<=w.heap.size) :
  Calls Tryz.prog 36 #[.pointer (some ⟨b,pre.length,none⟩),.string (txt s)] w fun e w'=>e=.returned (.tuple #[.int .i64 (s.length:Int),.nilIface])/\gY T base w b pre (l ++ s) w':=by
 obtain⟨t0,hi,hz0,hz1,hz2⟩:=aQ gB
 have HC:=iM hT h
 have hz:=aK s
 have HB:Hid (base<=w.heap.size):=hb
 obtain⟨k,hk⟩:∃ k,pre.length=k:=⟨_,rfl⟩
 have HK:Hid (pre.length=k):=hk
 rw [hk] at HC ⊢
 clear hk h
 go_enter Tryz.func36,Tryz.ntmps36
 go_wp2_with (go_at_call 81;(with_reducible refine HC.mono ?_))
 rintro e w1 ⟨rfl,⟨v,h1,h2,h3,h4⟩,h5,h6⟩
 obtain⟨c0,c1,fz⟩:=fP h1
 rw [HK.out] at c0 c1
 have X1:Hid (w1.heap[b]?=some (.cells (pre ++ [.pointer (some ⟨b,pre.length,none⟩),v]).toArray T (0,0))/\OB base w1 v l/\(l=[]->v=.slice none 0 0)/\base<=b/\Below base w w1/\Oth b w w1):=⟨h1,h2,h3,h4,h5,h6⟩
 have hs1:=h5.size
 clear h1 h2 h3 h4 h5 h6
 go_wp2_with (at_builtin;refine Lib.wpList_append_own_string _ rfl _ _ 52 9 rfl base 5 t0 eY lA hi hz0 hz1 hz2 _ _ _ rfl X1.out.2.1 (txt s) rfl ?c3 ?c4 ?c5 ?_)
 case c3=>rw [hz];unfold maxLen;omega
 case c4=>rw [hz];omega
 case c5=>omega
 intro v' w2 hown' hgrow hnil
 have hb2:w2.heap[b]?=some (.cells (pre ++ [.pointer (some ⟨b,pre.length,none⟩),v]).toArray T (0,0)):=by
  rw [hgrow.block b (aC X1.out.1) (fun e=>jH X1.out.2.1 X1.out.1 hT.ne e.symm)]
  exact X1.out.1
 obtain⟨d0,d1,fz2⟩:=fP hb2
 rw [HK.out] at d0 d1
 have f1:=fz2 (k+1)
 rw [qE] at hown'
 have X2:Hid (w2.heap[b]?=some (.cells (pre ++ [.pointer (some ⟨b,pre.length,none⟩),v]).toArray T (0,0))/\w2.ownsRow base 5 1 v' (l.length+s.length) (Lib.byteCells l ++ Lib.byteCells s)/\w1.grownBy w2 v.ownBlock):=⟨hb2,hown',hgrow⟩
 have N2:Hid _:=hnil
 obtain⟨q2,k2,rfl⟩:=aJ hown'
 clear hb2 hown' hgrow hnil
 go_wp2
 go_ret2
 have hO:OB base w2 (.slice q2 (l.length+s.length) k2) (l ++ s):=by
  unfold OB
  rw [List.length_append,show Lib.byteCells (l ++ s)=Lib.byteCells l ++ Lib.byteCells s by simp [Lib.byteCells]]
  exact X2.out.2.1
 refine⟨by first | rfl | rw [hz],⟨_,_,(by rw [<- HK.out];exact(lI X2.out.1 _).2),.inr rfl,?_,fun e=>?_,X1.out.2.2.2.1⟩,?_,?_⟩
 ·exact oP hO (jH hO X2.out.1 hT.ne) _ _
 ·obtain⟨e1,e2⟩:=List.append_eq_nil_iff.1 e
  exact N2.out.2 ⟨X1.out.2.2.1 e1,by simp [e2]⟩
 ·exact(X1.out.2.2.2.2.1.trans ((Below.refl base w1).grown X2.out.2.2 (by omega) (fun k hk=>(aH X1.out.2.1 hk).1))).setCell (p:=⟨b,_,none⟩) X1.out.2.2.2.1 _
 ·exact(X1.out.2.2.2.2.2.grown X2.out.2.2 (Lib.ownsRowF_kind (World.ownsRowF_of X1.out.2.1))).setCell ⟨b,_,none⟩ rfl _
theorem wY(W:World)(a:Value)(t:TypeId):∀ (j:Nat) (u:Value),[a][j]?=some u->(W.alloc (.cells #[a] t)).cell? ((⟨W.heap.size,0,none⟩:Addr).add j)=some u:=by
 intro j u h
 match j,h with
 | 0,h=>
  simp at h
  subst h
  have e:(⟨W.heap.size,0,none⟩:Addr).add 0=⟨W.heap.size,0,none⟩:=by simp [Addr.add]
  rw [e]
  exact aA (aE W _) rfl
theorem lX{T:TypeId}{base:Nat}{w:World}{b:Nat}{pre:List Value}{l:List UInt8}(hT:BT T pre.length)(h:BL T base w b pre l)(x:UInt8)(hl:l.length+1<=140737488355328)(hb:base<=w.heap.size) :
  Calls Tryz.prog 39 #[.pointer (some ⟨b,pre.length,none⟩),.int .u8 (x.toNat:Int)] w fun e w'=>e=.returned .nilIface/\gY T base w b pre (l ++ [x]) w':=by
 obtain⟨t0,hi,hz0,hz1,hz2⟩:=aQ gB
 have HC:=iM hT h
 have HB:Hid (base<=w.heap.size):=hb
 obtain⟨k,hk⟩:∃ k,pre.length=k:=⟨_,rfl⟩
 have HK:Hid (pre.length=k):=hk
 rw [hk] at HC ⊢
 clear hk h
 go_enter Tryz.func39,Tryz.ntmps39
 go_wp2_with (go_at_call 81;(with_reducible refine HC.mono ?_))
 rintro e w1 ⟨rfl,⟨v,h1,h2,h3,h4⟩,h5,h6⟩
 obtain⟨c0,c1,fz⟩:=fP h1
 rw [HK.out] at c0 c1
 have X1:Hid (w1.heap[b]?=some (.cells (pre ++ [.pointer (some ⟨b,pre.length,none⟩),v]).toArray T (0,0))/\OB base w1 v l/\(l=[]->v=.slice none 0 0)/\base<=b/\Below base w w1/\Oth b w w1):=⟨h1,h2,h3,h4,h5,h6⟩
 have hs1:=h5.size
 clear h1 h2 h3 h4 h5 h6
 go_wp2_with (at_builtin;refine wpList_append_own_at _ rfl _ _ 52 rfl base 5 t0 (.int .u8 0) 1 1 eY hi hz0 hz1 hz2 rfl (by decide) _ _ _ rfl (World.ownsRow.alloc X1.out.2.1 _) ⟨w1.heap.size,0,none⟩ 1 1 (Lib.byteCells [x]) rfl rfl (wY _ _ _) (by simp [Lib.byteCells,Value.oneCell']) ?c3 ?c4 ?c5 ?_)
 case c3=>unfold maxLen;omega
 case c4=>omega
 case c5=>simp;omega
 intro v' w2 hown' hgrow _ hblk
 have hb1':(w1.alloc (.cells #[.int .u8 (x.toNat:Int)] 5)).heap[b]?=some (.cells (pre ++ [.pointer (some ⟨b,pre.length,none⟩),v]).toArray T (0,0)):=(Below.heap_alloc w1 _ b (aC X1.out.1)).trans X1.out.1
 have hb2:w2.heap[b]?=some (.cells (pre ++ [.pointer (some ⟨b,pre.length,none⟩),v]).toArray T (0,0)):=by
  rw [hgrow.block b (aC hb1') (fun e=>jH X1.out.2.1 X1.out.1 hT.ne e.symm)]
  exact hb1'
 obtain⟨d0,d1,fz2⟩:=fP hb2
 rw [HK.out] at d0 d1
 have f1:=fz2 (k+1)
 have X2:Hid (w2.heap[b]?=some (.cells (pre ++ [.pointer (some ⟨b,pre.length,none⟩),v]).toArray T (0,0))/\w2.ownsRow base 5 1 v' (l.length+1) (Lib.byteCells l ++ Lib.byteCells [x])/\(w1.alloc (.cells #[.int .u8 (x.toNat:Int)] 5)).grownBy w2 v.ownBlock):=⟨hb2,hown',hgrow⟩
 obtain⟨q2,k2,rfl⟩:=aJ hown'
 clear hb2 hown' hgrow hblk hb1'
 go_wp2
 go_ret
 have hO:OB base w2 (.slice q2 (l.length+1) k2) (l ++ [x]):=by
  unfold OB
  rw [List.length_append,show Lib.byteCells (l ++ [x])=Lib.byteCells l ++ Lib.byteCells [x] by simp [Lib.byteCells]]
  exact X2.out.2.1
 refine⟨rfl,⟨_,_,(by rw [<- HK.out];exact(lI X2.out.1 _).2),.inr rfl,oP hO (jH hO X2.out.1 hT.ne) _ _,fun e=>(by simp at e),X1.out.2.2.2.1⟩,?_,?_⟩
 ·exact(X1.out.2.2.2.2.1.trans (((Below.refl base w1).alloc (by omega) _).grown X2.out.2.2 (by simp;omega) (fun k hk=>(aH X1.out.2.1 hk).1))).setCell (p:=⟨b,_,none⟩) X1.out.2.2.2.1 _
 ·exact((X1.out.2.2.2.2.2.alloc _).grown X2.out.2.2 (Lib.ownsRowF_kind (World.ownsRowF_of (World.ownsRow.alloc X1.out.2.1 _)))).setCell ⟨b,_,none⟩ rfl _
theorem vC{T:TypeId}{base:Nat}{w:World}{b:Nat}{pre:List Value}{l:List UInt8}(h:BL T base w b pre l) :
  Calls Tryz.prog 56 #[.pointer (some ⟨b,pre.length,none⟩)] w fun e w'=>e=.returned (.int .i64 (l.length:Int))/\w'=w:=by
 obtain⟨p,v,h1,h2,h3,h4,h5⟩:=h
 obtain⟨c0,c1,fz⟩:=fP h1
 obtain⟨q,c,rfl⟩:=aJ h3
 clear h1 h2 h3 h4 h5
 obtain⟨k,hk⟩:∃ k,pre.length=k:=⟨_,rfl⟩
 rw [hk] at c0 c1 ⊢
 clear hk
 go_enter Tryz.func56,Tryz.ntmps56
 go_wp2
 go_ret
 exact⟨rfl,rfl⟩
theorem mA{T:TypeId}{base:Nat}{w:World}{b:Nat}{pre:List Value}{l:List UInt8}(h:BL T base w b pre l) :
  Calls Tryz.prog 25 #[.pointer (some ⟨b,pre.length,none⟩)] w fun e w'=>e=.returned (.string (txt l))/\Below base w w'/\Oth b w w':=by
 obtain⟨p,v,h1,h2,h3,h4,h5⟩:=h
 obtain⟨c0,c1,fz⟩:=fP h1
 obtain⟨k,hk⟩:∃ k,pre.length=k:=⟨_,rfl⟩
 rw [hk] at c0 c1 ⊢
 clear hk h1 h2 h5
 have H3:Hid (OB base w v l):=h3
 by_cases h0:l=[]
 ·subst h0
  have hv:=h4 rfl
  subst hv
  have hUS:∀ W:World,(Builtin.unsafeString_ #[104,3] 9 #[.pointer none,.int .i64 0]).run Tryz.prog W=.ok (.string .empty) W:=fun W=>Lib.run_unsafeString_none W _ _ _ none
  have c1':w.drew.cell? ⟨b,k+1,none⟩=some (.slice none 0 0):=c1
  have hSD:(Builtin.unsafeSliceData_ #[52] 104 #[.slice none 0 0]).run Tryz.prog w.drew=.ok (.pointer none) w.drew:=rfl
  clear h3 h4
  go_enter Tryz.func25,Tryz.ntmps25
  go_wp2
  go_region
  all_goals (go_wp2;go_ret;exact⟨rfl,Below.drew (Below.refl base w),(Lib.OthersKept.refl _ _ w).drew⟩)
 ·have hl0:l.length≠0:=fun e=>h0 (List.eq_nil_of_length_eq_zero e)
  obtain⟨g,cap,cur,rfl,hbg,hg,hnc,hcm,hcs,htake⟩:∃ g cap cur,v=.slice (some ⟨g,0,none⟩) l.length cap/\base<=g/\w.heap[g]?=some (.cells cur 5 (0,0))/\l.length<=cap/\cap<=maxLen/\cur.size=cap * 1/\cur.toList.take (l.length * 1)=Lib.byteCells l:=by
   rcases h3.2 with⟨_,hz⟩ | ⟨g,cap,cur,hv,r⟩
   ·exact absurd hz hl0
   ·exact⟨g,cap,cur,hv,r⟩
  have c1':w.drew.cell? ⟨b,k+1,none⟩=some (.slice (some ⟨g,0,none⟩) l.length cap):=c1
  have hSD:(Builtin.unsafeSliceData_ #[52] 104 #[.slice (some ⟨g,0,none⟩) l.length cap]).run Tryz.prog w.drew=.ok (.pointer (some ⟨g,0,none⟩)) w.drew:=
   Lib.run_unsafeSliceData_row _ _ _ _ _ _ (by omega)
  have hUS:(Builtin.unsafeString_ #[104,3] 9 #[.pointer (some ⟨g,0,none⟩),.int .i64 (l.length:Int)]).run Tryz.prog w.drew=.ok (.string (txt l)) (w.drew.freeze ⟨g,0,none⟩ l.length):=by
   refine Lib.run_unsafeString_row w.drew 104 3 9 5 Tryz.underlying104 (by kernel_rfl) g cur.size (by have hg':w.drew.heap[g]?=some (.cells cur 5 (0,0)):=hg;simp [World.shape?,hg']) l h0 (by omega) (by unfold maxLen at hcm;omega) ?_
   intro j x hx
   exact H3.out.cells (g:=g) rfl j (.int .u8 x.toNat) (by simp [Lib.byteCells,hx])
  have HBG:Hid (base<=g/\w.heap[g]?=some (.cells cur 5 (0,0))):=⟨hbg,hg⟩
  clear h3 h4 hg hnc hcm hcs htake h0 hl0 hbg
  go_enter Tryz.func25,Tryz.ntmps25
  go_wp2
  go_region
  all_goals (go_wp2;go_ret;exact⟨rfl,Lib.below_freeze (Below.drew (Below.refl base w)) (p:=⟨g,0,none⟩) HBG.out.1 _,((Lib.OthersKept.refl _ _ w).drew).freeze ⟨g,0,none⟩ _ ⟨_,_,HBG.out.2⟩⟩)
theorem xI{x:Int}(h:aI true x):Utf8.encode x=txt (Lib.encodeRune x):=by
 obtain⟨h0,h1,h2⟩:=h
 have h3:=h2 rfl
 simp only [top,if_true] at h1
 have hv:Utf8.valid x=true:=by rw [validRune_eq];unfold validRune;exact decide_eq_true (by omega)
 have u:∀ n:Nat,∀ z:Int,z=(n:Int)->UInt8.ofNat n=z.toNat.toUInt8:=fun n z e=>by rw [e,Int.toNat_natCast]
 unfold Utf8.encode Lib.encodeRune txt
 simp only [hv,if_true]
 split
 ·rw [Lib.encodeRuneZ_one h0 (by omega)]
  rfl
 ·split
  ·rw [Lib.encodeRuneZ_two (by omega) (by omega)]
   simp only [List.map_cons,List.map_nil]
   rw [u _ (192+x / 64) (by omega),u _ (128+x % 64) (by omega)]
  ·split
   ·rw [Lib.encodeRuneZ_three (by omega)]
    simp only [List.map_cons,List.map_nil]
    rw [u _ (224+x / 4096) (by omega),u _ (128+x / 64 % 64) (by omega),u _ (128+x % 64) (by omega)]
   ·rw [Lib.encodeRuneZ_four (by omega) h1]
    simp only [List.map_cons,List.map_nil]
    rw [u _ (240+x / 262144) (by omega),u _ (128+x / 4096 % 64) (by omega),u _ (128+x / 64 % 64) (by omega),u _ (128+x % 64) (by omega)]
theorem bB(a b:List UInt8):txt a ++ txt b=txt (a ++ b):=by
 unfold txt
 apply ByteArray.ext
 simp [ByteArray.data_append]
theorem qJ:∀ (l:List Int),(∀ x∈l,aI true x)->runesBytes l=txt (aR true l):=by
 have key:∀ (l:List Int) (a:List UInt8),(∀ x∈l,aI true x)->l.foldl (fun r n=>r ++ Utf8.encode n) (txt a)=txt (a ++ aR true l):=by
  intro l
  induction l with
  | nil=>intro a _;simp [aR]
  | cons x l ih=>
   intro a h
   rw [List.foldl_cons,xI (h x (List.mem_cons_self ..)),bB,ih _ (fun y hy=>h y (List.mem_cons_of_mem _ hy)),fG,List.append_assoc]
   rfl
 intro l h
 exact key l [] h
theorem sA{base:Nat}{w:World}{g c:Nat}{l:List Int}(h:RO base w (.slice (some ⟨g,0,none⟩) l.length c) l){j:Nat}{x:Int}(hx:l[j]?=some x):w.cell? ⟨g,j,none⟩=some (.int .i32 x):=bF h (by simp [rns,hx])
theorem oV{base:Nat}{w:World}{v:Value}{l:List Int}(h:RO base w v l)(hl:∀ x∈l,aI true x):(convert 87 9 v).run Tryz.prog w=.ok (.string (txt (aR true l))) w:=by
 rcases h.2 with⟨rfl,hn⟩ | ⟨g,cap,cur,rfl,hg,hc,h1,h2,h3,h4⟩
 ·rw [List.eq_nil_of_length_eq_zero hn]
  exact run_convert_runes_nil w _ _ 21 0 0 dD Tryz.underlying21 lA
 ·have:=run_convert_runes (P:=Tryz.prog) w 87 9 21 ⟨g,0,none⟩ l.length cap l lz9 dD Tryz.underlying21 lA (fun j hj=>by
   have e:(⟨g,0,none⟩:Addr).add j=⟨g,j,none⟩:=by unfold Addr.add;simp;omega
   rw [e]
   have:=sA h (List.getElem?_eq_getElem hj)
   rw [this,List.getD_eq_getElem?_getD,List.getElem?_eq_getElem hj]
   rfl)
  rw [List.take_length,qJ l hl] at this
  exact this
theorem nH{w:World}{base n:Nat}{v:Value}{l:List UInt8}(h:w.ownsRow base 5 1 v n (Lib.byteCells l)):(convert 52 9 v).run Tryz.prog w=.ok (.string (txt l)) w:=by
 have hl:l.length=n:=by have:=h.1;rw [Lib.byteCells_length] at this;omega
 subst hl
 rcases h.2 with⟨rfl,hn⟩ | ⟨g,cap,cur,rfl,hg,hc,h1,h2,h3,h4⟩
 ·have:l=[]:=List.eq_nil_of_length_eq_zero hn
  subst this
  exact run_convert_bytes_nil _ _ 5 Tryz.underlying52 Tryz.underlying5 0 0 _ Tryz.underlying9
 ·refine run_convert_bytes_back w _ _ 5 ⟨g,0,none⟩ cap l Tryz.underlying52 Tryz.underlying5 Tryz.underlying9 (fun j hj=>?_)
  have:=bF h (j:=j) (u:=.int .u8 (l[j].toNat:Int)) (by simp [Lib.byteCells,hj])
  have e:(⟨g,0,none⟩:Addr).add j=⟨g,j,none⟩:=by unfold Addr.add;simp;omega
  rw [e];exact this
theorem sV(n:Nat)(h:n<=140737488355328)(w:World) :
  (Instr.makeSlice 52 (.int .i64 (n:Int)) (.int .i64 (n:Int))).run Tryz.prog w=.ok (.slice (some ⟨w.heap.size,0,none⟩) n n) (w.alloc (.cells (Lib.byteCells (List.replicate n 0)).toArray 5)):=by
 obtain⟨i0,hi,hz0,hz1,hz2⟩:=aQ gB
 have:=run_make (P:=Tryz.prog) w 52 5 i0 (.int .u8 0) eY hi hz0 .i64 .i64 (n:Int) (n:Int) (by omega) (by omega) (by rw [hz2];omega) (by omega)
 rw [hz1] at this
 have e:madeCells #[.int .u8 0] n=(Lib.byteCells (List.replicate n 0)).toArray:=by
  apply Array.ext
  ·simp [madeCells,Lib.byteCells]
  intro i h1 h2
  simp [madeCells,Lib.byteCells,Nat.mod_one]
 rw [<- e]
 simpa [Value.cells] using this
def fJ(l:List Int)(k:Nat):List UInt8:=(aR false (l.take k)) ++ List.replicate (l.length - k) 0
theorem iE(l:List Int):aR false l=l.map fun x=>UInt8.ofNat x.toNat:=by
 induction l with
 | nil=>rfl
 | cons x l ih=>rw [fG,ih];rfl
theorem nN(l:List Int)(k:Nat)(h:k<=l.length):(fJ l k).length=l.length:=by
 unfold fJ
 rw [iE];simp;omega
theorem uB(l:List Int)(k:Nat)(h:k < l.length):(fJ l k).set k (UInt8.ofNat (l[k]).toNat)=fJ l (k+1):=by
 unfold fJ
 rw [iE,iE,bC l k h]
 have e:(l.take k).length=k:=by simp;omega
 rw [List.set_append_right _ _ (by simp;omega)]
 rw [List.length_map,e,Nat.sub_self]
 obtain⟨d,hd⟩:∃ d,l.length - k=d+1:=⟨l.length - k - 1,by omega⟩
 rw [hd,List.replicate_succ,List.set_cons_zero,show l.length - (k+1)=d by omega,List.map_append,List.map_singleton,List.append_assoc]
 rfl
theorem xN{x:Int}(h0:0<=x)(h1:x<=255):IntKind.wrap .u8 x=x:=by
 rw [IntKind.wrap_u8];omega
theorem kH{base:Nat}{w:World}{v:Value}{l:List Int}(c f:Bool)(h:RO base w v l)(hl:∀ x∈l,aI c x)(hn:l.length<=100000000) :
  Calls Tryz.prog 41 #[v,.agg #[.bool c,.bool f]] w fun e w'=>e=.returned (.string (txt (aR c l)))/\Below w.heap.size w w':=by
 obtain⟨q,k0,rfl⟩:=aJ h
 have H:Hid (RO base w (.slice q l.length k0) l):=h
 have HL:Hid (∀ x∈l,aI c x):=hl
 clear h hl
 cases c with
 | true=>
  have hcv:=oV (World.ownsRow.alloc H.out (.cells #[.bool true,.bool f] 27)) HL.out
  go_enter Tryz.func41,Tryz.ntmps41
  go_wp2
  go_ret
  exact⟨rfl,bz9⟩
 | false=>
  have hmk:=sV l.length (by omega)
  have hnew:∀ W:World,(W.alloc (.cells (Lib.byteCells (List.replicate l.length 0)).toArray 5)).heap[W.heap.size]?=some (.cells (Lib.byteCells (fJ l 0)).toArray 5 (0,0)):=fun W=>by
   have e:fJ l 0=List.replicate l.length 0:=by simp [fJ,aR]
   rw [e];exact aE W _
  have HNEW:Hid _:=hnew
  clear hnew
  generalize (Lib.byteCells (List.replicate l.length 0)).toArray=Z at hmk HNEW
  go_enter Tryz.func41,Tryz.ntmps41
  go_wp2
  have N1:Hid (((w.alloc (.cells #[.bool false,.bool f] 27)).alloc (.cells Z 5)).heap[w.heap.size+1]?=some (.cells (Lib.byteCells (fJ l 0)).toArray 5 (0,0))):=aB (by have:=HNEW.out (w.alloc (.cells #[.bool false,.bool f] 27));simpa using this)
  have B1:Hid (Below w.heap.size w ((w.alloc (.cells #[.bool false,.bool f] 27)).alloc (.cells Z 5))):=(bz9).alloc (by simp) _
  go_loopw [17] (fun i wr=>∃ k:Nat,k<=l.length/\i=.int .i64 (k:Int)/\wr.heap[w.heap.size+1]?=some (.cells (Lib.byteCells (fJ l k)).toArray 5 (0,0))/\Below w.heap.size w wr) (fun i _=>l.length - (intOf i).toNat)
  case atStart=>exact⟨0,Nat.zero_le _,rfl,N1.out,B1.out⟩
  case round=>
   obtain⟨k,hk,rfl,hrow,hb⟩:=hrel
   have ROW:Hid (wr.heap[w.heap.size+1]?=some (.cells (Lib.byteCells (fJ l k)).toArray 5 (0,0))):=hrow
   have B:Hid (Below w.heap.size w wr):=hb
   have hfz:=bL hrow k
   clear hrow hb
   by_cases hlt:k < l.length
   ·obtain⟨g,gc,hv⟩:=aM H.out (by omega)
    injection hv with hq hn2 hc2
    subst hq hc2
    obtain⟨x,hx⟩:∃ x,l[k]?=some x:=⟨_,List.getElem?_eq_getElem hlt⟩
    have hgw:=(aH H.out (g:=g) rfl).2.1
    have d1:=(B.out.cell (p:=⟨g,k,none⟩) hgw).trans (sA H.out hx)
    obtain⟨x0,x1,-⟩:=HL.out x (List.mem_of_getElem? hx)
    simp only [top,Bool.false_eq_true,if_false] at x1
    have hw8:=xN x0 x1
    have i0:(0:Int)<=(k:Int):=by omega
    have i1:(k:Int) < (l.length:Int):=by omega
    have hwr:IntKind.wrap .i64 ((k:Int)+1)=(k:Int)+1:=wrap_small _ (by omega) (by omega)
    have hcell:∃ u,wr.cell? ⟨w.heap.size+1,k,none⟩=some u:=by
     have:k < (Lib.byteCells (fJ l k)).length:=by rw [Lib.byteCells_length,nN l k hk];exact hlt
     exact⟨(Lib.byteCells (fJ l k))[k],aA ROW.out (by rw [List.getElem?_toArray,List.getElem?_eq_getElem this])⟩
    obtain⟨u,hu⟩:=hcell
    have SET:Hid ((wr.setCell ⟨w.heap.size+1,k,none⟩ (.int .u8 x)).heap[w.heap.size+1]?=some (.cells (Lib.byteCells (fJ l (k+1))).toArray 5 (0,0))):=by
     refine(aZ ROW.out _ _).trans ?_
     obtain⟨hk',rfl⟩:=List.getElem?_eq_some_iff.1 hx
     rw [<- uB l k hk']
     congr 2
     apply Array.ext'
     have:=rN x0 x1
     simp only [Array.toList_setIfInBounds,Lib.byteCells,List.map_set]
     rw [this]
    clear hx
    go_wp2
    go_roundw
    case rel=>exact⟨k+1,by omega,by go_num,SET.out,B.out.setCell (p:=⟨w.heap.size+1,k,none⟩) (by simp) _⟩
    case measure=>simp [intOf];omega
   ·obtain rfl:k=l.length:=by omega
    have i1:¬ (l.length:Int) < (l.length:Int):=by omega
    have e:fJ l l.length=aR false l:=by unfold fJ;simp
    have hln:(aR false l).length=l.length:=by rw [<- e];exact nN l _ lz9
    have hcv:(convert 52 9 (.slice (some ⟨w.heap.size+1,0,none⟩) l.length l.length)).run Tryz.prog wr=.ok (.string (txt (aR false l))) wr:=by
     refine nH (base:=0) (n:=l.length) ⟨by rw [Lib.byteCells_length,hln];omega,.inr ⟨_,_,(Lib.byteCells (aR false l)).toArray,rfl,Nat.zero_le _,by rw [<- e];exact ROW.out,Nat.le_refl _,by unfold maxLen;omega,by simp [Lib.byteCells,hln],?_⟩⟩
     simp [Lib.byteCells,<- hln]
     exact List.take_of_length_le (by simp)
    clear e hln
    go_wp2
    go_ret
    exact⟨rfl,B.out⟩
section
attribute [local go_sem] aT
theorem hU(w:World)(l:List Int)(hl:l.length<=1000):RO w.heap.size (w.alloc (.cells (rns l).toArray 21)) (.slice (some ⟨w.heap.size,0,none⟩) l.length l.length) l:=
 ⟨by rw [lG];omega,.inr ⟨w.heap.size,_,_,rfl,Nat.le_refl _,aE w _,Nat.le_refl _,by unfold maxLen;omega,by simp [lG],by simp [rns,List.take_of_length_le]⟩⟩
theorem vX(x:Int)(w:World):Calls Tryz.prog 91 #[.int .i32 x] w fun e w'=>∃ v,e=.returned v/\RO w.heap.size w' v (cH x)/\Below w.heap.size w w':=by
 cases hs:spA x with
 | true=>
  have E:Hid (cH x=[92,x]):=by show cH x=_;unfold cH;rw [hs];rfl
  have hx:x=46\/x=91\/x=42\/x=94\/x=36\/x=92:=by simp only [spA,Bool.or_eq_true,beq_iff_eq] at hs;omega
  clear hs
  rcases hx with rfl | rfl | rfl | rfl | rfl | rfl
  all_goals
   go_enter Tryz.func91,Tryz.ntmps91
   go_wp2
   go_ret
   exact⟨_,rfl,by rw [E.out];exact hU w [92,_] (by simp),bz9⟩
 | false=>
  have E:Hid (cH x=[x]):=by show cH x=_;unfold cH;rw [hs];rfl
  simp only [spA,Bool.or_eq_false_iff] at hs
  obtain⟨⟨⟨⟨⟨h1,h2⟩,h3⟩,h4⟩,h5⟩,h6⟩:=hs
  go_enter Tryz.func91,Tryz.ntmps91
  go_wp2
  go_ret
  exact⟨_,rfl,by rw [E.out];exact hU w [x] (by simp),bz9⟩
theorem gH{w:World}(c:Bool):Calls Tryz.prog 88 #[.slice none 0 0,.bool c] w fun e w'=>∃ v,e=.returned v/\RR w.heap.size w' v (bU c)/\Below w.heap.size w w':=by
 refine(xT (w:=w) (L:=[]) (m:=c) (.inl ⟨none,0,rfl,rfl,fun _=>rfl⟩) (fun r hr=>by cases hr) (by simp)).mono ?_
 rintro e w' ⟨v,C,rfl,h1,h2,h3,h4⟩
 have:C=bU c:=h2.one (iG c) (fun x=>⟨fun q=>q.1,fun q=>⟨q,cQ x⟩⟩)
 subst this
 exact⟨v,rfl,h1,h4⟩
theorem qC(c:Bool):(bU c).length<=2/\bU c≠[]:=by cases c <;> simp [bU]
theorem iZ{c:Bool}{r:Int × Int}(h:jV c r):0<=r.1/\r.1<=1114111/\0<=r.2/\r.2<=1114111:=by
 obtain⟨⟨a,b,-⟩,⟨d,e,-⟩,-⟩:=h
 unfold top at b e
 cases c <;> simp only [if_true,Bool.false_eq_true,if_false] at b e <;> omega
theorem kW{w:World}{v:Value}{L:List (Int × Int)}(c f:Bool)(h:ArgR w v L)(hS:IsC L (fun x=>In L x/\aI c x)) :
  Calls Tryz.prog 42 #[v,.agg #[.bool c,.bool f]] w fun e w'=>∃ v',e=.returned v'/\RO w.heap.size w' v' (cR c L)/\Below w.heap.size w w':=by
 have hlen:L.length<=600000:=eK hS
 have hbd:∀ r∈L,0<=r.1/\r.1<=1114111/\0<=r.2/\r.2<=1114111:=fun r hr=>iZ (fM (f:=false) ⟨hS,fun q=>by cases q⟩ r hr)
 have HS:Hid (IsC L (fun x=>In L x/\aI c x)):=hS
 have HBD:Hid (∀ r∈L,0<=r.1/\r.1<=1114111/\0<=r.2/\r.2<=1114111):=hbd
 have HA:Hid (ArgR w v L):=h
 have hal:=qC c
 obtain⟨q,cap,rfl,-,-,hcells⟩:=h.slice
 have HC:Hid (∀ (i:Nat) (r:Int × Int),L[i]?=some r->∃ g off,q=some ⟨g,off,none⟩/\g < w.heap.size/\w.cell? ⟨g,off+2 * i,none⟩=some (.int .i64 r.1)/\w.cell? ⟨g,off+2 * i+1,none⟩=some (.int .i64 r.2)):=hcells
 have FitL:Hid (Fit L):=hS.fit
 clear h hS hbd hcells
 by_cases c1:L=[]
 ·subst c1
  have E:Hid (cR c []=[91,94] ++ bN (bU c) ++ [93]):=by show cR c []=_;unfold cR;rw [if_pos rfl]
  go_enter Tryz.func42,Tryz.ntmps42
  go_wp2_with first
   |(go_at_call 88;(with_reducible refine(gH c).mono ?_);rintro e w2 ⟨va,rfl,h21,h22⟩;have A2:Hid (ArgR w2 va (bU c)):=h21.arg;have B2:Hid (Below w.heap.size w w2):=aF (bz9) h22 lz9;clear h21 h22)
   |(go_at_call 89;refine(eH (W0:=w2) (L:=bU c) (a:=[91,94]) A2.out (bz9) (hU w2 [91,94] (by simp)) (by omega) (by simp) (fun r hr=>iZ (jR c r hr))).mono ?_;rintro e w3 ⟨v3,rfl,h31,h32⟩;have O3:Hid (RO w.heap.size w3 v3 ([91,94] ++ bN (bU c) ++ [93])):=bE h31 B2.out.size;have B3:Hid (Below w.heap.size w w3):=aF B2.out h32 lz9;clear h31 h32)
  go_ret
  exact⟨_,rfl,by rw [E.out];exact O3.out,B3.out⟩
 have hpos:0 < L.length:=List.length_pos_iff.2 c1
 have n0:((L.length:Int)==0)=false:=by rw [beq_eq_false_iff_ne];omega
 have z0:(L.length==0)=false:=by rw [beq_eq_false_iff_ne];omega
 by_cases c2:L=bU c
 ·have E:Hid (cR c L=[46]):=by show cR c L=_;unfold cR;rw [if_neg c1,if_pos c2]
  have HQ:Hid (∀ x,In L x ↔ In (bU c) x):=by show ∀ x,In L x ↔ In (bU c) x;rw [c2];exact fun _=>Iff.rfl
  clear c2 c1
  go_enter Tryz.func42,Tryz.ntmps42
  go_wp2_with first
   |(go_at_call 88;(with_reducible refine(gH c).mono ?_);rintro e w2 ⟨va,rfl,h21,h22⟩;have A2:Hid (ArgR w2 va (bU c)):=h21.arg;have B2:Hid (Below w.heap.size w w2):=aF (bz9) h22 lz9;clear h21 h22)
   |(go_at_call 90;refine(qI (HA.out.kept B2.out) A2.out FitL.out (iG c).fit (by omega) (by omega) HQ.out).mono ?_;rintro e w3 ⟨rfl,h3⟩;have B3:Hid (Below w.heap.size w w3):=aF B2.out h3 lz9;clear h3)
  go_ret
  exact⟨_,rfl,by rw [E.out];exact bE (hU w3 [46] (by simp)) B3.out.size,B3.out.alloc B3.out.size _⟩
 have HQ:Hid (¬ ∀ x,In L x ↔ In (bU c) x):=fun q=>c2 (fW _ _ HS.out.cls (iG c).cls q)
 by_cases c3:L.length=1/\(L.headD (0,0)).1=(L.headD (0,0)).2
 ·have E:Hid (cR c L=cH (L.headD (0,0)).1):=by show cR c L=_;unfold cR;rw [if_neg c1,if_neg c2,if_pos c3]
  obtain⟨⟨x,y⟩,rfl⟩:∃ r,L=[r]:=by
   match L,c3.1 with
   | [r],_=>exact⟨r,rfl⟩
  obtain rfl:x=y:=c3.2
  obtain⟨g,off,rfl,hg,d1,d2⟩:=HC.out 0 (x,x) rfl
  obtain⟨b0,b1,-⟩:=HBD.out (x,x) (by simp)
  have hw32:=nV b0 b1
  simp only [Nat.mul_zero,Nat.add_zero] at d1 d2
  clear c1 c2 c3 HC b0 b1
  go_enter Tryz.func42,Tryz.ntmps42
  go_upto_region 6 with first
   |(go_at_call 88;(with_reducible refine(gH c).mono ?_);rintro e w2 ⟨va,rfl,h21,h22⟩;have A2:Hid (ArgR w2 va (bU c)):=h21.arg;have B2:Hid (Below w.heap.size w w2):=aF (bz9) h22 lz9;clear h21 h22)
   |(go_at_call 90;refine(fN (HA.out.kept B2.out) A2.out FitL.out (iG c).fit (by omega) (by omega) HQ.out).mono ?_;rintro e w3 ⟨rfl,h3⟩;have B3:Hid (Below w.heap.size w w3):=aF B2.out h3 lz9;clear h3)
  have k1:=(B3.out.cell (p:=⟨g,off,none⟩) hg).trans d1
  have k2:=(B3.out.cell (p:=⟨g,off+1,none⟩) hg).trans d2
  have hg3:g < w3.heap.size:=Nat.lt_of_lt_of_le hg B3.out.size
  refine wx9 ?_
  repeat (go_big_quiet_step (first | exact rfl))
  refine wpQuiet_nil ?_
  intro w4 hw
  have k3:=((aL hw).cell (p:=⟨g,off,none⟩) hg3).trans k1
  have hg4:g < w4.heap.size:=Nat.lt_of_lt_of_le hg3 (aL hw).size
  have B4:Hid (Below w.heap.size w w4):=aF B3.out (aL hw) lz9
  clear hw k1 k2 d1 d2
  go_wp2_with (go_at_call 91;(with_reducible refine(vX _ _).mono ?_);rintro e w5 ⟨v5,rfl,h51,h52⟩;have O5:Hid (RO w.heap.size w5 v5 (cH x)):=bE h51 B4.out.size;have B5:Hid (Below w.heap.size w w5):=aF B4.out h52 lz9;clear h51 h52)
  go_ret
  exact⟨_,rfl,by rw [E.out];exact O5.out,B5.out⟩
 ·have E:Hid (cR c L=[91] ++ bN L ++ [93]):=by show cR c L=_;unfold cR;rw [if_neg c1,if_neg c2,if_neg c3]
  by_cases c4:L.length=1
  ·obtain⟨⟨x,y⟩,rfl⟩:∃ r,L=[r]:=by
    match L,c4 with
    | [r],_=>exact⟨r,rfl⟩
   have hxy:(x==y)=false:=by rw [beq_eq_false_iff_ne];exact fun e=>c3 ⟨rfl,e⟩
   obtain⟨g,off,rfl,hg,d1,d2⟩:=HC.out 0 (x,y) rfl
   simp only [Nat.mul_zero,Nat.add_zero] at d1 d2
   clear c1 c2 c3 c4 HC
   go_enter Tryz.func42,Tryz.ntmps42
   go_upto_region 6 with first
    |(go_at_call 88;(with_reducible refine(gH c).mono ?_);rintro e w2 ⟨va,rfl,h21,h22⟩;have A2:Hid (ArgR w2 va (bU c)):=h21.arg;have B2:Hid (Below w.heap.size w w2):=aF (bz9) h22 lz9;clear h21 h22)
    |(go_at_call 90;refine(fN (HA.out.kept B2.out) A2.out FitL.out (iG c).fit (by omega) (by omega) HQ.out).mono ?_;rintro e w3 ⟨rfl,h3⟩;have B3:Hid (Below w.heap.size w w3):=aF B2.out h3 lz9;clear h3)
   have k1:=(B3.out.cell (p:=⟨g,off,none⟩) hg).trans d1
   have k2:=(B3.out.cell (p:=⟨g,off+1,none⟩) hg).trans d2
   have hg3:g < w3.heap.size:=Nat.lt_of_lt_of_le hg B3.out.size
   refine wx9 ?_
   repeat (go_big_quiet_step (first | exact rfl))
   refine wpQuiet_nil ?_
   intro w4 hw
   have B4:Hid (Below w.heap.size w w4):=aF B3.out (aL hw) lz9
   clear hw k1 k2 d1 d2
   go_wp2_with (go_at_call 89;refine(eH (W0:=w4) (L:=[(x,y)]) (a:=[91]) (HA.out.kept B4.out) (bz9) (hU w4 [91] (by simp)) hlen (by simp) HBD.out).mono ?_;rintro e w5 ⟨v5,rfl,h51,h52⟩;have O5:Hid (RO w.heap.size w5 v5 ([91] ++ bN [(x,y)] ++ [93])):=bE h51 B4.out.size;have B5:Hid (Below w.heap.size w w5):=aF B4.out h52 lz9;clear h51 h52)
   go_ret
   exact⟨_,rfl,by rw [E.out];exact O5.out,B5.out⟩
  ·have n1:((L.length:Int)==1)=false:=by rw [beq_eq_false_iff_ne];omega
   have z1:(L.length==1)=false:=by rw [beq_eq_false_iff_ne];omega
   clear c1 c2 c3 c4 HC
   go_enter Tryz.func42,Tryz.ntmps42
   go_upto_region 6 with first
    |(go_at_call 88;(with_reducible refine(gH c).mono ?_);rintro e w2 ⟨va,rfl,h21,h22⟩;have A2:Hid (ArgR w2 va (bU c)):=h21.arg;have B2:Hid (Below w.heap.size w w2):=aF (bz9) h22 lz9;clear h21 h22)
    |(go_at_call 90;refine(fN (HA.out.kept B2.out) A2.out FitL.out (iG c).fit (by omega) (by omega) HQ.out).mono ?_;rintro e w3 ⟨rfl,h3⟩;have B3:Hid (Below w.heap.size w w3):=aF B2.out h3 lz9;clear h3)
   refine wx9 ?_
   repeat (go_big_quiet_step (first | exact rfl))
   refine wpQuiet_nil ?_
   intro w4 hw
   have B4:Hid (Below w.heap.size w w4):=aF B3.out (aL hw) lz9
   clear hw
   go_wp2_with (go_at_call 89;refine(eH (W0:=w4) (L:=L) (a:=[91]) (HA.out.kept B4.out) (bz9) (hU w4 [91] (by simp)) hlen (by simp) HBD.out).mono ?_;rintro e w5 ⟨v5,rfl,h51,h52⟩;have O5:Hid (RO w.heap.size w5 v5 ([91] ++ bN L ++ [93])):=bE h51 B4.out.size;have B5:Hid (Below w.heap.size w w5):=aF B4.out h52 lz9;clear h51 h52)
   go_ret
   exact⟨_,rfl,by rw [E.out];exact O5.out,B5.out⟩
theorem fX{c:Bool}{L:List (Int × Int)}(hS:IsC L (fun x=>In L x/\aI c x)):(∀ x∈cR c L,aI c x)/\(cR c L).length<=7000000:=by
 have hlen:L.length<=600000:=eK hS
 have low:∀ x:Int,0<=x->x < 128->aI c x:=fun x h0 h1=>by unfold aI top;cases c <;> simp <;> omega
 have hr:=fM (f:=false) ⟨hS,fun q=>by cases q⟩
 have he:∀ y,aI c y->∀ x∈cA y,aI c x:=by
  intro y hy x hx
  unfold cA at hx
  split at hx
  ·simp only [List.mem_cons,List.not_mem_nil,or_false] at hx
   rcases hx with rfl | rfl | rfl | rfl | rfl
   ·exact low _ (by decide) (by decide)
   ·exact low _ (by decide) (by decide)
   ·exact hy
   ·exact low _ (by decide) (by decide)
   ·exact low _ (by decide) (by decide)
  ·rw [List.mem_singleton] at hx;subst hx;exact hy
 have ho:∀ r,jV c r->∀ x∈dO r,aI c x:=by
  intro r h x hx
  unfold dO at hx
  rcases List.mem_append.1 hx with q | q
  ·exact he _ h.1 x q
  ·split at q
   ·rcases List.mem_cons.1 q with rfl | q
    ·exact low _ (by decide) (by decide)
    ·exact he _ h.2.1 x q
   ·cases q
 have hR:∀ (l:List (Int × Int)),(∀ r∈l,jV c r)->∀ x∈bN l,aI c x:=by
  intro l
  induction l with
  | nil=>intro _ x hx;rw [bN] at hx;cases hx
  | cons r l ih=>
   intro h x hx
   rw [bN] at hx
   rcases List.mem_append.1 hx with q | q
   ·exact ho r (h r (List.mem_cons_self ..)) x q
   ·exact ih (fun y hy=>h y (List.mem_cons_of_mem _ hy)) x q
 have ha:=qC c
 have la:=gD (bU c)
 have ll:=gD L
 unfold cR
 split
 ·refine⟨fun x hx=>?_,by simp;omega⟩
  simp only [List.append_assoc,List.mem_append,List.mem_cons,List.not_mem_nil,or_false] at hx
  rcases hx with (rfl | rfl) | q | rfl
  ·exact low _ (by decide) (by decide)
  ·exact low _ (by decide) (by decide)
  ·exact hR _ (jR c) x q
  ·exact low _ (by decide) (by decide)
 split
 ·refine⟨fun x hx=>?_,by simp⟩
  rw [List.mem_singleton] at hx;subst hx
  exact low _ (by decide) (by decide)
 split
 ·rename_i h1 h2 h3
  obtain⟨r,rfl⟩:∃ r,L=[r]:=by
   match L,h3.1 with
   | [r],_=>exact⟨r,rfl⟩
  have hc:=(hr r (by simp)).1
  show (∀ x∈cH r.1,aI c x)/\(cH r.1).length<=7000000
  unfold cH
  split
  ·refine⟨fun x hx=>?_,by simp⟩
   simp only [List.mem_cons,List.not_mem_nil,or_false] at hx
   rcases hx with rfl | rfl
   ·exact low _ (by decide) (by decide)
   ·exact hc
  ·refine⟨fun x hx=>?_,by simp⟩
   rw [List.mem_singleton] at hx;subst hx
   exact hc
 ·refine⟨fun x hx=>?_,by simp;omega⟩
  simp only [List.append_assoc,List.mem_append,List.mem_cons,List.not_mem_nil,or_false] at hx
  rcases hx with rfl | q | rfl
  ·exact low _ (by decide) (by decide)
  ·exact hR _ hr x q
  ·exact low _ (by decide) (by decide)
theorem gQ{c:Bool}{L:List (Int × Int)}(hS:IsC L (fun x=>In L x/\aI c x)):(dM c L).length<=28000000:=by
 have:=eR c (cR c L)
 have:=(fX hS).2
 unfold dM
 omega
theorem jN{w:World}{v:Value}{L:List (Int × Int)}(c f:Bool)(h:ArgR w v L)(hF:Fit L)(hl:L.length+3<=8796093022208)(hS:¬ IsC L (fun x=>In L x/\aI c x)) :
  Calls Tryz.prog 15 #[v,.agg #[.bool c,.bool f]] w fun e w'=>e=.returned (.tuple #[.string (txt []),.int .i64 50])/\Below w.heap.size w w':=by
 have HA:Hid (ArgR w v L/\Fit L):=⟨h,hF⟩
 have HS:Hid (¬ IsC L (fun x=>In L x/\aI c x)):=hS
 clear h hF hS
 go_enter Tryz.func15,Tryz.ntmps15
 go_wp2_with (go_at_call 40;refine(iT (m:=c) (HA.out.1.kept (bz9)) HA.out.2 hl).mono ?_;rintro e w2 ⟨b,rfl,h21,h22⟩;obtain rfl:b=false:=(by cases b with | false=>rfl | true=>exact absurd (h21.1 rfl) HS.out);have B2:Hid (Below w.heap.size w w2):=aF (bz9) h22 lz9;clear h21 h22)
 go_ret2
 exact⟨rfl,B2.out⟩
theorem iF{w:World}{v:Value}{L:List (Int × Int)}(c f:Bool)(h:ArgR w v L)(hS:IsC L (fun x=>In L x/\aI c x)) :
  Calls Tryz.prog 15 #[v,.agg #[.bool c,.bool f]] w fun e w'=>e=.returned (.tuple #[.string (txt (dM c L)),.int .i64 0])/\Below w.heap.size w w':=by
 have HA:Hid (ArgR w v L):=h
 have HS:Hid (IsC L (fun x=>In L x/\aI c x)):=hS
 have hlen:L.length<=600000:=eK hS
 have HR:Hid ((∀ x∈cR c L,aI c x)/\(cR c L).length<=7000000):=fX hS
 have E:Hid (aR c (cR c L)=dM c L):=rfl
 obtain⟨qv,cv,rfl,-⟩:=h.slice
 clear h hS
 go_enter Tryz.func15,Tryz.ntmps15
 go_upto_region 3 with (go_at_call 40;refine(iT (m:=c) (HA.out.kept (bz9)) HS.out.fit (by omega)).mono ?_;rintro e w2 ⟨b,rfl,h21,h22⟩;obtain rfl:b=true:=h21.2 HS.out;have B2:Hid (Below w.heap.size w w2):=aF (bz9) h22 lz9;have X2:Hid (w2.heap[w.heap.size]?=some (.cells #[.bool c,.bool f] 27 (0,0))):=(h22.block _ (by simp)).trans (aE w _);clear h21 h22)
 have a0:=aA X2.out (i:=0) rfl
 have a1:=aA X2.out (i:=1) rfl
 have hl2:=aC X2.out
 go_region_with first
  |(go_at_call 42;refine(kW c f (HA.out.kept (B2.out.drew)) HS.out).mono ?_;rintro e w3 ⟨v3,rfl,h31,h32⟩;have O3:Hid (RO w2.heap.size w3 v3 (cR c L)):=h31;have B3:Hid (Below w.heap.size w w3):=aF B2.out.drew h32 lz9;have X3:Hid (w3.heap[w.heap.size]?=some (.cells #[.bool c,.bool f] 27 (0,0))):=(h32.block _ hl2).trans X2.out;have a30:=aA X3.out (i:=0) rfl;have a31:=aA X3.out (i:=1) rfl;obtain⟨q3,k3,rfl⟩:=aJ h31;clear h31 h32)
  |(go_at_call 41;refine(kH c f O3.out HR.out.1 (Nat.le_trans HR.out.2 (by decide))).mono ?_;rintro e w4 ⟨rfl,h4⟩;have B4:Hid (Below w.heap.size w w4):=aF B3.out h4 lz9;clear h4)
 all_goals go_wp2
 all_goals (go_ret2;exact⟨rfl,B4.out⟩)
end
section
open Go
def cX(a b:Int):List UInt8:=
 if a=0/\b=-1 then [42] else if a=1/\b=-1 then [92,43] else if a=0/\b=1 then [92,63]
 else [92,123] ++ bR a.toNat ++ (if b=a then [] else if b=-1 then [44] else 44 :: bR b.toNat) ++ [92,125]
end
end Go.Proofs.YticfnglebbakkaaGreatDoor
