/-
  Parts of the proof.
-/
import Derived.Test.YticfnglebbakkaaGreatDoorApartProofB0
import Derived.Test.YticfnglebbakkaaGreatDoorApartProofB13
import Derived.Lib.OthersKept
import Derived.Lib.LaidTab
import Derived.Lib.ItoaNum
import Derived.Test.YticfnglebbakkaaGreatDoorApartProofB1
import Derived.Test.YticfnglebbakkaaGreatDoorApartProofB12
import Derived.Test.YticfnglebbakkaaGreatDoorApartProofB9
import Derived.OwnWalk
import Derived.Laws.MakeOwn
import Derived.Test.YticfnglebbakkaaGreatDoorApartProofB10
set_option maxRecDepth 100000
set_option maxHeartbeats 8000000
namespace Go.Proofs.YticfnglebbakkaaGreatDoor
open Go Go.RowKit
abbrev Tabs(w:World):Prop:=Lib.Utf8Tabs 2 3 w
theorem lV{w:World}{b o:Nat}{v:Value}(h:w.cell? ⟨b,o,none⟩=some v):b < w.heap.size:=by
 rcases Nat.lt_or_ge b w.heap.size with g | g
 ·exact g
 ·have:w.heap[b]?=none:=Array.getElem?_eq_none g
  simp [World.cell?,this] at h
theorem Tabs.blocks{w:World}(h:Tabs w):2 < w.heap.size/\3 < w.heap.size:=⟨lV (h.1 0 (by omega)),lV (h.2 0 (by omega)).1⟩
theorem Tabs.to{w w':World}(h:Tabs w)(h1:w'.heap[2]?=w.heap[2]?)(h2:w'.heap[3]?=w.heap[3]?):Tabs w':=by
 refine⟨fun c hc=>?_,fun i hi=>?_⟩
 ·have:=h.1 c hc
  simpa [World.cell?,h1] using this
 ·have:=h.2 i hi
  simpa [World.cell?,h2] using this
abbrev Tens (w : World) : Prop := Lib.TabIs Tryz.prog w "internal/strconv.uint64pow10" .u64 Lib.pow10Tab
theorem sX : Tryz.prog.globalNamed "internal/strconv.uint64pow10" = some 1 := by kernel_rfl
theorem Tens.to{w w':World}(h:Tens w)(h1:w'.heap[1]?=w.heap[1]?):Tens w':=by
 unfold Tens Lib.TabIs World.var? at *
 rw [sX] at *
 simpa [h1] using h
def Glb(w:World):Prop:=Tabs w/\(∃ m,w.cell? ⟨0,0,none⟩=some (.int .i64 m))/\Tens w
theorem Glb.size{w:World}(h:Glb w):3 < w.heap.size:=h.1.blocks.2
theorem Glb.to{w w':World}(h:Glb w)(h0:w'.heap[0]?=w.heap[0]?)(h1:w'.heap[1]?=w.heap[1]?)(h2:w'.heap[2]?=w.heap[2]?)(h3:w'.heap[3]?=w.heap[3]?):Glb w':=by
 obtain⟨k1,⟨m,k2⟩,k3⟩:=h
 refine⟨k1.to h2 h3,⟨m,?_⟩,k3.to h1⟩
 simpa [World.cell?,h0] using k2
theorem Glb.below{n:Nat}{w w':World}(h:Glb w)(hb:Below n w w')(hn:3 < n):Glb w':=h.to (hb.block 0 (by omega)) (hb.block 1 (by omega)) (hb.block 2 (by omega)) (hb.block 3 hn)
theorem Glb.kept{w w':World}(h:Glb w)(hb:Below w.heap.size w w'):Glb w':=h.below hb h.size
theorem qV(s:ByteArray)(p:Nat)(w:World)(hp:p < s.size) :
  Calls Tryz.prog 124 #[.string s,.int .i64 (p:Int),.int .i32 ((Utf8.decode s p).1:Int)] w fun e w'=>e=.returned (.bool (bad s p))/\w'=w:=by
 obtain⟨r,hr⟩:∃ r,(Utf8.decode s p).1=r:=⟨_,rfl⟩
 rw [hr]
 have h0:(0:Int)<=(p:Int):=by omega
 have h1:(p:Int)<=(s.size:Int):=by omega
 have h2:¬ s.size < p:=by omega
 by_cases h:r=65533
 ·subst h
  have hb:=aC3 s p hp hr
  rw [<- xS] at hb
  clear hr
  go_enter Tryz.func124,Tryz.ntmps124
  go_wp2_with (go_at_call 83;refine(Tryz.strings_HasPrefix _ _ _).mono ?_;rintro e w' ⟨rfl,rfl⟩)
  all_goals (go_ret;refine⟨?_,rfl⟩)
  all_goals simp_all
 ·have hb:bad s p=false:=by simp [bad];intro q;rw [q] at hr;exact h hr.symm
  have hz:((r:Int)==65533)=false:=by simp;omega
  clear hr
  go_enter Tryz.func124,Tryz.ntmps124
  go_wp2
  go_ret
  exact⟨by rw [hb];rfl,rfl⟩
theorem zO(s:ByteArray)(p:Nat)(w:World)(hT:Tabs w)(hp:p < s.size)(hs:s.size<=maxLen) :
  Calls Tryz.prog 126 #[.string s,.int .i64 (p:Int)] w fun e w'=>e=.returned (.tuple #[.int .i64 (ch s p),.int .i64 (wd s p:Int)])/\Below w.heap.size w w':=by
 have HT:Hid (Tabs w):=hT
 have HS:Hid (s.size<=maxLen):=hs
 unfold maxLen at hs
 have hz:(s.extract p s.size).size=s.size - p:=by rw [ByteArray.size_extract];omega
 have hd:Lib.decodeGo (s.extract p s.size)=Utf8.decode s p:=by
  unfold Lib.decodeGo
  rw [if_neg (by rw [hz];omega),Lib.tail_decode];rfl
 have h0:¬ (p:Int) < 0:=by omega
 have h1:¬ (s.size:Int)<=(p:Int):=by omega
 have h2:(0:Int)<=(p:Int):=by omega
 have h3:(p:Int)<=(s.size:Int):=by omega
 have h4:¬ s.size < p:=by omega
 have HD:Hid (Utf8.decode s p=((Utf8.decode s p).1,(Utf8.decode s p).2)):=rfl
 have hc:=qV s p
 have hl:=yC s p
 rcases hb:bad s p with _ | _
 ·have e1:=oQ hb
  clear hT hz
  go_enter Tryz.func126,Tryz.ntmps126
  go_wp2_with first
   |(go_at_call 153;(with_reducible refine(Tryz.utf8_DecodeRuneInString _ _ HT.out).mono ?_);rw [hd];rintro e w1 ⟨rfl,hb1⟩)
   |(go_at_call 124;(with_reducible refine(hc _ hp).mono ?_);rw [hb];rintro e w' ⟨rfl,rfl⟩)
  go_ret2
  rw [e1]
  refine⟨?_,hb1⟩
  simp only [wd]
  rfl
 ·have e1:Hid _:=sM hb
  clear hT hz
  go_enter Tryz.func126,Tryz.ntmps126
  go_wp2_with first
   |(go_at_call 153;(with_reducible refine(Tryz.utf8_DecodeRuneInString _ _ HT.out).mono ?_);rw [hd];rintro e w1 ⟨rfl,hb1⟩)
   |(go_at_call 124;(with_reducible refine(hc _ hp).mono ?_);rw [hb];rintro e w' ⟨rfl,rfl⟩)
  go_ret2
  rw [e1.out.1,e1.out.2.1]
  exact⟨rfl,hb1⟩
theorem sC{w wr:World}{k n:Nat}{s:ByteArray}(h:Below n w wr)(hk:n<=k)(p:Nat):Below n w (wr.iterAt k s p):=Lib.below_iterAt h hk s p
section
attribute [local go_sem] bD
def RD(w:World)(b:Nat)(s:ByteArray)(m:Md)(p:Nat)(tv:Value):Prop:=
 w.heap[b]?=some (.cells #[.string s,.bool m.c,.bool m.f,.int .i64 (p:Int),tv] 114 (0,0))
end
section
attribute [local go_sem] bD
def LK(w:World)(b:Nat)(tv:Value)(last:Nat):Prop:=
 (tv=.slice none 0 0/\last=0)\/∃ g n c,tv=.slice (some ⟨g,0,none⟩) (n+1) c/\g≠b/\g < w.heap.size/\n<=2000/\1<=last/\w.cell? ⟨g,n * 7,none⟩=some (.int .i64 (last:Int))
end
abbrev Dt:=Tp × Value × List (Int × Int)
def tc(d:Dt):List Value:=[.int .i64 (d.1.1.kind:Int),.int .i64 (d.1.2.1:Int),.int .i64 (d.1.2.2:Int),.int .i64 (d.1.1.n:Int),.int .i64 d.1.1.mn,.int .i64 d.1.1.mx,d.2.1]
def tcs(D:List Dt):List Value:=D.flatMap tc
structure TL(base:Nat)(w:World)(v:Value)(D:List Dt):Prop where
 own:w.ownsRow base 116 7 v D.length (tcs D)
 each:∀ d∈D,RR base w d.2.1 d.2.2/\IsC d.2.2 d.1.1.q
 apart:D.Pairwise (fun a b=>∀ k,a.2.1.ownBlock=some k->b.2.1.ownBlock≠some k)
noncomputable def left (D:List Dt) (p g:Nat):List Sgn:=nV g ((D.map Prod.fst).drop p)
structure RI5(s:ByteArray)(w:World)(k pos:Nat)(e:TypeId)(v:Value)(n:Nat)(L:List Value)(wr:World):Prop where
 lo:w.heap.size<=k
 it:wr.heap[k]?=some (.stringIter s pos)
 own:wr.ownsRow w.heap.size e 1 v n L
 bel:Below w.heap.size w wr
theorem RI5.len{s:ByteArray}{w wr:World}{k pos n:Nat}{e:TypeId}{v:Value}{L:List Value}(h:RI5 s w k pos e v n L wr):w.heap.size<=wr.heap.size:=h.bel.size
theorem rW{wr:World}{base k p p' n:Nat}{e:TypeId}{s:ByteArray}{v:Value}{L:List Value}(h:wr.ownsRow base e 1 v n L)(hk:wr.heap[k]?=some (.stringIter s p)):(wr.iterAt k s p').ownsRow base e 1 v n L:=by
 obtain⟨h1,h2 | ⟨g,cap,cur,q1,q2,q3,q4⟩⟩:=h
 ·exact⟨h1,.inl h2⟩
 ·refine⟨h1,.inr ⟨g,cap,cur,q1,q2,?_,q4⟩⟩
  rw [Lib.iterAt_other _ _ _ _ _ (fun q=>by rw [q,hk] at q3;cases q3)]
  exact q3
theorem RI5.next{s:ByteArray}{w wr:World}{k pos n:Nat}{e:TypeId}{v:Value}{L:List Value}(h:RI5 s w k pos e v n L wr)(p:Nat):RI5 s w k p e v n L (wr.iterAt k s p):=
 ⟨h.lo,Lib.iterAt_heap wr k s pos p h.it,rW h.own h.it,sC h.bel h.lo p⟩
theorem RI5.app{s:ByteArray}{w wr w6:World}{k pos n m:Nat}{e:TypeId}{v v':Value}{L M:List Value}{o:Obj}(h:RI5 s w k pos e v n L wr)(hown:w6.ownsRow w.heap.size e 1 v' m M)(hg:(wr.alloc o).grownBy w6 v.ownBlock):RI5 s w k pos e v' m M w6:=by
 have hk:=aA h.it
 refine⟨h.lo,?_,hown,?_⟩
 ·rw [hg.block k (by simp;omega) ?_,Below.heap_alloc _ _ _ hk]
  ·exact h.it
  ·intro q
   obtain⟨_,_,cur,hc⟩:=aH h.own q.symm
   rw [h.it] at hc;cases hc
 ·exact dQ h.bel (((Fr.refl (fun z=>v.ownBlock=some z) wr).alloc _).grown hg (fun z hz=>hz)) lz9 (fun z hz=>(aH h.own hz).1)
def FR(N:Nat->Prop)(t:Tr):Prop:=cH (fun t=>∀ a,t.f.rq=some a->t.f.rs≠[]->N a.block) t
theorem fK:∀ (T:List Tp) (s:GS),(∀ t∈T,1<=t.1.kind/\t.1.kind<=8)->hk s.g (s.o.map Prod.fst).reverse s.e (nV s.g T)->∃ s',gck s T=.ok s'/\s'.o=[]
 | [],s,_,h=>by
  refine⟨s,rfl,?_⟩
  have:(s.o.map Prod.fst).reverse=[]:=h
  simpa using this
 | t :: T,s,hT,h=>by
  have hk1:=hT t (List.mem_cons_self ..)
  have hT':∀ u∈T,1<=u.1.kind/\u.1.kind<=8:=fun u hu=>hT u (List.mem_cons_of_mem _ hu)
  rw [nV] at h
  rw [gck]
  rcases xF hk1.1 hk1.2 with e | e | e | e | e | e | e | e
  ·simp only [sgT,gnx,e,Nat.reduceEqDiff,if_false,hk] at h
   simp only [glk,e,Nat.reduceEqDiff,if_false]
   exact fK T s hT' h.2
  ·simp only [sgT,gnx,e,Nat.reduceEqDiff,if_false,if_true] at h
   simp only [glk,e,Nat.reduceEqDiff,if_false]
   exact fK T s hT' h
  ·simp only [sgT,gnx,e,if_true,hk] at h
   have hg:¬ s.g=30:=by omega
   simp only [glk,e,if_true,if_neg hg]
   exact fK T ⟨s.g+1,s.o ++ [(s.g+1,t.2.1)],s.e⟩ hT' (by simpa using h.2.2)
  ·simp only [sgT,gnx,e,Nat.reduceEqDiff,if_false,if_true,hk] at h
   obtain⟨n,o',h1,h2⟩:=h
   simp only [glk,e,Nat.reduceEqDiff,if_false,if_true]
   cases hl:s.o.getLast? with
   | none=>
    rw [List.getLast?_eq_none_iff.1 hl] at h1
    cases h1
   | some x=>
    have hne:s.o≠[]:=fun z=>by rw [z] at hl;cases hl
    rw [List.getLast?_eq_some_getLast hne] at hl
    cases hl
    simp only
    have hx:=(List.dropLast_concat_getLast hne).symm
    rw [hx] at h1
    simp only [List.map_append,List.reverse_append,List.map_cons,List.map_nil,List.reverse_cons,List.reverse_nil,List.nil_append,List.cons_append] at h1
    injection h1 with h3 h4
    refine fK T ⟨s.g,s.o.dropLast,(s.o.getLast hne).1 :: s.e⟩ hT' ?_
    rw [h3,h4]
    exact h2
  ·simp only [sgT,gnx,e,Nat.reduceEqDiff,if_false,if_true] at h
   simp only [glk,e,Nat.reduceEqDiff,if_false]
   exact fK T s hT' h
  ·simp only [sgT,gnx,e,Nat.reduceEqDiff,if_false,if_true,hk] at h
   obtain⟨⟨i,hi,he⟩,h2⟩:=(show (∃ i∈s.e,(t.1.n:Int)=(i:Int))/\_ from ⟨h.1 trivial,h.2⟩)
   have:t.1.n∈s.e:=by rw [show t.1.n=i by omega];exact hi
   simp only [glk,e,Nat.reduceEqDiff,if_false,if_true,if_pos this]
   exact fK T s hT' h2
  ·simp only [sgT,gnx,e,Nat.reduceEqDiff,if_false,if_true,hk] at h
   simp only [glk,e,Nat.reduceEqDiff,if_false]
   exact fK T s hT' h.2
  ·simp only [sgT,gnx,e,Nat.reduceEqDiff,if_false,if_true,hk] at h
   simp only [glk,e,Nat.reduceEqDiff,if_false]
   exact fK T s hT' h.2
theorem aA1{T:List Tp}(hT:∀ t∈T,1<=t.1.kind/\t.1.kind<=8)(h:hk 0 [] [] (nV 0 T)):xM T=none:=by
 obtain⟨s',h1,h2⟩:=fK T gs0 hT h
 unfold xM
 rw [h1]
 simp only [h2]
end Go.Proofs.YticfnglebbakkaaGreatDoor
