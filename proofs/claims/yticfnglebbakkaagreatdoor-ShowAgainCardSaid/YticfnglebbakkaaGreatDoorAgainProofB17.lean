/-
  Parts of the proof.
-/
import Derived.Test.YticfnglebbakkaaGreatDoorAgainProofB0
import Derived.Test.YticfnglebbakkaaGreatDoorAgainProofB16
import Derived.Lib.OthersKept
import Derived.Lib.LaidTab
import Derived.Lib.ItoaNum
import Derived.Test.YticfnglebbakkaaGreatDoorAgainProofB15
import Derived.Test.YticfnglebbakkaaGreatDoorAgainProofB10
import Derived.Test.YticfnglebbakkaaGreatDoorAgainProofB1
set_option maxRecDepth 100000
set_option maxHeartbeats 8000000
namespace Go.Proofs.YticfnglebbakkaaGreatDoor
open Go Go.RowKit
abbrev Tabs(w:World):Prop:=Lib.Utf8Tabs 2 3 w
theorem qX{w:World}{b o:Nat}{v:Value}(h:w.cell? ⟨b,o,none⟩=some v):b < w.heap.size:=by
 rcases Nat.lt_or_ge b w.heap.size with g | g
 ·exact g
 ·have:w.heap[b]?=none:=Array.getElem?_eq_none g
  simp [World.cell?,this] at h
theorem Tabs.blocks{w:World}(h:Tabs w):2 < w.heap.size/\3 < w.heap.size:=⟨qX (h.1 0 (by omega)),qX (h.2 0 (by omega)).1⟩
theorem Tabs.to{w w':World}(h:Tabs w)(h1:w'.heap[2]?=w.heap[2]?)(h2:w'.heap[3]?=w.heap[3]?):Tabs w':=by
 refine⟨fun c hc=>?_,fun i hi=>?_⟩
 ·have:=h.1 c hc
  simpa [World.cell?,h1] using this
 ·have:=h.2 i hi
  simpa [World.cell?,h2] using this
abbrev Tens (w : World) : Prop := Lib.TabIs Tryz.prog w "internal/strconv.uint64pow10" .u64 Lib.pow10Tab
theorem aD7 : Tryz.prog.globalNamed "internal/strconv.uint64pow10" = some 1 := by kernel_rfl
theorem Tens.to{w w':World}(h:Tens w)(h1:w'.heap[1]?=w.heap[1]?):Tens w':=by
 unfold Tens Lib.TabIs World.var? at *
 rw [aD7] at *
 simpa [h1] using h
def Glb(w:World):Prop:=Tabs w/\(∃ m,w.cell? ⟨0,0,none⟩=some (.int .i64 m))/\Tens w
theorem Glb.size{w:World}(h:Glb w):3 < w.heap.size:=h.1.blocks.2
theorem Glb.to{w w':World}(h:Glb w)(h0:w'.heap[0]?=w.heap[0]?)(h1:w'.heap[1]?=w.heap[1]?)(h2:w'.heap[2]?=w.heap[2]?)(h3:w'.heap[3]?=w.heap[3]?):Glb w':=by
 obtain⟨k1,⟨m,k2⟩,k3⟩:=h
 refine⟨k1.to h2 h3,⟨m,?_⟩,k3.to h1⟩
 simpa [World.cell?,h0] using k2
theorem Glb.below{n:Nat}{w w':World}(h:Glb w)(hb:Below n w w')(hn:3 < n):Glb w':=h.to (hb.block 0 (by omega)) (hb.block 1 (by omega)) (hb.block 2 (by omega)) (hb.block 3 hn)
theorem Glb.kept{w w':World}(h:Glb w)(hb:Below w.heap.size w w'):Glb w':=h.below hb h.size
theorem Glb.fr{S:Nat->Prop}{w w':World}(h:Glb w)(hb:Fr S w w')(hn:∀ k,S k->3 < k):Glb w':=by
 have:=h.size
 exact h.to (hb.block 0 (by omega) fun q=>by have:=hn 0 q;omega) (hb.block 1 (by omega) fun q=>by have:=hn 1 q;omega) (hb.block 2 (by omega) fun q=>by have:=hn 2 q;omega) (hb.block 3 (by omega) fun q=>by have:=hn 3 q;omega)
theorem yE(s:ByteArray)(p:Nat)(w:World)(hp:p < s.size) :
  Calls Tryz.prog 124 #[.string s,.int .i64 (p:Int),.int .i32 ((Utf8.decode s p).1:Int)] w fun e w'=>e=.returned (.bool (bad s p))/\w'=w:=by
 obtain⟨r,hr⟩:∃ r,(Utf8.decode s p).1=r:=⟨_,rfl⟩
 rw [hr]
 have h0:(0:Int)<=(p:Int):=by omega
 have h1:(p:Int)<=(s.size:Int):=by omega
 have h2:¬ s.size < p:=by omega
 by_cases h:r=65533
 ·subst h
  have hb:=bF6 s p hp hr
  rw [<- fX] at hb
  clear hr
  go_enter Tryz.func124,Tryz.ntmps124
  go_wp2_with (go_at_call 83;refine(Tryz.strings_HasPrefix _ _ _).mono ?_;rintro e w' ⟨rfl,rfl⟩)
  all_goals (go_ret;refine⟨?_,rfl⟩)
  all_goals simp_all
 ·have hb:bad s p=false:=by simp [bad];intro q;rw [q] at hr;exact h hr.symm
  have hz:((r:Int)==65533)=false:=by simp;omega
  clear hr
  go_enter Tryz.func124,Tryz.ntmps124
  go_wp2
  go_ret
  exact⟨by rw [hb];rfl,rfl⟩
theorem aF1(s:ByteArray)(p:Nat)(w:World)(hT:Tabs w)(hp:p < s.size)(hs:s.size<=maxLen) :
  Calls Tryz.prog 126 #[.string s,.int .i64 (p:Int)] w fun e w'=>e=.returned (.tuple #[.int .i64 (ch s p),.int .i64 (wd s p:Int)])/\Below w.heap.size w w':=by
 have HT:Hid (Tabs w):=hT
 have HS:Hid (s.size<=maxLen):=hs
 unfold maxLen at hs
 have hz:(s.extract p s.size).size=s.size - p:=by rw [ByteArray.size_extract];omega
 have hd:Lib.decodeGo (s.extract p s.size)=Utf8.decode s p:=by
  unfold Lib.decodeGo
  rw [if_neg (by rw [hz];omega),Lib.tail_decode];rfl
 have h0:¬ (p:Int) < 0:=by omega
 have h1:¬ (s.size:Int)<=(p:Int):=by omega
 have h2:(0:Int)<=(p:Int):=by omega
 have h3:(p:Int)<=(s.size:Int):=by omega
 have h4:¬ s.size < p:=by omega
 have HD:Hid (Utf8.decode s p=((Utf8.decode s p).1,(Utf8.decode s p).2)):=rfl
 have hc:=yE s p
 have hl:=aB5 s p
 rcases hb:bad s p with _ | _
 ·have e1:=uN hb
  clear hT hz
  go_enter Tryz.func126,Tryz.ntmps126
  go_wp2_with first
   |(go_at_call 153;(with_reducible refine(Tryz.utf8_DecodeRuneInString _ _ HT.out).mono ?_);rw [hd];rintro e w1 ⟨rfl,hb1⟩)
   |(go_at_call 124;(with_reducible refine(hc _ hp).mono ?_);rw [hb];rintro e w' ⟨rfl,rfl⟩)
  go_ret2
  rw [e1]
  refine⟨?_,hb1⟩
  simp only [wd]
  rfl
 ·have e1:Hid _:=aB9 hb
  clear hT hz
  go_enter Tryz.func126,Tryz.ntmps126
  go_wp2_with first
   |(go_at_call 153;(with_reducible refine(Tryz.utf8_DecodeRuneInString _ _ HT.out).mono ?_);rw [hd];rintro e w1 ⟨rfl,hb1⟩)
   |(go_at_call 124;(with_reducible refine(hc _ hp).mono ?_);rw [hb];rintro e w' ⟨rfl,rfl⟩)
  go_ret2
  rw [e1.out.1,e1.out.2.1]
  exact⟨rfl,hb1⟩
theorem aA7{w wr:World}{k n:Nat}{s:ByteArray}(h:Below n w wr)(hk:n<=k)(p:Nat):Below n w (wr.iterAt k s p):=Lib.below_iterAt h hk s p
section
attribute [local go_sem] aV
def RD(w:World)(b:Nat)(s:ByteArray)(m:Md)(p:Nat)(tv:Value):Prop:=
 w.heap[b]?=some (.cells #[.string s,.bool m.c,.bool m.f,.int .i64 (p:Int),tv] 114 (0,0))
theorem RD.lt{w:World}{b:Nat}{s:ByteArray}{m:Md}{p:Nat}{tv:Value}(h:RD w b s m p tv):b < w.heap.size:=aA h
theorem RD.kept{w w':World}{b:Nat}{s:ByteArray}{m:Md}{p:Nat}{tv:Value}(h:RD w b s m p tv)(hb:Below w.heap.size w w'):RD w' b s m p tv:=(hb.block b h.lt).trans h
theorem RD.c0{w:World}{b:Nat}{s:ByteArray}{m:Md}{p:Nat}{tv:Value}(h:RD w b s m p tv):w.cell? ⟨b,0,none⟩=some (.string s):=aB h (i:=0) rfl
theorem RD.c1{w:World}{b:Nat}{s:ByteArray}{m:Md}{p:Nat}{tv:Value}(h:RD w b s m p tv):w.cell? ⟨b,1,none⟩=some (.bool m.c):=aB h (i:=1) rfl
theorem RD.c2{w:World}{b:Nat}{s:ByteArray}{m:Md}{p:Nat}{tv:Value}(h:RD w b s m p tv):w.cell? ⟨b,2,none⟩=some (.bool m.f):=aB h (i:=2) rfl
theorem RD.c3{w:World}{b:Nat}{s:ByteArray}{m:Md}{p:Nat}{tv:Value}(h:RD w b s m p tv):w.cell? ⟨b,3,none⟩=some (.int .i64 (p:Int)):=aB h (i:=3) rfl
theorem RD.c4{w:World}{b:Nat}{s:ByteArray}{m:Md}{p:Nat}{tv:Value}(h:RD w b s m p tv):w.cell? ⟨b,4,none⟩=some tv:=aB h (i:=4) rfl
theorem RD.frz{w:World}{b:Nat}{s:ByteArray}{m:Md}{p:Nat}{tv:Value}(h:RD w b s m p tv)(i:Nat):w.frozen? ⟨b,i,none⟩=false:=aQ h i
theorem RD.to{w:World}{b:Nat}{s:ByteArray}{m:Md}{p:Nat}{tv:Value}(h:RD w b s m p tv)(q:Nat){x:Int}(hx:x=(q:Int)):RD (w.setCell ⟨b,3,none⟩ (.int .i64 x)) b s m q tv:=by
 subst hx
 exact aL h 3 _
abbrev At(b k:Nat):Prop:=k=b
theorem aT{w:World}{b:Nat}{s:ByteArray}{m:Md}{p:Nat}{tv:Value}(h:RD w b s m p tv)(hp:p<=s.size)(t:ByteArray) :
  Calls Tryz.prog 105 #[.pointer (some ⟨b,0,none⟩),.string t] w fun e w'=>e=.returned (.bool (aJ s p t.data.toList))/\Below w.heap.size w w':=by
 have c0:=h.c0
 have c3:=h.c3
 have lb:=h.lt
 have h0:(0:Int)<=(p:Int):=by omega
 have h1:(p:Int)<=(s.size:Int):=by omega
 have h2:¬ s.size < p:=by omega
 have hc:∀ W,Calls Tryz.prog 83 #[.string (s.extract p s.size),.string t] W fun e w'=>e=.returned (.bool (aJ s p t.data.toList))/\w'=W:=fun W=>by
  have:=Tryz.strings_HasPrefix (s.extract p s.size) t W
  rw [fX] at this
  exact this
 clear h
 go_enter Tryz.func105,Tryz.ntmps105
 go_wp2
 refine wx9 ?_
 repeat (go_big_quiet_step (first | exact rfl |(go_at_call 83;exact rM (hc _))))
 refine wpQuiet_nil ?_
 intro w5 hw5
 have B5:Hid (Below w.heap.size w w5):=aO hw5
 clear hw5
 go_wp2
 go_ret
 exact⟨rfl,B5.out⟩
theorem gK{w:World}{b:Nat}{s:ByteArray}{m:Md}{p:Nat}{tv:Value}(h:RD w b s m p tv)(hp:p<=s.size)(hs:s.size<=2000)(t:ByteArray)(ht:t.size<=2)(hy:aJ s p t.data.toList=true) :
  Calls Tryz.prog 145 #[.pointer (some ⟨b,0,none⟩),.string t] w fun e w'=>e=.returned (.bool true)/\RD w' b s m (p+t.size) tv/\Fr (At b) w w':=by
 have lb:=h.lt
 have hw1:IntKind.wrap .i64 ((p:Int)+(t.size:Int))=(p:Int)+(t.size:Int):=wrap_small _ (by omega) (by omega)
 have hc:=aT h hp t
 rw [hy] at hc
 have H:Hid (RD w b s m p tv):=h
 clear h
 go_enter Tryz.func145,Tryz.ntmps145
 go_wp2_with (go_at_call 105;refine hc.mono ?_;rintro e w5 ⟨rfl,h5⟩;have X5:Hid (RD w5 b s m p tv/\Below w.heap.size w w5):=⟨H.out.kept h5,h5⟩;have c3:=X5.out.1.c3;have f3:=X5.out.1.frz 3;clear h5)
 go_ret
 exact⟨rfl,X5.out.1.to _ (by omega),Fr.setCell (S:=At b) (Fr.of_below X5.out.2) (p:=⟨b,3,none⟩) rfl _⟩
theorem iL{w:World}{b:Nat}{s:ByteArray}{m:Md}{p:Nat}{tv:Value}(h:RD w b s m p tv)(hp:p<=s.size)(t:ByteArray)(hy:aJ s p t.data.toList=false) :
  Calls Tryz.prog 145 #[.pointer (some ⟨b,0,none⟩),.string t] w fun e w'=>e=.returned (.bool false)/\Below w.heap.size w w':=by
 have hc:=aT h hp t
 rw [hy] at hc
 clear h
 go_enter Tryz.func145,Tryz.ntmps145
 go_wp2_with (go_at_call 105;refine hc.mono ?_;rintro e w5 ⟨rfl,h5⟩;have X5:Hid (Below w.heap.size w w5):=h5;clear h5)
 go_ret
 exact⟨rfl,X5.out⟩
def bI(w:World)(g:Nat)(c a:Nat):Prop:=w.heap[g]?=some (.cells #[.int .i64 (c:Int),.int .i64 (a:Int)] 162 (0,0))
theorem bX(c a:Nat)(w:World):Calls Tryz.prog 65 #[.int .i64 (c:Int),.int .i64 (a:Int)] w fun e w'=>e=.returned (.pointer (some ⟨w.heap.size,0,none⟩))/\bI w' w.heap.size c a/\Below w.heap.size w w':=by
 go_enter Tryz.func65,Tryz.ntmps65
 go_wp2
 go_ret
 exact⟨rfl,aE _ _,bz9⟩
def tkV(t:Tk)(a e:Nat)(rv:Value):Value:=.agg #[.int .i64 (t.kind:Int),.int .i64 (a:Int),.int .i64 (e:Int),.int .i64 (t.n:Int),.int .i64 t.mn,.int .i64 t.mx,rv]
theorem iR(x y:Int)(w:World):Calls Tryz.prog 108 #[.int .i64 x,.int .i64 y] w fun e w'=>e=.returned (tkV (dK x y) 0 0 (.slice none 0 0))/\Below w.heap.size w w':=by
 go_enter Tryz.func108,Tryz.ntmps108
 go_wp2
 exact bodyPost_ret (v:=tkV (dK x y) 0 0 (.slice none 0 0)) (by simp [results,Tryz.results108,go_sem,tkV,dK]) rfl ⟨rfl,bz9⟩
theorem eT(c:Int)(w:World):Calls Tryz.prog 113 #[.int .i64 c] w fun e w'=>∃ v,e=.returned v/\RR w.heap.size w' v [(c,c)]/\Below w.heap.size w w':=by
 go_enter Tryz.func113,Tryz.ntmps113
 go_wp2
 go_ret
 exact⟨_,rfl,World.ownsRow_lit w #[.int .i64 c,.int .i64 c] 1 lz9 (by unfold maxLen;omega) rfl,bz9⟩
end
section
attribute [local go_sem] aV
def LK(w:World)(b:Nat)(tv:Value)(last:Nat):Prop:=
 (tv=.slice none 0 0/\last=0)\/∃ g n c,tv=.slice (some ⟨g,0,none⟩) (n+1) c/\g≠b/\g < w.heap.size/\n<=2000/\1<=last/\w.cell? ⟨g,n * 7,none⟩=some (.int .i64 (last:Int))
theorem LK.fr{w w':World}{b:Nat}{tv:Value}{last:Nat}(h:LK w b tv last)(hf:Fr (At b) w w'):LK w' b tv last:=by
 rcases h with h | ⟨g,n,c,h1,h2,h3,h4,h5,h6⟩
 ·exact .inl h
 ·refine .inr ⟨g,n,c,h1,h2,Nat.lt_of_lt_of_le h3 hf.size,h4,h5,?_⟩
  have:=hf.block g h3 h2
  simpa [World.cell?,this] using h6
theorem LK.kept{w w':World}{b:Nat}{tv:Value}{last:Nat}(h:LK w b tv last)(hb:Below w.heap.size w w'):LK w' b tv last:=h.fr (Fr.of_below hb)
theorem fZ{w:World}{b:Nat}{s:ByteArray}{m:Md}{p:Nat}{tv:Value}{last:Nat}(h:RD w b s m p tv)(hk:LK w b tv last)(k:Int)(h0:0 < k) :
  Calls Tryz.prog 109 #[.pointer (some ⟨b,0,none⟩),.int .i64 k] w fun e w'=>e=.returned (.bool (decide ((last:Int)=k)))/\Below w.heap.size w w':=by
 have c4:=h.c4
 have lb:=h.lt
 clear h
 rcases hk with⟨rfl,rfl⟩ | ⟨g,n,c,rfl,h2,h3,h4,h5,h6⟩
 ·have e:decide (((0:Nat):Int)=k)=false:=decide_eq_false (by omega)
  rw [e]
  go_enter Tryz.func109,Tryz.ntmps109
  go_wp2
  go_ret
  exact⟨rfl,Below.refl _ _⟩
 ·have hw1:IntKind.wrap .i64 (((n+1:Nat):Int) - 1)=(n:Int):=by rw [wrap_small _ (by omega) (by omega)];omega
  have i0:(0:Int)<=(n:Int):=by omega
  have i1:(n:Int) < ((n+1:Nat):Int):=by omega
  go_enter Tryz.func109,Tryz.ntmps109
  go_wp2
  go_ret
  exact⟨rfl,Below.refl _ _⟩
theorem mF(t:ByteArray)(k:Nat)(h:k < t.size):(t[k]'h).toNat=bt t k:=by
 have:t.data.toList[k]?=some (t[k]'h):=List.getElem?_eq_getElem (by rw [bH];exact h)
 exact(fL.1 this).2.symm
theorem aN6{w:World}(hG:Glb w)(t:ByteArray)(m:Md)(h:0 < t.size)(hl:t.size<=2000) :
  Calls Tryz.prog 148 #[.string t,.agg #[.bool m.c,.bool m.f]] w fun e w'=>e=.returned (.tuple #[.int .i64 (un m t 0).1,.int .i64 ((un m t 0).2:Int)])/\Below w.heap.size w w':=by
 obtain⟨mc,mf⟩:=m
 cases mc with
 | true=>
  have hc:∀ W,Tabs W->Calls Tryz.prog 126 #[.string t,.int .i64 0] W fun e w'=>e=.returned (.tuple #[.int .i64 (ch t 0),.int .i64 (wd t 0:Int)])/\Below W.heap.size W w':=fun W hW=>aF1 t 0 W hW h (by unfold maxLen;omega)
  have e:un ⟨true,mf⟩ t 0=(ch t 0,wd t 0):=rfl
  rw [e]
  have HT:Hid (Tabs (w.alloc (.cells #[.bool true,.bool mf] 27))):=(hG.kept (bz9)).1
  clear e
  go_enter Tryz.func148,Tryz.ntmps148
  go_wp2_with (go_at_call 126;refine(hc _ HT.out).mono ?_;rintro e w5 ⟨rfl,h5⟩;have X5:Hid (Below w.heap.size w w5):=aD (bz9) h5 lz9;clear h5)
  go_ret2
  exact⟨rfl,X5.out⟩
 | false=>
  have e:un ⟨false,mf⟩ t 0=((bt t 0:Int),1):=rfl
  rw [e]
  have hx:=mF t 0 h
  have hlt:=oP t 0
  go_enter Tryz.func148,Tryz.ntmps148
  go_wp2
  go_ret2
  refine⟨?_,bz9⟩
  rw [<- hx]
  rfl
theorem aZ5(m:Md)(s:ByteArray)(p:Nat):un m (s.extract p s.size) 0=un m s p:=by
 unfold un ch wd bad
 rw [Lib.tail_decode,Nat.add_zero]
 have:bt (s.extract p s.size) 0=bt s p:=by
  unfold bt
  rw [fX,List.getD_eq_getElem?_getD,List.getD_eq_getElem?_getD,List.getElem?_drop,Nat.add_zero]
 rw [this]
def Outs{X:Type}(w:World)(b:Nat)(s:ByteArray)(m:Md)(tv:Value)(val:World->Value->X->Prop)(r:Rs (X × Nat))(e:Ending)(w':World):Prop:=
 Fr (At b) w w'/\match r with
 | .error (c,a)=>∃ g,w.heap.size<=g/\e=.panicked [{ v:=.iface 111 (.pointer (some ⟨g,0,none⟩)),recovered:=false }]/\bI w' g c a
 | .ok (x,q)=>∃ v,e=.returned v/\RD w' b s m q tv/\val w' v x
theorem Outs.err{X:Type}{w:World}{b:Nat}{s:ByteArray}{m:Md}{tv:Value}{val:World->Value->X->Prop}{w':World}{c a g:Nat}(h1:Fr (At b) w w')(h2:w.heap.size<=g)(h3:bI w' g c a) :
  Outs w b s m tv val (.error (c,a)) (.panicked [{ v:=.iface 111 (.pointer (some ⟨g,0,none⟩)),recovered:=false }]) w':=⟨h1,g,h2,rfl,h3⟩
theorem Outs.is{X:Type}{w:World}{b:Nat}{s:ByteArray}{m:Md}{tv:Value}{val:World->Value->X->Prop}{w':World}{x:X}{q:Nat}{v:Value}(h1:Fr (At b) w w')(h2:RD w' b s m q tv)(h3:val w' v x) :
  Outs w b s m tv val (.ok (x,q)) (.returned v) w':=⟨h1,v,rfl,h2,h3⟩
def isI(_:World)(v:Value)(x:Int):Prop:=v=.int .i64 x
theorem dO{w:World}{b:Nat}{s:ByteArray}{m:Md}{p:Nat}{tv:Value}(hG:Glb w)(h:RD w b s m p tv)(hp:p < s.size)(hs:s.size<=2000) :
  Calls Tryz.prog 114 #[.pointer (some ⟨b,0,none⟩)] w (Outs w b s m tv isI (chr m s p)):=by
 have c0:=h.c0
 have c1:=h.c1
 have c2:=h.c2
 have c3:=h.c3
 have lb:=h.lt
 have H:Hid (RD w b s m p tv/\Glb w):=⟨h,hG⟩
 have h0:(0:Int)<=(p:Int):=by omega
 have h1:(p:Int)<=(s.size:Int):=by omega
 have h2:¬ s.size < p:=by omega
 have hu:=aO0 m s p hp
 have hc:∀ x:Ext w,Calls Tryz.prog 148 #[.string (s.extract p s.size),.agg #[.bool m.c,.bool m.f]] x.val fun e w'=>e=.returned (.tuple #[.int .i64 (un m s p).1,.int .i64 ((un m s p).2:Int)])/\Below x.val.heap.size x.val w':=fun x=>by
  have:=aN6 (H.out.2.kept x.2) (s.extract p s.size) m (by rw [ByteArray.size_extract];omega) (by rw [ByteArray.size_extract];omega)
  rw [aZ5] at this
  exact this
 unfold chr
 generalize (un m s p).1=c at *
 generalize (un m s p).2=n at *
 clear h hG
 by_cases hc0:c < 0
 ·rw [if_pos hc0]
  have d0:decide (c < 0)=true:=decide_eq_true hc0
  go_enter Tryz.func114,Tryz.ntmps114
  go_wp2
  refine wx9 ?_
  repeat (go_big_quiet_step (first | exact rfl |(go_at_call 148;exact cX (hc _))))
  refine wpQuiet_nil ?_
  intro w5 hw5
  have X5:Hid (Below w.heap.size w w5/\RD w5 b s m p tv):=⟨aO hw5,H.out.1.kept (aO hw5)⟩
  have k3:=X5.out.2.c3
  clear hw5
  go_wp2_with (go_at_call 65;refine(bX 20 p _).mono ?_;rintro e w6 ⟨rfl,h6,h7⟩;have X6:Hid (bI w6 w5.heap.size 20 p/\Below w5.heap.size w5 w6):=⟨h6,h7⟩;clear h6 h7)
  exact⟨rfl,.err (Fr.of_below (aD X5.out.1 X6.out.2 lz9)) X5.out.1.size X6.out.1⟩
 ·rw [if_neg hc0]
  have hw1:IntKind.wrap .i64 ((p:Int)+(n:Int))=(p:Int)+(n:Int):=wrap_small _ (by omega) (by omega)
  go_enter Tryz.func114,Tryz.ntmps114
  go_wp2
  refine wx9 ?_
  repeat (go_big_quiet_step (first | exact rfl |(go_at_call 148;exact cX (hc _))))
  refine wpQuiet_nil ?_
  intro w5 hw5
  have X5:Hid (Below w.heap.size w w5/\RD w5 b s m p tv):=⟨aO hw5,H.out.1.kept (aO hw5)⟩
  have k3:=X5.out.2.c3
  have f3:=X5.out.2.frz 3
  clear hw5
  go_wp2
  go_ret
  exact⟨Fr.setCell (S:=At b) (Fr.of_below X5.out.1) (p:=⟨b,3,none⟩) rfl _,_,rfl,X5.out.2.to _ (by omega),rfl⟩
end
abbrev Dt:=Tp × Value × List (Int × Int)
def tc(d:Dt):List Value:=[.int .i64 (d.1.1.kind:Int),.int .i64 (d.1.2.1:Int),.int .i64 (d.1.2.2:Int),.int .i64 (d.1.1.n:Int),.int .i64 d.1.1.mn,.int .i64 d.1.1.mx,d.2.1]
def tcs(D:List Dt):List Value:=D.flatMap tc
theorem kP(d:Dt):(tc d).length=7:=rfl
theorem zA(D E:List Dt):tcs (D ++ E)=tcs D ++ tcs E:=by simp [tcs]
theorem tJ:∀ (D:List Dt) (i:Nat) (d:Dt) (j:Nat),D[i]?=some d->j < 7->(tcs D)[i * 7+j]?=(tc d)[j]?
 | [],i,d,j,h,_=>by simp at h
 | x :: D,0,d,j,h,hj=>by
  simp at h;subst h
  have:tcs (x :: D)=tc x ++ tcs D:=rfl
  rw [this,List.getElem?_append_left (by rw [kP];omega)]
  simp
 | x :: D,i+1,d,j,h,hj=>by
  have:tcs (x :: D)=tc x ++ tcs D:=rfl
  rw [this,List.getElem?_append_right (by rw [kP];omega),kP,show (i+1) * 7+j - 7=i * 7+j by omega]
  exact tJ D i d j (by simpa using h) hj
structure TL(base:Nat)(w:World)(v:Value)(D:List Dt):Prop where
 own:w.ownsRow base 116 7 v D.length (tcs D)
 each:∀ d∈D,RR base w d.2.1 d.2.2/\IsC d.2.2 d.1.1.q
 apart:D.Pairwise (fun a b=>∀ k,a.2.1.ownBlock=some k->b.2.1.ownBlock≠some k)
theorem TL.fr{base:Nat}{w w':World}{v:Value}{D:List Dt}{S:Nat->Prop}(h:TL base w v D)(hf:Fr S w w')(h1:∀ k,v.ownBlock=some k->¬ S k)(h2:∀ d∈D,∀ k,d.2.1.ownBlock=some k->¬ S k):TL base w' v D:=
 ⟨aX h.own hf h1,fun d hd=>⟨(h.each d hd).1.fr hf (h2 d hd),(h.each d hd).2⟩,h.apart⟩
theorem TL.kept{base:Nat}{w w':World}{v:Value}{D:List Dt}(h:TL base w v D)(hb:Below w.heap.size w w'):TL base w' v D:=h.fr (S:=fun _=>False) (Fr.of_below hb) (fun _ _ q=>q) (fun _ _ _ _ q=>q)
theorem TL.nil(base:Nat)(w:World):TL base w (.slice none 0 0) []:=⟨World.ownsRow_nil _ _ _ _,fun _ h=>(by cases h),List.Pairwise.nil⟩
theorem TL.lt{base:Nat}{w:World}{v:Value}{D:List Dt}(h:TL base w v D){d:Dt}(hd:d∈D){k:Nat}(hk:d.2.1.ownBlock=some k):base<=k/\k < w.heap.size:=⟨(aG (h.each d hd).1 hk).1,(aG (h.each d hd).1 hk).2.1⟩
theorem TL.at{base:Nat}{w w':World}{v:Value}{D:List Dt}{b:Nat}{s:ByteArray}{m:Md}{p:Nat}{tv:Value}(h:TL base w v D)(hr:RD w b s m p tv)(hf:Fr (At b) w w'):TL base w' v D:=
 h.fr hf (fun k hk e=>aK h.own hr (by decide) (by rw [hk,show k=b from e])) (fun d hd k hk e=>aK (h.each d hd).1 hr (by decide) (by rw [hk,show k=b from e]))
theorem aL4(T:List Tp)(n:Nat)(t:Tp)(hl:T.length=n+1)(h:T[n]?=some t):cN T=t.1.kind:=by
 unfold cN
 rw [List.getLast?_eq_getElem?,hl,Nat.add_sub_cancel,h]
theorem TL.last{base:Nat}{w:World}{v:Value}{D:List Dt}{b:Nat}{s:ByteArray}{m:Md}{p:Nat}{tv:Value}{T:List Tp}(h:TL base w v D)(hr:RD w b s m p tv)(hT:D.map Prod.fst=T)(hs:Stands s T p)(hp:p<=2000)(hn:D=[]->v=.slice none 0 0):LK w b v (cN T):=by
 cases hD:D.length with
 | zero=>
  have e:=List.eq_nil_of_length_eq_zero hD
  subst e
  subst hT
  exact .inl ⟨hn rfl,rfl⟩
 | succ n=>
  obtain⟨g,c,rfl⟩:=aH h.own (by omega)
  have hl:T.length=n+1:=by rw [<- hT,List.length_map,hD]
  obtain⟨d,hd⟩:∃ d,D[n]?=some d:=⟨_,List.getElem?_eq_getElem (by omega)⟩
  have ht:T[n]?=some d.1:=by rw [<- hT,List.getElem?_map,hd];rfl
  have hk:=aL4 T n d.1 hl ht
  have hok:=(hs.each n d.1 ht).2.2.2
  have hf:=hs.few
  refine .inr ⟨g,n,c,by rw [hD],fun e=>aK h.own hr (by decide) (by simp [Value.ownBlock,e]),(aG h.own rfl).2.1,by omega,by rw [hk];exact hok.1,?_⟩
  rw [hk]
  exact bB h.own ((tJ D n d 0 hd (by omega)).trans rfl)
theorem bF9{base b:Nat}{V V1 w10:World}{s:ByteArray}{m:Md}{p:Nat}{v:Value}{D:List Dt}{d:Dt}{g c:Nat}(hr:RD V b s m p v)(hT:TL base V v D)(hB:Below V.heap.size V V1)(hRR:RR base V d.2.1 d.2.2)(hI:IsC d.2.2 d.1.1.q)
  (hap:∀ a∈D,∀ k,a.2.1.ownBlock=some k->d.2.1.ownBlock≠some k) (hown:w10.ownsRow base 116 7 (.slice (some ⟨g,0,none⟩) (D.length+1) c) (D.length+1) (tcs D ++ tc d)) (hg:V1.grownBy w10 v.ownBlock) :
  RD w10 b s m p v/\TL base w10 (.slice (some ⟨g,0,none⟩) (D.length+1) c) (D ++ [d])/\Fr (fun k=>v.ownBlock=some k) V1 w10:=by
 have hf:Fr (fun k=>v.ownBlock=some k) V1 w10:=Fr.grown (Fr.refl _ _) hg (fun k hk=>hk)
 have hr1:=hr.kept hB
 have hT1:=hT.kept hB
 have nb:v.ownBlock≠some b:=aK hT1.own hr1 (by decide)
 have hne:∀ (x:Value) (X:List (Int × Int)),RR base V1 x X->∀ k,x.ownBlock=some k->¬ v.ownBlock=some k:=fun x X hx k hk hv=>by
  obtain⟨-,-,cur,hc⟩:=aG hT1.own hv
  exact aK hx hc (by decide) hk
 refine⟨(hf.block b hr1.lt nb).trans hr1,⟨?_,?_,?_⟩,hf⟩
 ·rw [List.length_append,List.length_singleton,zA]
  simpa [tcs] using hown
 ·intro a ha
  rcases List.mem_append.1 ha with ha | ha
  ·exact⟨(hT1.each a ha).1.fr hf (hne _ _ (hT1.each a ha).1),(hT1.each a ha).2⟩
  ·simp at ha
   subst ha
   exact⟨(hRR.kept hB).fr hf (hne _ _ (hRR.kept hB)),hI⟩
 ·refine List.pairwise_append.2 ⟨hT.apart,List.pairwise_singleton _ _,fun a ha x hx=>?_⟩
  simp at hx
  subst hx
  exact hap a ha
def oQ(w:World)(r:Rs (List Tp))(e:Ending)(w':World):Prop:=Below w.heap.size w w'/\match r with
 | .error (c,a)=>∃ g,w.heap.size<=g/\e=.returned (.tuple #[.slice none 0 0,.iface 111 (.pointer (some ⟨g,0,none⟩))])/\bI w' g c a
 | .ok T=>∃ v D,e=.returned (.tuple #[v,.nilIface])/\TL w.heap.size w' v D/\D.map Prod.fst=T
theorem aP3:(Tryz.prog.info? 116).map (fun i=>(i.zero,i.size,i.bytes))=some (some (.agg #[.int .i64 0,.int .i64 0,.int .i64 0,.int .i64 0,.int .i64 0,.int .i64 0,.slice none 0 0]),7,72):=by kernel_rfl
theorem aN8:Tryz.prog.underlying 68=some (.slice 116):=by kernel_rfl
theorem aG5{R:Int->Prop}{x:Int}(h1:65<=x - 32)(h2:x - 32<=90):kG R (x - 32) ↔ kG R x:=by
 unfold kG
 rw [show x - 32+32=x by omega]
 constructor
 ·rintro (h | ⟨-,h,h'⟩ | ⟨h,-,-⟩)
  ·exact .inr (.inl ⟨h,h1,h2⟩)
  ·omega
  ·exact .inl h
 ·rintro (h | ⟨h,-,-⟩ | ⟨-,h,h'⟩)
  ·exact .inr (.inr ⟨h,by omega,by omega⟩)
  ·exact .inl h
  ·omega
theorem aM0{R:Int->Prop}{x:Int}(h1:97<=x+32)(h2:x+32<=122):kG R (x+32) ↔ kG R x:=by
 have:=@aG5 R (x+32) (by omega) (by omega)
 rw [show x+32 - 32=x by omega] at this
 exact this.symm
theorem aW7{c:Bool}{x:Int}(h1:0<=x)(h2:x<=127):aU c x:=⟨h1,by cases c <;> simp [top] <;> omega,fun _=>.inl (by omega)⟩
theorem bA3{m:Md}{L:List (Int × Int)}{q:Int->Prop}(h:IsC L q)(hq:∃ L' b,q=eN m L' b):mL m.c m.f L:=by
 obtain⟨L',b,rfl⟩:=hq
 refine⟨h.to (fun x=>⟨fun hx=>⟨(h.mem x).2 hx,hx.1⟩,fun hx=>(h.mem x).1 hx.1⟩),fun hf x=>⟨fun hx=>.inl hx,?_⟩⟩
 have key:∀ y z:Int,(0<=z/\z<=127)->(kG (In L') y ↔ kG (In L') z)->eN m L' b y->eN m L' b z:=fun y z hz he hy=>by
  refine⟨aW7 hz.1 hz.2,?_⟩
  have h2:=hy.2
  simp only [hf,if_true] at h2 ⊢
  rw [<- he]
  exact h2
 rintro (hx | ⟨hx,h1,h2⟩ | ⟨hx,h1,h2⟩)
 ·exact hx
 ·exact(h.mem x).2 (key (x - 32) x (by omega) (aG5 h1 h2) ((h.mem _).1 hx))
 ·exact(h.mem x).2 (key (x+32) x (by omega) (aM0 h1 h2) ((h.mem _).1 hx))
theorem bG9{m:Md}:∀ (D:List Dt) (g:Nat),(∀ d∈D,IsC d.2.2 d.1.1.q/\TkW m d.1.1)->∀ s∈iH g (D.map Prod.fst),fI m.c m.f s
 | [],g,_,s,hs=>by cases hs
 | d :: D,g,h,s,hs=>by
  rw [List.map_cons,iH] at hs
  rcases List.mem_cons.1 hs with rfl | hs
  ·obtain⟨h1,h2⟩:=h d (List.mem_cons_self ..)
   rcases fD h2.ok.1 h2.ok.2.1 with e | e | e | e | e | e | e | e
   ·simp only [sgT,e,Nat.reduceEqDiff,if_false,fI]
    refine⟨fun _=>⟨?_,trivial⟩,fun z=>absurd rfl z,fun z=>(by cases z),fun _=>trivial⟩
    rw [zH h1]
    exact bA3 h1 (h2.set e)
   ·simp only [sgT,e,Nat.reduceEqDiff,if_false,if_true,fI]
    exact h2.rep e
   ·simp [sgT,e,fI]
   ·simp [sgT,e,fI]
   ·simp [sgT,e,fI]
   ·simp only [sgT,e,Nat.reduceEqDiff,if_false,if_true,fI]
    have:=h2.back e
    exact⟨fun z=>(by cases z),fun _=>trivial,fun _=>⟨by omega,by omega⟩,fun z=>absurd rfl z⟩
   ·simp [sgT,e,fI]
   ·simp [sgT,e,fI]
  ·exact bG9 D _ (fun x hx=>h x (List.mem_cons_of_mem _ hx)) s hs
theorem aJ6(x:Ps):wf x->x.sz<=2 * (pfl x).length+1/\(cD x=true->x.sz<=2 * (pfl x).length):=by
 refine Ps.ind (P:=fun x=>wf x->x.sz<=2 * (pfl x).length+1/\(cD x=true->x.sz<=2 * (pfl x).length)) (fun x ih hw=>?_) x
 cases x with
 | lf k n rs=>rw [Ps.sz,pfl];simp
 | grp n k=>
  rw [wf] at hw
  have:=(ih k (by simp [Ps.kids]) hw).1
  rw [Ps.sz,pfl]
  simp only [List.length_cons,List.length_append,List.length_nil]
  exact⟨by omega,fun _=>by omega⟩
 | rep a b k=>
  rw [wf] at hw
  have:=(ih k (by simp [Ps.kids]) hw.2).2 (mH hw.1).1
  rw [Ps.sz,pfl]
  simp only [List.length_cons,List.length_append,List.length_nil]
  exact⟨by omega,fun _=>by omega⟩
 | row l=>
  rw [wf] at hw
  obtain⟨-,h2,h3⟩:=hw
  refine⟨?_,fun z=>by cases z⟩
  rw [Ps.sz,pfl]
  have key:∀ m:List Ps,(∀ y∈m,y.sz<=2 * (pfl y).length)->eP m<=2 * (bS m).length:=by
   intro m
   induction m with
   | nil=>intro _;rw [iW,bS];simp
   | cons y m ihm=>
    intro h
    have h1:=h y (List.mem_cons_self ..)
    have h2:=ihm (fun z hz=>h z (List.mem_cons_of_mem _ hz))
    rw [dU,bS,List.length_append]
    omega
  have:=key l (fun y hy=>(ih y hy ((cL l).1 h3 y hy)).2 (by
   obtain⟨i,hi,e⟩:=List.getElem_of_mem hy
   exact(h2 i y (by rw [List.getElem?_eq_getElem hi,e])).1))
  omega
 | alt l=>
  rw [wf] at hw
  obtain⟨h1,-,h3⟩:=hw
  refine⟨?_,fun z=>by cases z⟩
  rw [Ps.sz,pfl]
  have key:∀ m:List Ps,(∀ y∈m,y.sz<=2 * (pfl y).length+1)->eP m+m.length<=2 * (bZ m).length:=by
   intro m
   induction m with
   | nil=>intro _;rw [iW,bZ];simp
   | cons y m ihm=>
    intro h
    have h1:=h y (List.mem_cons_self ..)
    have h2:=ihm (fun z hz=>h z (List.mem_cons_of_mem _ hz))
    rw [dU,bZ,List.length_cons,List.length_cons,List.length_append]
    omega
  have:=key l (fun y hy=>(ih y hy ((cL l).1 h3 y hy)).1)
  cases l with
  | nil=>simp at h1
  | cons y l=>
   rw [bZ] at this
   rw [cJ]
   simp only [List.length_cons,List.length_append] at this h1 ⊢
   omega
theorem aD4{m:Md}{s:ByteArray}{T:List Tp}{D:List Dt}(h:iY m s=.ok T)(hD:D.map Prod.fst=T)(hc:∀ d∈D,IsC d.2.2 d.1.1.q):(∀ d∈D,gA d.1.1/\d.2.2.length<=1000000)/\D.length<=2000/\(∀ d∈D,TkW m d.1.1)/\D.length<=s.size:=by
 obtain⟨p,hb⟩:=lU h
 have hw:∀ d∈D,TkW m d.1.1:=fun d hd=>hb.tok d.1 (by rw [<- hD];exact List.mem_map_of_mem hd)
 have hl:D.length<=s.size:=by
  have:=sM m s
  rw [h] at this
  have:=(show Stands s T s.size from this).few
  rw [<- hD,List.length_map] at this
  exact this
 have hs:s.size<=2000:=by
  unfold iY at h
  split at h
  ·cases h
  ·omega
 exact⟨fun d hd=>⟨(hw d hd).ok,Nat.le_trans (yA (hc d hd) (hw d hd).chr) (by omega)⟩,by omega,hw,hl⟩
inductive PV (base:Nat) (N:Nat->Prop) (W:World):Ps->Value->Prop
 | lf (k n:Int) (rs:List (Int × Int)) (q:Option Addr) (c:Nat) (h:RR base W (.slice q rs.length c) rs) (hf:Fit rs) (hl:rs.length<=1000000) :
   PV base N W (.lf k n rs) (.iface 134 (.agg #[.int .i64 k,.int .i64 n,.int .i64 0,.int .i64 0,.slice q rs.length c,.slice none 0 0]))
 | grp (n:Nat) (x:Ps) (v:Value) (h:PV base N W x v):PV base N W (.grp n x) (.iface 136 (.agg #[.int .i64 (n:Int),v]))
 | rep (a b:Int) (x:Ps) (v:Value) (h:PV base N W x v):PV base N W (.rep a b x) (.iface 139 (.agg #[.int .i64 a,.int .i64 b,v]))
 | row (l:List Ps) (vs:List Value) (q:Option Addr) (c:Nat) (hl:vs.length=l.length) (h:W.ownsRow base 75 1 (.slice q l.length c) l.length vs) (hN:∀ g,(Value.slice q l.length c).ownBlock=some g->N g)
   (he:∀ (i:Nat) (x:Ps) (v:Value),l[i]?=some x->vs[i]?=some v->PV base N W x v):PV base N W (.row l) (.iface 141 (.agg #[.slice q l.length c]))
 | alt (l:List Ps) (vs:List Value) (q:Option Addr) (c:Nat) (hl:vs.length=l.length) (h:W.ownsRow base 75 1 (.slice q l.length c) l.length vs) (hN:∀ g,(Value.slice q l.length c).ownBlock=some g->N g)
   (he:∀ (i:Nat) (x:Ps) (v:Value),l[i]?=some x->vs[i]?=some v->PV base N W x v):PV base N W (.alt l) (.iface 130 (.agg #[.slice q l.length c]))
theorem PV.shape{base:Nat}{N:Nat->Prop}{W:World}{x:Ps}{v:Value}(h:PV base N W x v):∃ t u,v=.iface t u:=by
 cases h <;> exact⟨_,_,rfl⟩
theorem PV.mono{base:Nat}{N M:Nat->Prop}{W:World}{x:Ps}{v:Value}(h:PV base N W x v)(hm:∀ k,N k->M k):PV base M W x v:=by
 induction h with
 | lf k n rs q c h hf hl=>exact .lf k n rs q c h hf hl
 | grp n x v _ ih=>exact .grp n x v ih
 | rep a b x v _ ih=>exact .rep a b x v ih
 | row l vs q c hl h hN _ ih=>exact .row l vs q c hl h (fun g hg=>hm g (hN g hg)) ih
 | alt l vs q c hl h hN _ ih=>exact .alt l vs q c hl h (fun g hg=>hm g (hN g hg)) ih
def Apt(N:Nat->Prop)(W:World)(k:Nat):Prop:=∃ cs t,W.heap[k]?=some (.cells cs t (0,0))/\t≠48/\(t≠75\/¬ N k)
theorem PV.fr{base:Nat}{N S:Nat->Prop}{W W':World}{x:Ps}{v:Value}(h:PV base N W x v)(hf:Fr S W W')(hS:∀ k,S k->Apt N W k):PV base N W' x v:=by
 have key:∀ (vs:List Value) (u:Value) (n:Nat),W.ownsRow base 75 1 u n vs->(∀ g,u.ownBlock=some g->N g)->W'.ownsRow base 75 1 u n vs:=fun vs u n h hN=>aX h hf fun k hk hs=>by
  obtain⟨cs,t,h1,-,h3⟩:=hS k hs
  rcases h3 with h3 | h3
  ·exact aK h h1 h3 hk
  ·exact h3 (hN k hk)
 induction h with
 | lf k n rs q c h hf' hl=>
  exact .lf k n rs q c (h.fr hf fun k hk hs=>by
   obtain⟨cs,t,h1,h2,-⟩:=hS k hs
   exact aK h h1 h2 hk) hf' hl
 | grp n x v _ ih=>exact .grp n x v ih
 | rep a b x v _ ih=>exact .rep a b x v ih
 | row l vs q c hl h hN _ ih=>exact .row l vs q c hl (key _ _ _ h hN) hN ih
 | alt l vs q c hl h hN _ ih=>exact .alt l vs q c hl (key _ _ _ h hN) hN ih
theorem PV.kept{base:Nat}{N:Nat->Prop}{W W':World}{x:Ps}{v:Value}(h:PV base N W x v)(hb:Below W.heap.size W W'):PV base N W' x v:=h.fr (S:=fun _=>False) (Fr.of_below hb) (fun _ q=>q.elim)
theorem PV.lt{base:Nat}{N:Nat->Prop}{W:World}{x:Ps}{v:Value}(h:PV base N W x v):PV base (fun k=>N k/\k < W.heap.size) W x v:=by
 induction h with
 | lf k n rs q c h hf hl=>exact .lf k n rs q c h hf hl
 | grp n x v _ ih=>exact .grp n x v ih
 | rep a b x v _ ih=>exact .rep a b x v ih
 | row l vs q c hl h hN _ ih=>exact .row l vs q c hl h (fun g hg=>⟨hN g hg,(aG h hg).2.1⟩) ih
 | alt l vs q c hl h hN _ ih=>exact .alt l vs q c hl h (fun g hg=>⟨hN g hg,(aG h hg).2.1⟩) ih
def nop:List Sgn->Nat
 | []=>0
 | .op _ :: l=>nop l+1
 | _ :: l=>nop l
theorem fO:∀ a b:List Sgn,nop (a ++ b)=nop a+nop b
 | [],b=>by simp [nop]
 | x :: a,b=>by
  cases x <;> simp only [List.cons_append,nop,fO] <;> omega
noncomputable def left (D:List Dt) (p g:Nat):List Sgn:=iH g ((D.map Prod.fst).drop p)
theorem xA{D:List Dt}{p g:Nat}(h:left D p g=[]):D.length<=p:=by
 have:=congrArg List.length h
 unfold left at this
 rw [hZ,List.length_drop,List.length_map,List.length_nil] at this
 omega
theorem dD{D:List Dt}{p g:Nat}{s:Sgn}{r:List Sgn}(h:left D p g=s :: r):∃ d,D[p]?=some d/\s=sgT g d.1.1/\left D (p+1) (g+nop [s])=r/\p < D.length:=by
 unfold left at h
 have hp:p < D.length:=by
  have:=congrArg List.length h
  rw [hZ,List.length_drop,List.length_map,List.length_cons] at this
  omega
 rw [List.drop_eq_getElem_cons (by rw [List.length_map];exact hp)] at h
 rw [iH] at h
 injection h with h1 h2
 refine⟨D[p],List.getElem?_eq_getElem hp,?_,?_,hp⟩
 ·rw [<- h1,List.getElem_map]
 ·rw [List.getElem_map] at h1 h2
  have e:gnx g D[p].1.1=g+nop [s]:=by
   rw [<- h1]
   unfold gnx sgT
   repeat' split
   all_goals first | rfl | omega
  rw [e] at h2
  exact h2
theorem iZ{D:List Dt}:∀ {A:List Sgn} {p g:Nat} {r:List Sgn},left D p g=A ++ r->left D (p+A.length) (g+nop A)=r/\p+A.length<=max p D.length
 | [],p,g,r,h=>⟨h,by simp;omega⟩
 | s :: A,p,g,r,h=>by
  obtain⟨d,-,-,h1,h2⟩:=dD (by rw [List.cons_append] at h;exact h)
  obtain⟨h3,h4⟩:=iZ h1
  have e:nop (s :: A)=nop [s]+nop A:=by rw [show s :: A=[s] ++ A from rfl,fO]
  rw [e,List.length_cons,show p+(A.length+1)=p+1+A.length by omega,<- Nat.add_assoc]
  exact⟨h3,by omega⟩
def skd:Sgn->Nat
 | .op _=>3
 | .cl=>4
 | .al=>5
 | .rp _ _=>2
 | .lf k _ _=>if k=3 then 7 else if k=4 then 8 else if k=8 then 6 else 1
theorem bJ0(g:Nat)(t:Tk)(h1:1<=t.kind)(h2:t.kind<=8):skd (sgT g t)=t.kind:=by
 rcases fD h1 h2 with e | e | e | e | e | e | e | e <;> simp [sgT,e,skd]
def eC(D:List Dt)(p K:Nat):Bool:=match D[p]? with
 | none=>false
 | some d=>d.1.1.kind==K
structure PB(base:Nat)(w:World)(b:Nat)(tv:Value)(D:List Dt)(p g:Nat):Prop where
 bd:w.heap[b]?=some (.cells #[tv,.int .i64 (p:Int),.int .i64 (g:Int)] 73 (0,0))
 tl:TL base w tv D
 le:p<=D.length
 few:D.length<=2000
 gp:g<=p
 ok:∀ d∈D,gA d.1.1/\d.2.2.length<=1000000
 bs:base<=b
theorem PB.lt{base b p g:Nat}{w:World}{tv:Value}{D:List Dt}(h:PB base w b tv D p g):b < w.heap.size:=aA h.bd
theorem PB.kept{base b p g:Nat}{w w':World}{tv:Value}{D:List Dt}(h:PB base w b tv D p g)(hb:Below w.heap.size w w'):PB base w' b tv D p g:=
 ⟨(hb.block _ h.lt).trans h.bd,h.tl.kept hb,h.le,h.few,h.gp,h.ok,h.bs⟩
theorem TL.of{base:Nat}{w w':World}{v:Value}{D:List Dt}{S:Nat->Prop}(h:TL base w v D)(hf:Fr S w w')(hS:∀ k,S k->∃ cs t,w.heap[k]?=some (.cells cs t (0,0))/\t≠48/\t≠116):TL base w' v D:=
 h.fr hf (fun k hk hs=>by obtain⟨cs,t,h1,-,h3⟩:=hS k hs;exact aK h.own h1 h3 hk) (fun d hd k hk hs=>by obtain⟨cs,t,h1,h2,-⟩:=hS k hs;exact aK (h.each d hd).1 h1 h2 hk)
theorem PB.seeing{base b p g:Nat}{w:World}{tv:Value}{D:List Dt}(h:PB base w b tv D p g){s:Sgn}{r:List Sgn}(hl:left D p g=s :: r)(K:Nat):eC D p K=(skd s==K):=by
 obtain⟨d,h1,h2,-,-⟩:=dD hl
 have:=(h.ok d (List.mem_of_getElem? h1)).1
 unfold eC
 rw [h1,h2,bJ0 _ _ this.1 this.2.1]
theorem PB.blind{base b p g:Nat}{w:World}{tv:Value}{D:List Dt}(_:PB base w b tv D p g)(hl:left D p g=[])(K:Nat):eC D p K=false:=by
 have:=xA hl
 unfold eC
 rw [List.getElem?_eq_none this]
theorem PB.set{base b p g p' g':Nat}{w w':World}{tv:Value}{D:List Dt}(h:PB base w b tv D p g)(hw:w'.heap[b]?=some (.cells #[tv,.int .i64 (p':Int),.int .i64 (g':Int)] 73 (0,0)))(hf:Fr (At b) w w')(h1:p'<=D.length)(h2:g'<=p'):PB base w' b tv D p' g':=
 ⟨hw,h.tl.of hf (fun k hk=>by obtain rfl:k=b:=hk;exact⟨_,_,h.bd,by decide,by decide⟩),h1,h.few,h2,h.ok,h.bs⟩
theorem PB.apt{base b p g:Nat}{w:World}{tv:Value}{D:List Dt}(h:PB base w b tv D p g)(N:Nat->Prop):∀ k,At b k->Apt N w k:=fun k hk=>by obtain rfl:k=b:=hk;exact⟨_,_,h.bd,by decide,.inl (by decide)⟩
section
attribute [local go_sem] aV
section
variable {base b p g:Nat} {w:World} {tv:Value} {D:List Dt}
theorem PB.c0(h:PB base w b tv D p g):w.cell? ⟨b,0,none⟩=some tv:=aB h.bd (i:=0) rfl
theorem PB.c1(h:PB base w b tv D p g):w.cell? ⟨b,1,none⟩=some (.int .i64 (p:Int)):=aB h.bd (i:=1) rfl
theorem PB.c2(h:PB base w b tv D p g):w.cell? ⟨b,2,none⟩=some (.int .i64 (g:Int)):=aB h.bd (i:=2) rfl
theorem TL.tok{base p:Nat}{w:World}{tv:Value}{D:List Dt}(h:TL base w tv D){d:Dt}(hd:D[p]?=some d):∃ q c,tv=.slice (some ⟨q,0,none⟩) D.length c/\q < w.heap.size/\∀ j u,(tc d)[j]?=some u->w.cell? ⟨q,p * 7+j,none⟩=some u:=by
 have hp:=(List.getElem?_eq_some_iff.1 hd).1
 obtain⟨q,c,e⟩:=aH h.own (by omega)
 have ho:=h.own
 rw [e] at ho
 exact⟨q,c,e,(aG ho rfl).2.1,fun j u hj=>bB ho ((tJ D p d j hd (by have:=(List.getElem?_eq_some_iff.1 hj).1;rwa [kP] at this)).trans hj)⟩
end
theorem pD{base b p g:Nat}{w:World}{tv:Value}{D:List Dt}(h:PB base w b tv D p g)(K:Nat) :
  Calls Tryz.prog 70 #[.pointer (some ⟨b,0,none⟩),.int .i64 (K:Int)] w fun e w'=>e=.returned (.bool (eC D p K))/\Below w.heap.size w w':=by
 have lb:=h.lt
 have c0:=h.c0
 have c1:=h.c1
 cases hd:D[p]? with
 | none=>
  have e0:eC D p K=false:=by unfold eC;rw [hd]
  rw [e0]
  have hp:D.length<=p:=List.getElem?_eq_none_iff.1 hd
  obtain⟨q,c,rfl⟩:=aI h.tl.own
  have i0:¬ (p:Int) < (D.length:Int):=by omega
  have i1:decide (p < D.length)=false:=decide_eq_false (by omega)
  have i2:decide ((p:Int) < (D.length:Int))=false:=decide_eq_false i0
  clear h e0 hd
  go_enter Tryz.func70,Tryz.ntmps70
  go_wp2
  refine wx9 ?_
  repeat (go_big_quiet_step (first | exact rfl))
  refine wpQuiet_nil ?_
  intro w5 hw5
  have B5:Hid (Below w.heap.size w w5):=aO hw5
  clear hw5
  go_wp2
  go_ret
  exact⟨rfl,B5.out⟩
 | some d=>
  have e0:eC D p K=(d.1.1.kind==K):=by unfold eC;rw [hd]
  rw [e0]
  have hp:=(List.getElem?_eq_some_iff.1 hd).1
  obtain⟨q,c,rfl,hq,hc⟩:=h.tl.tok hd
  have k0:w.cell? ⟨q,p * 7,none⟩=some (.int .i64 (d.1.1.kind:Int)):=hc 0 _ rfl
  have i0:(p:Int) < (D.length:Int):=by omega
  have i1:decide (p < D.length)=true:=decide_eq_true hp
  have i2:decide ((p:Int) < (D.length:Int))=true:=decide_eq_true i0
  have hk:(((d.1.1.kind:Nat):Int)==(K:Int))=(d.1.1.kind==K):=by rw [Bool.eq_iff_iff,beq_iff_eq,beq_iff_eq];omega
  have hf:=h.few
  clear h e0 hd hc
  generalize d.1.1.kind=kk at *
  go_enter Tryz.func70,Tryz.ntmps70
  go_wp2
  refine wx9 ?_
  repeat (go_big_quiet_step (first | exact rfl))
  refine wpQuiet_nil ?_
  intro w5 hw5
  have B5:Hid (Below w.heap.size w w5):=aO hw5
  clear hw5
  go_wp2
  go_ret
  exact⟨by simp,B5.out⟩
def pL(d:Dt)(rv:Value):Value:=.agg #[.int .i64 (d.1.1.kind:Int),.int .i64 (d.1.2.1:Int),.int .i64 (d.1.2.2:Int),.int .i64 (d.1.1.n:Int),.int .i64 d.1.1.mn,.int .i64 d.1.1.mx,rv]
abbrev aZ3:Obj:=.cells #[.int .i64 0,.int .i64 0,.int .i64 0,.int .i64 0,.int .i64 0,.int .i64 0,.slice none 0 0] 116
abbrev vX(w:World)(g:Nat)(a b c d e f x:Value):World:=((((((w.setCell ⟨g,0,none⟩ a).setCell ⟨g,1,none⟩ b).setCell ⟨g,2,none⟩ c).setCell ⟨g,3,none⟩ d).setCell ⟨g,4,none⟩ e).setCell ⟨g,5,none⟩ f).setCell ⟨g,6,none⟩ x
theorem zM{w:World}{g:Nat}(h:w.heap[g]?=some aZ3)(a b c d e f x:Value):(vX w g a b c d e f x).heap[g]?=some (.cells #[a,b,c,d,e,f,x] 116 (0,0)):=
 aL (aL (aL (aL (aL (aL (aL h 0 a) 1 b) 2 c) 3 d) 4 e) 5 f) 6 x
theorem bP5{S:Nat->Prop}{a w:World}{g:Nat}(h:Fr S a w)(hg:a.heap.size<=g)(x0 x1 x2 x3 x4 x5 x6:Value):Fr S a (vX w g x0 x1 x2 x3 x4 x5 x6):=
 ((((((h.setNew (p:=⟨g,0,none⟩) hg _).setNew (p:=⟨g,1,none⟩) hg _).setNew (p:=⟨g,2,none⟩) hg _).setNew (p:=⟨g,3,none⟩) hg _).setNew (p:=⟨g,4,none⟩) hg _).setNew (p:=⟨g,5,none⟩) hg _).setNew (p:=⟨g,6,none⟩) hg _
theorem bP4(w:World)(g:Nat)(x0 x1 x2 x3 x4 x5 x6:Value):Fr (At g) w (vX w g x0 x1 x2 x3 x4 x5 x6):=
 (((((((Fr.refl (At g) w).setCell (p:=⟨g,0,none⟩) rfl _).setCell (p:=⟨g,1,none⟩) rfl _).setCell (p:=⟨g,2,none⟩) rfl _).setCell (p:=⟨g,3,none⟩) rfl _).setCell (p:=⟨g,4,none⟩) rfl _).setCell (p:=⟨g,5,none⟩) rfl _).setCell (p:=⟨g,6,none⟩) rfl _
theorem PB.side{base b p g z q c:Nat}{w w':World}{D:List Dt}{cs:Array Value}(h:PB base w b (.slice (some ⟨q,0,none⟩) D.length c) D p g)(hf:Fr (At z) w w')(hz:w.heap[z]?=some (.cells cs 116 (0,0)))(hb:b≠z)(hq:q≠z):PB base w' b (.slice (some ⟨q,0,none⟩) D.length c) D p g:=
 ⟨(hf.block _ h.lt hb).trans h.bd,h.tl.fr hf (fun k hk e=>by cases hk;exact hq e) (fun d hd k hk e=>by obtain rfl:k=z:=e;exact aK (h.tl.each d hd).1 hz (by decide) hk),h.le,h.few,h.gp,h.ok,h.bs⟩
theorem mN{base b p g:Nat}{w:World}{tv:Value}{D:List Dt}(h:PB base w b tv D p g){d:Dt}(hd:D[p]?=some d){qr:Option Addr}{nr cr:Nat}(hv:d.2.1=.slice qr nr cr) :
  Calls Tryz.prog 71 #[.pointer (some ⟨b,0,none⟩)] w fun e w'=>e=.returned (pL d (.slice qr nr cr))/\PB base w' b tv D (p+1) g/\Fr (At b) w w':=by
 have lb:=h.lt
 have hp:=(List.getElem?_eq_some_iff.1 hd).1
 have hfw:=h.few
 have F1:Fr (At b) w (w.setCell ⟨b,1,none⟩ (.int .i64 ((p:Int)+1))):=(Fr.refl (At b) w).setCell (p:=⟨b,1,none⟩) rfl _
 have H1:PB base (w.setCell ⟨b,1,none⟩ (.int .i64 ((p:Int)+1))) b tv D (p+1) g:=h.set (p':=p+1) (g':=g) (aL h.bd 1 (.int .i64 ((p:Int)+1))) F1 (by omega) (by have:=h.gp;omega)
 have B2:Below (w.setCell ⟨b,1,none⟩ (.int .i64 ((p:Int)+1))).heap.size (w.setCell ⟨b,1,none⟩ (.int .i64 ((p:Int)+1))) ((w.setCell ⟨b,1,none⟩ (.int .i64 ((p:Int)+1))).alloc aZ3):=bz9
 have hsz:(w.setCell ⟨b,1,none⟩ (.int .i64 ((p:Int)+1))).heap.size=w.heap.size:=by simp
 have H2:=aC (H1.kept B2)
 have F2:=aC (F1.trans (Fr.of_below B2))
 have Z2:=aE (w.setCell ⟨b,1,none⟩ (.int .i64 ((p:Int)+1))) aZ3
 rw [hsz] at Z2
 have HZ2:=aC Z2
 have c0:=h.c0
 have c1:=h.c1
 have f1:=aQ h.bd 1
 have hqs:∀ q,tv.ownBlock=some q->q≠w.heap.size:=fun q hq e=>by have:=(aG h.tl.own hq).2.1;omega
 clear h B2 H1 F1 Z2 hsz
 go_enter Tryz.func71,Tryz.ntmps71
 go_upto_region 2 with fail
 generalize ((w.setCell ⟨b,1,none⟩ (.int .i64 ((p:Int)+1))).alloc aZ3)=W2 at H2 F2 HZ2 ⊢
 clear c0 c1 f1
 have c0:=H2.out.c0
 have c1:W2.cell? ⟨b,1,none⟩=some (.int .i64 ((p:Int)+1)):=H2.out.c1
 obtain⟨q,c,rfl,hq,hc⟩:=H2.out.tl.tok hd
 have hqz:q≠w.heap.size:=hqs q rfl
 have k0:W2.cell? ⟨q,p * 7,none⟩=_:=hc 0 _ rfl
 have k1:W2.cell? ⟨q,p * 7+1,none⟩=_:=hc 1 _ rfl
 have k2:W2.cell? ⟨q,p * 7+2,none⟩=_:=hc 2 _ rfl
 have k3:W2.cell? ⟨q,p * 7+3,none⟩=_:=hc 3 _ rfl
 have k4:W2.cell? ⟨q,p * 7+4,none⟩=_:=hc 4 _ rfl
 have k5:W2.cell? ⟨q,p * 7+5,none⟩=_:=hc 5 _ rfl
 have k6:W2.cell? ⟨q,p * 7+6,none⟩=some (.slice qr nr cr):=by rw [<- hv];exact hc 6 _ rfl
 have lz:=aA HZ2.out
 have z0:=aB HZ2.out (i:=0) rfl
 have z1:=aB HZ2.out (i:=1) rfl
 have z2:=aB HZ2.out (i:=2) rfl
 have z3:=aB HZ2.out (i:=3) rfl
 have z4:=aB HZ2.out (i:=4) rfl
 have z5:=aB HZ2.out (i:=5) rfl
 have z6:=aB HZ2.out (i:=6) rfl
 have fz:=fun z=>aQ HZ2.out z
 have i0:(p:Int) < (D.length:Int):=by omega
 have i1:(p:Int)+1 - 1=(p:Int):=by omega
 clear hc hd hv
 go_region
 have P:=zM HZ2.out (.int .i64 (d.1.1.kind:Int)) (.int .i64 (d.1.2.1:Int)) (.int .i64 (d.1.2.2:Int)) (.int .i64 (d.1.1.n:Int)) (.int .i64 d.1.1.mn) (.int .i64 d.1.1.mx) (.slice qr nr cr)
 have FP:=bP5 F2.out lz9 (.int .i64 (d.1.1.kind:Int)) (.int .i64 (d.1.2.1:Int)) (.int .i64 (d.1.2.2:Int)) (.int .i64 (d.1.1.n:Int)) (.int .i64 d.1.1.mn) (.int .i64 d.1.1.mx) (.slice qr nr cr)
 have FQ:=bP4 W2 w.heap.size (.int .i64 (d.1.1.kind:Int)) (.int .i64 (d.1.2.1:Int)) (.int .i64 (d.1.2.2:Int)) (.int .i64 (d.1.1.n:Int)) (.int .i64 d.1.1.mn) (.int .i64 d.1.1.mx) (.slice qr nr cr)
 have PQ:Hid (PB base (vX W2 w.heap.size (.int .i64 (d.1.1.kind:Int)) (.int .i64 (d.1.2.1:Int)) (.int .i64 (d.1.2.2:Int)) (.int .i64 (d.1.1.n:Int)) (.int .i64 d.1.1.mn) (.int .i64 d.1.1.mx) (.slice qr nr cr)) b (.slice (some ⟨q,0,none⟩) D.length c) D (p+1) g):=H2.out.side FQ HZ2.out (by omega) hqz
 have HFP:=aC FP
 have HP:=aC P
 unfold vX at PQ HFP HP
 clear P FP FQ z0 z1 z2 z3 z4 z5 z6 fz
 generalize (((((((W2.setCell ⟨w.heap.size,0,none⟩ (.int .i64 (d.1.1.kind:Int))).setCell ⟨w.heap.size,1,none⟩ (.int .i64 (d.1.2.1:Int))).setCell ⟨w.heap.size,2,none⟩ (.int .i64 (d.1.2.2:Int))).setCell ⟨w.heap.size,3,none⟩ (.int .i64 (d.1.1.n:Int))).setCell ⟨w.heap.size,4,none⟩ (.int .i64 d.1.1.mn)).setCell ⟨w.heap.size,5,none⟩ (.int .i64 d.1.1.mx)).setCell ⟨w.heap.size,6,none⟩ (.slice qr nr cr))=W3 at PQ HFP HP ⊢
 go_wp2
 have z0:=aB HP.out (i:=0) rfl
 have z1:=aB HP.out (i:=1) rfl
 have z2:=aB HP.out (i:=2) rfl
 have z3:=aB HP.out (i:=3) rfl
 have z4:=aB HP.out (i:=4) rfl
 have z5:=aB HP.out (i:=5) rfl
 have z6:=aB HP.out (i:=6) rfl
 refine bodyPost_ret (v:=pL d (.slice qr nr cr)) ?_ rfl ⟨rfl,PQ.out.kept (Below.refl _ _).drew,HFP.out.drew⟩
 simp [results,Tryz.results71,go_sem,pL,z0,z1,z2,z3,z4,z5,z6]
end
section
attribute [local go_sem] aV
def iE(base:Nat)(w:World)(b:Nat)(tv:Value)(D:List Dt)(p g:Nat)(x:Ps)(e:Ending)(w':World):Prop:=
 ∃ v,e=.returned v/\PV base (fun k=>w.heap.size<=k) w' x v/\PB base w' b tv D (p+(pfl x).length) (g+nop (pfl x))/\Fr (At b) w w'
def aQ4(r:List Sgn):Prop:=r=[]\/∃ r',r=.cl :: r'
def aE4(r:List Sgn):Prop:=r=[]\/(∃ r',r=.cl :: r')\/∃ r',r=.al :: r'
def bH0(r:List Sgn):Prop:=∀ a b r',r≠.rp a b :: r'
def bG6(x:Ps):Prop:=∀ (base b p g:Nat) (w:World) (tv:Value) (D:List Dt) (r:List Sgn),PB base w b tv D p g->left D p g=pfl x ++ r->aQ4 r ->
 Calls Tryz.prog 30 #[.pointer (some ⟨b,0,none⟩)] w (iE base w b tv D p g x)
theorem bM9{g:Nat}{t:Tk}{k n:Int}{rs:List (Int × Int)}(h1:1<=t.kind)(h2:t.kind<=8)(h:.lf k n rs=sgT g t) :
  (t.kind=7/\k=3/\n=0/\rs=[])\/(t.kind=8/\k=4/\n=0/\rs=[])\/(t.kind=6/\k=8/\n=(t.n:Int)/\rs=[])\/(t.kind=1/\k=2/\n=0/\rs=rsQ t.q):=by
 rcases fD h1 h2 with e | e | e | e | e | e | e | e <;> simp [sgT,e] at h <;> simp [e,h]
theorem bM8{g n:Nat}{t:Tk}(h1:1<=t.kind)(h2:t.kind<=8)(h:.op n=sgT g t):t.kind=3/\n=g+1:=by
 rcases fD h1 h2 with e | e | e | e | e | e | e | e <;> simp [sgT,e] at h <;> simp [e,h]
theorem bM7{g:Nat}{t:Tk}{a b:Int}(h1:1<=t.kind)(h2:t.kind<=8)(h:.rp a b=sgT g t):t.kind=2/\a=t.mn/\b=t.mx:=by
 rcases fD h1 h2 with e | e | e | e | e | e | e | e <;> simp [sgT,e] at h <;> simp [e,h]
theorem PB.dt{base b p g:Nat}{w:World}{tv:Value}{D:List Dt}(h:PB base w b tv D p g){d:Dt}(hd:D[p]?=some d):∃ q c,d.2.1=.slice q d.2.2.length c/\RR base w (.slice q d.2.2.length c) d.2.2/\IsC d.2.2 d.1.1.q/\gA d.1.1/\d.2.2.length<=1000000:=by
 have hm:=List.mem_of_getElem? hd
 obtain⟨h1,h2⟩:=h.tl.each d hm
 obtain⟨q,c,e⟩:=aI h1
 exact⟨q,c,e,e ▸ h1,h2,(h.ok d hm).1,(h.ok d hm).2⟩
theorem aO6{base b p g:Nat}{w:World}{tv:Value}{D:List Dt}{k n:Int}{rs:List (Int × Int)}{r:List Sgn}(h:PB base w b tv D p g)(hl:left D p g=pfl (.lf k n rs) ++ r) :
  Calls Tryz.prog 149 #[.pointer (some ⟨b,0,none⟩)] w (iE base w b tv D p g (.lf k n rs)):=by
 rw [pfl,List.singleton_append] at hl
 obtain⟨d,hd,hs,-,hp⟩:=dD hl
 obtain⟨q,c,hv,hr,hI,hok,hlen⟩:=h.dt hd
 have T:=aC (mN h hd hv)
 obtain⟨K,hK⟩:∃ K:Int,(d.1.1.kind:Int)=K:=⟨_,rfl⟩
 unfold pL at T
 rw [hK] at T
 have HS:=aC hr
 have e1:(pfl (.lf k n rs)).length=1:=rfl
 have e2:nop (pfl (.lf k n rs))=0:=rfl
 have POST:∀ (v:Value) (w':World),PV base (fun k=>w.heap.size<=k) w' (.lf k n rs) v->PB base w' b tv D (p+1) g->Fr (At b) w w'->iE base w b tv D p g (.lf k n rs) (.returned v) w':=fun v w' h1 h2 h3=>⟨v,rfl,h1,h2,h3⟩
 have HP:=aC POST
 have HLE:=aC hlen
 have HBD:=aC h.bd
 have HI:=aC hI
 clear POST hlen hI h hl hd hv hr e1 e2
 rcases bM9 hok.1 hok.2.1 hs with⟨z,z1,z2,z3⟩ | ⟨z,z1,z2,z3⟩ | ⟨z,z1,z2,z3⟩ | ⟨z,z1,z2,z3⟩
 ·have a3:(K==3)=false:=by rw [<- hK,z];rfl
  have a7:(K==7)=true:=by rw [<- hK,z];rfl
  subst z1 z2 z3
  clear hK z hs hok
  go_enter Tryz.func149,Tryz.ntmps149
  go_wp2_with (go_at_call 71;(with_reducible refine(T.out).mono ?_);rintro e w5 ⟨rfl,h1,h2⟩;have H5:=aC h1;have F5:=aC h2;clear h1 h2)
  go_ret
  exact HP.out _ _ (.lf 3 0 [] none 0 (RR.nil _ _) eK (by simp)) (H5.out.kept (bz9)) (F5.out.alloc _)
 ·have a3:(K==3)=false:=by rw [<- hK,z];rfl
  have a7:(K==7)=false:=by rw [<- hK,z];rfl
  have a8:(K==8)=true:=by rw [<- hK,z];rfl
  subst z1 z2 z3
  clear hK z hs hok
  go_enter Tryz.func149,Tryz.ntmps149
  go_wp2_with (go_at_call 71;(with_reducible refine(T.out).mono ?_);rintro e w5 ⟨rfl,h1,h2⟩;have H5:=aC h1;have F5:=aC h2;clear h1 h2)
  go_ret
  exact HP.out _ _ (.lf 4 0 [] none 0 (RR.nil _ _) eK (by simp)) (H5.out.kept (bz9)) (F5.out.alloc _)
 ·have a3:(K==3)=false:=by rw [<- hK,z];rfl
  have a7:(K==7)=false:=by rw [<- hK,z];rfl
  have a8:(K==8)=false:=by rw [<- hK,z];rfl
  have a6:(K==6)=true:=by rw [<- hK,z];rfl
  subst z1 z2 z3
  clear hK z hs hok
  go_enter Tryz.func149,Tryz.ntmps149
  go_wp2_with (go_at_call 71;(with_reducible refine(T.out).mono ?_);rintro e w5 ⟨rfl,h1,h2⟩;have H5:=aC h1;have F5:=aC h2;clear h1 h2)
  go_ret
  exact HP.out _ _ (.lf 8 _ [] none 0 (RR.nil _ _) eK (by simp)) (H5.out.kept (bz9)) (F5.out.alloc _)
 ·have a3:(K==3)=false:=by rw [<- hK,z];rfl
  have a7:(K==7)=false:=by rw [<- hK,z];rfl
  have a8:(K==8)=false:=by rw [<- hK,z];rfl
  have a6:(K==6)=false:=by rw [<- hK,z];rfl
  rw [zH HI.out] at z3
  subst z1 z2 z3
  clear hK z hs hok
  go_enter Tryz.func149,Tryz.ntmps149
  go_wp2_with (go_at_call 71;(with_reducible refine(T.out).mono ?_);rintro e w5 ⟨rfl,h1,h2⟩;have H5:=aC h1;have F5:=aC h2;clear h1 h2)
  go_ret
  refine HP.out _ _ (.lf 2 0 d.2.2 q c ?_ HI.out.fit HLE.out) (H5.out.kept (bz9)) (F5.out.alloc _)
  exact(HS.out.fr F5.out (fun k hk e=>by obtain rfl:k=b:=e;exact aK HS.out HBD.out (by decide) hk)).kept (bz9)
theorem bD2{base b p g:Nat}{w:World}{tv:Value}{D:List Dt}{x:Ps}{r:List Sgn}(hx:bG6 x)(h:PB base w b tv D p g)(hl:left D p (g+1)=pfl x ++ .cl :: r)(hg:g+1<=p) :
  Calls Tryz.prog 169 #[.pointer (some ⟨b,0,none⟩)] w fun e w'=>∃ v,e=.returned v/\PV base (fun k=>w.heap.size<=k) w' (.grp (g+1) x) v/\PB base w' b tv D (p+(pfl x).length+1) (g+1+nop (pfl x))/\Fr (At b) w w':=by
 have lb:=h.lt
 have F1:Fr (At b) w (w.setCell ⟨b,2,none⟩ (.int .i64 ((g:Int)+1))):=(Fr.refl (At b) w).setCell (p:=⟨b,2,none⟩) rfl _
 have H1:PB base (w.setCell ⟨b,2,none⟩ (.int .i64 ((g:Int)+1))) b tv D p (g+1):=h.set (p':=p) (g':=g+1) (aL h.bd 2 (.int .i64 ((g:Int)+1))) F1 h.le hg
 have hsz:(w.setCell ⟨b,2,none⟩ (.int .i64 ((g:Int)+1))).heap.size=w.heap.size:=by simp
 have c2:=h.c2
 have f2:=aQ h.bd 2
 have hgb:g<=2000:=by have:=h.le;have:=h.few;omega
 have d2:(w.setCell ⟨b,2,none⟩ (.int .i64 ((g:Int)+1))).cell? ⟨b,2,none⟩=some (.int .i64 ((g:Int)+1)):=H1.c2
 have HL:=aC hl
 have HX:=aC hx
 have HF1:=aC F1
 have HH1:=aC H1
 have HSZ:=aC hsz
 clear h hl hx F1 H1 hsz
 go_enter Tryz.func169,Tryz.ntmps169
 go_upto_region 3 with fail
 generalize (w.setCell ⟨b,2,none⟩ (.int .i64 ((g:Int)+1)))=W1 at d2 HF1 HH1 HSZ ⊢
 have CP:=aC (HX.out base b p (g+1) W1 tv D (.cl :: r) HH1.out HL.out (.inr ⟨r,rfl⟩))
 clear c2 f2 d2
 go_upto_region 4 with (go_at_call 30;(with_reducible refine(CP.out).mono ?_);rintro e w5 ⟨v5,rfl,h1,h2,h3⟩;obtain⟨T5,x5,rfl⟩:=h1.shape;have V5:=aC h1;have H5:=aC h2;have F5:=aC h3;clear h1 h2 h3)
 obtain⟨hl5,hb5⟩:=iZ HL.out
 obtain⟨d,hd,-,-,-⟩:=dD hl5
 obtain⟨q,c,hv,-⟩:=H5.out.dt hd
 have T:=aC (mN H5.out hd hv)
 unfold pL at T
 clear hl5 hb5 hd hv
 go_wp2_with (go_at_call 71;(with_reducible refine(T.out).mono ?_);rintro e w6 ⟨rfl,h1,h2⟩;have H6:=aC h1;have F6:=aC h2;clear h1 h2)
 go_ret
 exact⟨_,rfl,(.grp (g+1) x _ ((V5.out.mono (fun k hk=>by have:=HSZ.out;omega)).fr F6.out (H5.out.apt _))),H6.out,(HF1.out.trans F5.out).trans F6.out⟩
end
section
attribute [local go_sem] aV
def ThC(x:Ps):Prop:=∀ (base b p g:Nat) (w:World) (tv:Value) (D:List Dt) (r:List Sgn),PB base w b tv D p g->left D p g=pfl x ++ r ->
 Calls Tryz.prog 149 #[.pointer (some ⟨b,0,none⟩)] w (iE base w b tv D p g x)
def ItC(x:Ps):Prop:=∀ (base b p g:Nat) (w:World) (tv:Value) (D:List Dt) (r:List Sgn),PB base w b tv D p g->left D p g=pfl x ++ r->bH0 r ->
 Calls Tryz.prog 115 #[.pointer (some ⟨b,0,none⟩)] w (iE base w b tv D p g x)
theorem yZ(k n:Int)(rs:List (Int × Int)):ThC (.lf k n rs):=fun _ _ _ _ _ _ _ _ h hl=>aO6 h hl
theorem aI6{x:Ps}{n:Nat}(hx:bG6 x):ThC (.grp n x):=by
 intro base b p g w tv D r h hl
 rw [pfl,List.cons_append,List.append_assoc] at hl
 obtain⟨d,hd,hs,hl2,hp⟩:=dD hl
 obtain⟨q,c,hv,-,-,hok,-⟩:=h.dt hd
 obtain⟨hk,rfl⟩:=bM8 hok.1 hok.2.1 hs
 have T:=aC (mN h hd hv)
 unfold pL at T
 rw [hk] at T
 have hgp:=h.gp
 have G:Hid (∀ W,PB base W b tv D (p+1) g->Calls Tryz.prog 169 #[.pointer (some ⟨b,0,none⟩)] W fun e w'=>∃ v,e=.returned v/\PV base (fun k=>W.heap.size<=k) w' (.grp (g+1) x) v/\PB base w' b tv D (p+1+(pfl x).length+1) (g+1+nop (pfl x))/\Fr (At b) W w'):=fun W hW=>bD2 (r:=r) hx hW hl2 (by omega)
 have HP:Hid (∀ (v:Value) (w':World),PV base (fun k=>w.heap.size<=k) w' (.grp (g+1) x) v->PB base w' b tv D (p+1+(pfl x).length+1) (g+1+nop (pfl x))->Fr (At b) w w'->iE base w b tv D p g (.grp (g+1) x) (.returned v) w'):=fun v w' h1 h2 h3=>by
  refine⟨v,rfl,h1,?_,h3⟩
  rw [pfl,show (Sgn.op (g+1) :: (pfl x ++ [Sgn.cl])).length=(pfl x).length+2 by simp,show nop (Sgn.op (g+1) :: (pfl x ++ [Sgn.cl]))=nop (pfl x)+1 by simp [nop,fO]]
  rw [show p+((pfl x).length+2)=p+1+(pfl x).length+1 by omega,show g+(nop (pfl x)+1)=g+1+nop (pfl x) by omega]
  exact h2
 clear h hl hl2 hd hv hk hok hs hx
 go_enter Tryz.func149,Tryz.ntmps149
 go_wp2_with first
  |(go_at_call 71;(with_reducible refine(T.out).mono ?_);rintro e w5 ⟨rfl,h1,h2⟩;have H5:=aC h1;have F5:=aC h2;have B5:Hid (Below w5.heap.size w5 (w5.alloc (.cells #[.int .i64 3,.int .i64 (d.1.2.1:Int),.int .i64 (d.1.2.2:Int),.int .i64 (d.1.1.n:Int),.int .i64 d.1.1.mn,.int .i64 d.1.1.mx,.slice q d.2.2.length c] 116))):=bz9;clear h1 h2)
  |(go_at_call 169;(with_reducible refine(G.out _ (H5.out.kept B5.out)).mono ?_);rintro e w6 ⟨v6,rfl,h1,h2,h3⟩;obtain⟨T6,x6,rfl⟩:=h1.shape;have V6:=aC h1;have H6:=aC h2;have F6:=aC h3;clear h1 h2 h3)
 go_ret
 exact HP.out _ _ (V6.out.mono (fun k hk=>by have:=B5.out.size;have:=F5.out.size;omega)) H6.out ((F5.out.trans (Fr.of_below B5.out)).trans F6.out)
def fN:Ps->List (Int × Int)->Ps
 | y,[]=>y
 | y,(a,b) :: l=>fN (.rep a b y) l
def rps(l:List (Int × Int)):List Sgn:=l.map fun z=>.rp z.1 z.2
theorem nV:∀ (l:List (Int × Int)) (y:Ps) (a b:Int),fN y (l ++ [(a,b)])=.rep a b (fN y l)
 | [],y,a,b=>rfl
 |(c,d) :: l,y,a,b=>by rw [List.cons_append,fN,nV,fN]
theorem nW:∀ (l:List (Int × Int)) (y:Ps),pfl (fN y l)=pfl y ++ rps l
 | [],y=>by simp [fN,rps]
 |(a,b) :: l,y=>by rw [fN,nW,pfl];simp [rps]
theorem aE9(l:List (Int × Int)):nop (rps l)=0:=by
 induction l with
 | nil=>rfl
 | cons x l ih=>exact ih
theorem aL6(x:Ps):cD x=true->wf x->∃ y l,x=fN y l/\((∃ k n rs,y=.lf k n rs)\/∃ n z,y=.grp n z)/\(l=[]\/eG y=true)/\y.sz<=x.sz/\wf y:=by
 refine Ps.ind (P:=fun x=>cD x=true->wf x->∃ y l,x=fN y l/\((∃ k n rs,y=.lf k n rs)\/∃ n z,y=.grp n z)/\(l=[]\/eG y=true)/\y.sz<=x.sz/\wf y) (fun x ih h hw=>?_) x
 cases x with
 | lf k n rs=>exact⟨_,[],rfl,.inl ⟨k,n,rs,rfl⟩,.inl rfl,Nat.le_refl _,hw⟩
 | grp n z=>exact⟨_,[],rfl,.inr ⟨n,z,rfl⟩,.inl rfl,Nat.le_refl _,hw⟩
 | rep a b k=>
  rw [wf] at hw
  obtain⟨y,l,e,h1,h2,h3,h4⟩:=ih k (by simp [Ps.kids]) (mH hw.1).1 hw.2
  refine⟨y,l ++ [(a,b)],by rw [nV,<- e],h1,.inr ?_,by simp [Ps.sz];omega,h4⟩
  rcases h2 with h2 | h2
  ·subst h2
   have:=hw.1
   rw [e] at this
   exact this
  ·exact h2
 | row=>simp [cD] at h
 | alt=>simp [cD] at h
def atP(w:World)(b:Nat):Nat:=match w.cell? ⟨b,1,none⟩ with
 | some (.int _ z)=>z.toNat
 | _=>0
theorem PB.atP{base b p g:Nat}{w:World}{tv:Value}{D:List Dt}(h:PB base w b tv D p g):Go.Proofs.YticfnglebbakkaaGreatDoor.atP w b=p:=by
 unfold Go.Proofs.YticfnglebbakkaaGreatDoor.atP
 rw [h.c1]
 simp
theorem bB6{y:Ps}{l:List (Int × Int)}(hy:ThC y):ItC (fN y l):=by
 intro base b p g w tv D r h hl hr
 rw [nW,List.append_assoc] at hl
 have HT:=aC (hy base b p g w tv D _ h hl)
 have HL:=aC hl
 have HR:=aC hr
 have hlb:=h.lt
 have hfw:=h.few
 obtain⟨X,hX⟩:∃ X,iE base w b tv D p g (fN y l)=X:=⟨_,rfl⟩
 have HX:=aC hX
 rw [hX]
 clear hX h hl hr hy
 go_enter Tryz.func115,Tryz.ntmps115
 go_wp2_with (go_at_call 149;(with_reducible refine(HT.out).mono ?_);rintro e w5 ⟨v5,rfl,h1,h2,h3⟩;obtain⟨T5,x5,rfl⟩:=h1.shape;have V5:=aC h1;have H5:=aC h2;have F5:=aC h3;clear h1 h2 h3)
 go_loopw [3] (fun v wr=>∃ l1 l2,l=l1 ++ l2/\PV base (fun k=>w.heap.size<=k) wr (fN y l1) v/\PB base wr b tv D (p+(pfl y).length+l1.length) (g+nop (pfl y))/\Fr (At b) w wr) (fun _ wr=>D.length+1 - atP wr b)
 case atStart=>exact⟨[],l,rfl,V5.out,H5.out,F5.out⟩
 case round=>
  obtain⟨l1,l2,e,g1,g2,g3⟩:=hrel
  obtain⟨T6,x6,rfl⟩:=g1.shape
  have hle:left D (p+(pfl y).length+l1.length) (g+nop (pfl y))=rps l2 ++ r:=by
   have h1:=(iZ HL.out).1
   rw [e,show rps (l1 ++ l2)=rps l1 ++ rps l2 by simp [rps],List.append_assoc] at h1
   have h2:=(iZ h1).1
   rw [aE9,show (rps l1).length=l1.length by simp [rps]] at h2
   exact h2
  have V6:=aC g1
  have H6:=aC g2
  have F6:=aC g3
  have HE:=aC e
  have hat:=aC g2.atP
  have hle2:=aC g2.le
  have S0:Calls Tryz.prog 70 #[.pointer (some ⟨b,0,none⟩),.int .i64 2] wr fun e w'=>e=.returned (.bool (eC D (p+(pfl y).length+l1.length) 2))/\Below wr.heap.size wr w':=pD g2 2
  clear g1 g2 g3 e
  cases l2 with
  | nil=>
   have hsb:eC D (p+(pfl y).length+l1.length) 2=false:=by
    cases hr0:r with
    | nil=>exact H6.out.blind (by rw [hle,hr0];rfl) 2
    | cons s r'=>
     rw [H6.out.seeing (s:=s) (r:=r') (by rw [hle,hr0];rfl) 2]
     cases s with
     | rp a b=>exact absurd hr0 (HR.out a b r')
     | lf k n rs=>
      simp only [skd]
      repeat' split
      all_goals rfl
     | _=>rfl
   rw [hsb] at S0
   have S:=aC S0
   clear S0 hsb hle
   go_wp2_with (go_at_call 70;(with_reducible refine(S.out).mono ?_);rintro e w7 ⟨rfl,h1⟩;have B7:=aC h1;clear h1)
   show X (.returned (.iface T6 x6)) w7
   have e2:=HE.out
   rw [List.append_nil] at e2
   subst e2
   rw [<- HX.out]
   refine⟨_,rfl,V6.out.kept B7.out,?_,F6.out.trans (Fr.of_below B7.out)⟩
   rw [nW,List.length_append,fO,aE9,show (rps l).length=l.length by simp [rps],Nat.add_zero,<- Nat.add_assoc]
   exact H6.out.kept B7.out
  | cons z l2=>
   have hsb:eC D (p+(pfl y).length+l1.length) 2=true:=by rw [H6.out.seeing (s:=.rp z.1 z.2) (r:=rps l2 ++ r) hle 2];rfl
   rw [hsb] at S0
   have S:=aC S0
   obtain⟨d,hd,hs,-,hp⟩:=dD (show left D (p+(pfl y).length+l1.length) (g+nop (pfl y))=.rp z.1 z.2 :: (rps l2 ++ r) from hle)
   obtain⟨q,c,hv,-,-,hok,-⟩:=H6.out.dt hd
   obtain⟨hk,e1,e2⟩:=bM7 hok.1 hok.2.1 hs
   have TK:Hid (∀ W,Below wr.heap.size wr W->Calls Tryz.prog 71 #[.pointer (some ⟨b,0,none⟩)] W fun e w'=>e=.returned (.agg #[.int .i64 (d.1.1.kind:Int),.int .i64 (d.1.2.1:Int),.int .i64 (d.1.2.2:Int),.int .i64 (d.1.1.n:Int),.int .i64 z.1,.int .i64 z.2,.slice q d.2.2.length c])/\PB base w' b tv D (p+(pfl y).length+l1.length+1) (g+nop (pfl y))/\Fr (At b) W w'):=fun W hW=>by
    have:=mN (H6.out.kept hW) hd hv
    unfold pL at this
    rw [<- e1,<- e2] at this
    exact this
   clear S0 hsb hle hs hv hk hok hd e1 e2
   go_wp2_with first
    |(go_at_call 70;(with_reducible refine(S.out).mono ?_);rintro e w7 ⟨rfl,h1⟩;have B7:=aC h1;clear h1)
    |(go_at_call 71;(with_reducible refine(TK.out _ B7.out).mono ?_);rintro e w8 ⟨rfl,h1,h2⟩;have H8:=aC h1;have F8:=aC h2;have B8:Hid (Below w8.heap.size w8 (w8.alloc (.cells #[.int .i64 (d.1.1.kind:Int),.int .i64 (d.1.2.1:Int),.int .i64 (d.1.2.2:Int),.int .i64 (d.1.1.n:Int),.int .i64 z.1,.int .i64 z.2,.slice q d.2.2.length c] 116))):=bz9;clear h1 h2)
   go_roundw
   case rel=>
    refine⟨l1 ++ [z],l2,by rw [HE.out];simp,?_,?_,(F6.out.trans (Fr.of_below B7.out)).trans (F8.out.trans (Fr.of_below B8.out))⟩
    ·rw [show z=(z.1,z.2) from rfl,nV]
     exact .rep _ _ _ _ (((V6.out.kept B7.out).fr F8.out ((H6.out.kept B7.out).apt _)).kept B8.out)
    ·rw [List.length_append,List.length_singleton,<- Nat.add_assoc]
     exact H8.out.kept B8.out
   case measure=>
    have m1:=(H8.out.kept B8.out).atP
    have m2:=hat.out
    have m3:=H8.out.le
    omega
end
section
attribute [local go_sem] aV
theorem sB:(Tryz.prog.info? 75).map (fun i=>(i.zero,i.size,i.bytes))=some (some .nilIface,1,16):=by kernel_rfl
theorem rU:Tryz.prog.underlying 127=some (.slice 75):=by kernel_rfl
structure PRow(base lo:Nat)(w:World)(v:Value)(l:List Ps)(vs:List Value):Prop where
 own:w.ownsRow lo 75 1 v l.length vs
 len:vs.length=l.length
 each:∀ (i:Nat) (x:Ps) (u:Value),l[i]?=some x->vs[i]?=some u->PV base (fun k=>lo<=k/\v.ownBlock≠some k) w x u
theorem PRow.nil(base lo:Nat)(w:World):PRow base lo w (.slice none 0 0) [] []:=⟨World.ownsRow_nil _ _ _ _,rfl,fun i x u h=>by simp at h⟩
theorem PRow.kept{base lo:Nat}{w w':World}{v:Value}{l:List Ps}{vs:List Value}(h:PRow base lo w v l vs)(hb:Below w.heap.size w w'):PRow base lo w' v l vs:=
 ⟨aX h.own (Fr.of_below (S:=fun _=>False) hb) (fun _ _ q=>q),h.len,fun i x u h1 h2=>(h.each i x u h1 h2).kept hb⟩
theorem PRow.at{base lo b p g:Nat}{w w':World}{tv:Value}{D:List Dt}{v:Value}{l:List Ps}{vs:List Value}(h:PRow base lo w v l vs)(hB:PB base w b tv D p g)(hf:Fr (At b) w w'):PRow base lo w' v l vs:=
 ⟨aX h.own hf (fun k hk e=>by obtain rfl:k=b:=e;exact aK h.own hB.bd (by decide) hk),h.len,fun i x u h1 h2=>(h.each i x u h1 h2).fr hf (hB.apt _)⟩
theorem Fr.over{S T:Nat->Prop}{a w c:World}(h:Fr S a w)(k:Fr T w c)(hT:∀ i,T i->S i\/a.heap.size<=i):Fr S a c:=
 ⟨k.os.trans h.os,k.tape.trans h.tape,k.output.trans h.output,Nat.le_trans h.size k.size,fun i hi hn=>(k.block i (Nat.lt_of_lt_of_le hi h.size) (fun z=>by rcases hT i z with q | q;exact hn q;omega)).trans (h.block i hi hn)⟩
theorem PB.grow{base b p g:Nat}{w w':World}{tv:Value}{D:List Dt}{S:Nat->Prop}(h:PB base w b tv D p g)(hf:Fr S w w')(hS:∀ k,S k->∃ cs,w.heap[k]?=some (.cells cs 75 (0,0))):PB base w' b tv D p g:=
 ⟨(hf.block _ h.lt (fun z=>by obtain⟨cs,q⟩:=hS b z;exact aF2 h.bd q (by decide) rfl)).trans h.bd,h.tl.of hf (fun k hk=>by obtain⟨cs,q⟩:=hS k hk;exact⟨cs,_,q,by decide,by decide⟩),h.le,h.few,h.gp,h.ok,h.bs⟩
theorem PRow.snoc{base lo b p g n0:Nat}{w w2 w3 w4:World}{tv:Value}{D:List Dt}{v v':Value}{l:List Ps}{vs:List Value}{x:Ps}{u:Value}(h:PRow base lo w v l vs)(hB:PB base w b tv D p g)(hlo:lo<=w.heap.size)
  (hf:Fr (At b) w w2) (hn:n0=w.heap.size) (hx:PV base (fun k=>n0<=k) w2 x u) (hb:Below w2.heap.size w2 w3) (ho:w4.ownsRow lo 75 1 v' (l.length+1) (vs ++ [u])) (hg:w3.grownBy w4 v.ownBlock) (hv:v'.ownBlock=v.ownBlock\/v'.ownBlock=some w3.heap.size) :
  PRow base lo w4 v' (l ++ [x]) (vs ++ [u]):=by
 subst hn
 have h3:=(h.at hB hf).kept hb
 have hF:Fr (fun k=>v.ownBlock=some k) w3 w4:=Fr.grown (Fr.refl _ _) hg (fun k hk=>hk)
 have hs23:=hb.size
 have hsw:=hf.size
 have hvk:∀ k,v.ownBlock=some k->k < w.heap.size:=fun k hk=>(aG h.own hk).2.1
 refine⟨by rw [List.length_append];exact ho,by rw [List.length_append,List.length_append,h.len];rfl,fun i y z hy hz=>?_⟩
 rcases Nat.lt_trichotomy i l.length with q | q | q
 ·rw [List.getElem?_append_left q] at hy
  rw [List.getElem?_append_left (by rw [h.len];exact q)] at hz
  have e:=h3.each i y z hy hz
  refine(e.lt.fr hF (fun k hk=>?_)).mono (fun k hk=>⟨hk.1.1,fun e4=>?_⟩)
  ·obtain⟨-,-,cur,hc⟩:=aG h3.own hk
   exact⟨cur,_,hc,by decide,.inr fun z=>z.1.2 hk⟩
  ·rcases hv with hv | hv
   ·rw [hv] at e4;exact hk.1.2 e4
   ·rw [hv] at e4;cases e4;exact absurd hk.2 (by omega)
 ·subst q
  rw [List.getElem?_append_right lz9,Nat.sub_self] at hy
  rw [List.getElem?_append_right (by rw [h.len];exact Nat.le_refl _),h.len,Nat.sub_self] at hz
  simp at hy hz
  subst hy hz
  refine(((hx.kept hb).lt).fr hF (fun k hk=>?_)).mono (fun k hk=>⟨by omega,fun e4=>?_⟩)
  ·obtain⟨-,-,cur,hc⟩:=aG h3.own hk
   exact⟨cur,_,hc,by decide,.inr fun z=>by have:=hvk k hk;omega⟩
  ·rcases hv with hv | hv
   ·rw [hv] at e4;have:=hvk k e4;omega
   ·rw [hv] at e4;cases e4;omega
 ·rw [List.getElem?_append_right (by omega),List.getElem?_eq_none (by simp;omega)] at hy
  cases hy
theorem PRow.each'{base lo:Nat}{w:World}{v:Value}{l:List Ps}{vs:List Value}(h:PRow base lo w v l vs):∀ (i:Nat) (x:Ps) (u:Value),l[i]?=some x->vs[i]?=some u->PV base (fun k=>lo<=k) w x u:=fun i x u h1 h2=>(h.each i x u h1 h2).mono fun _ q=>q.1
theorem PRow.row{base lo c:Nat}{w:World}{q:Option Addr}{l:List Ps}{vs:List Value}(h:PRow base lo w (.slice q l.length c) l vs)(hb:base<=lo):PV base (fun k=>lo<=k) w (.row l) (.iface 141 (.agg #[.slice q l.length c])):=
 .row l vs q c h.len (cB h.own hb) (fun _ hg=>(aG h.own hg).1) h.each'
theorem PRow.alt{base lo c:Nat}{w:World}{q:Option Addr}{l:List Ps}{vs:List Value}(h:PRow base lo w (.slice q l.length c) l vs)(hb:base<=lo):PV base (fun k=>lo<=k) w (.alt l) (.iface 130 (.agg #[.slice q l.length c])):=
 .alt l vs q c h.len (cB h.own hb) (fun _ hg=>(aG h.own hg).1) h.each'
theorem PRow.one{base lo:Nat}{w:World}{v:Value}{x:Ps}{vs:List Value}(h:PRow base lo w v [x] vs):∃ g c t u,v=.slice (some ⟨g,0,none⟩) 1 c/\g < w.heap.size/\w.cell? ⟨g,0,none⟩=some (.iface t u)/\PV base (fun k=>lo<=k) w x (.iface t u):=by
 obtain⟨g,c,rfl⟩:=aH h.own (by simp)
 match vs,h.len with
 | [u],_=>
  have:=h.each' 0 x u rfl rfl
  obtain⟨t,y,rfl⟩:=this.shape
  exact⟨g,c,t,y,rfl,(aG h.own rfl).2.1,bB h.own (j:=0) rfl,this⟩
theorem aA8(x:Ps):cD x=true->wf x->∃ s t,pfl x=s :: t/\(skd s==4)=false/\(skd s==5)=false/\∀ a b,s≠.rp a b:=by
 refine Ps.ind (P:=fun x=>cD x=true->wf x->∃ s t,pfl x=s :: t/\(skd s==4)=false/\(skd s==5)=false/\∀ a b,s≠.rp a b) (fun x ih h hw=>?_) x
 cases x with
 | lf k n rs=>
  refine⟨_,[],by rw [pfl],?_,?_,fun a b e=>by cases e⟩ <;> (simp only [skd];repeat' split) <;> rfl
 | grp n z=>exact⟨_,_,by rw [pfl],rfl,rfl,fun a b e=>by cases e⟩
 | rep a b k=>
  rw [wf] at hw
  obtain⟨s,t,e,h1⟩:=ih k (by simp [Ps.kids]) (mH hw.1).1 hw.2
  exact⟨s,t ++ [.rp a b],by rw [pfl,e];rfl,h1⟩
 | row=>simp [cD] at h
 | alt=>simp [cD] at h
theorem aJ3{l:List Ps}{r:List Sgn}(hi:∀ x∈l,cD x=true/\wf x)(hr:aE4 r):bH0 (bS l ++ r):=by
 intro a b r' e
 cases l with
 | nil=>
  rw [bS,List.nil_append] at e
  rcases hr with rfl | ⟨_,rfl⟩ | ⟨_,rfl⟩ <;> cases e
 | cons x l=>
  obtain⟨s,t,e1,-,-,h3⟩:=aA8 x (hi x (List.mem_cons_self ..)).1 (hi x (List.mem_cons_self ..)).2
  rw [bS,e1] at e
  injection e with e2
  exact h3 a b e2
theorem yF{l:List Ps}(hl:∀ x∈l,ItC x/\cD x=true/\wf x){base b p g:Nat}{w:World}{tv:Value}{D:List Dt}{r:List Sgn}(h:PB base w b tv D p g)(hle:left D p g=bS l ++ r)(hr:aE4 r) :
  Calls Tryz.prog 69 #[.pointer (some ⟨b,0,none⟩)] w (iE base w b tv D p g (mkB l)):=by
 obtain⟨t0,hi,hz0,hz1,hz2⟩:=aP sB
 have HL:=aC hl
 have HLE:=aC hle
 have HR:=aC hr
 have HB:=aC h
 have hlb:=h.lt
 have hfw:=h.few
 have hbs:base<=w.heap.size:=Nat.le_trans h.bs (Nat.le_of_lt h.lt)
 obtain⟨X,hX⟩:∃ X,iE base w b tv D p g (mkB l)=X:=⟨_,rfl⟩
 have HX:=aC hX
 rw [hX]
 clear hX h hle hr hl
 go_enter Tryz.func69,Tryz.ntmps69
 go_wp2
 go_loopw [3] (fun v wr=>∃ l1 l2 vs,l=l1 ++ l2/\PRow base w.heap.size wr v l1 vs/\PB base wr b tv D (p+(bS l1).length) (g+nop (bS l1))/\Fr (At b) w wr) (fun _ wr=>D.length+1 - atP wr b)
 case atStart=>exact⟨[],l,[],rfl,PRow.nil _ _ _,by simpa [bS,nop] using HB.out,Fr.refl _ _⟩
 case round=>
  obtain⟨l1,l2,vs,e,g1,g2,g3⟩:=hrel
  obtain⟨q,c,rfl⟩:=aI g1.own
  have hleft:left D (p+(bS l1).length) (g+nop (bS l1))=bS l2 ++ r:=by
   have h1:=HLE.out
   rw [e,cI,List.append_assoc] at h1
   exact(iZ h1).1
  have S5:∀ y:Ext wr,Calls Tryz.prog 70 #[.pointer (some ⟨b,0,none⟩),.int .i64 5] y.val fun e w'=>e=.returned (.bool (eC D (p+(bS l1).length) 5))/\Below y.val.heap.size y.val w':=fun y=>pD (g2.kept y.2) 5
  have S4:∀ y:Ext wr,Calls Tryz.prog 70 #[.pointer (some ⟨b,0,none⟩),.int .i64 4] y.val fun e w'=>e=.returned (.bool (eC D (p+(bS l1).length) 4))/\Below y.val.heap.size y.val w':=fun y=>pD (g2.kept y.2) 4
  have c0:=g2.c0
  have c1:=g2.c1
  have lb:=g2.lt
  obtain⟨tq,tcap,htv⟩:=aI g2.tl.own
  rw [htv] at c0
  have hat:=aC g2.atP
  have hle2:=g2.le
  have R6:=aC g1
  have H6:=aC g2
  have F6:=aC g3
  have HE:=aC e
  have HTV:=aC htv
  clear g1 g2 g3 e htv
  generalize hpos:p+(bS l1).length=P1 at *
  have HPO:=aC hpos
  clear hpos
  cases l2 with
  | nil=>
   have hcond:decide (P1 < D.length)=false\/(eC D P1 5=true/\decide (P1 < D.length)=true)\/(eC D P1 5=false/\eC D P1 4=true/\decide (P1 < D.length)=true):=by
    rw [bS,List.nil_append] at hleft
    rcases HR.out with rfl | ⟨r',rfl⟩ | ⟨r',rfl⟩
    ·have:=xA hleft
     exact .inl (decide_eq_false (by omega))
    ·obtain⟨d,-,-,-,hp⟩:=dD hleft
     exact .inr (.inr ⟨by rw [H6.out.seeing hleft];rfl,by rw [H6.out.seeing hleft];rfl,decide_eq_true hp⟩)
    ·obtain⟨d,-,-,-,hp⟩:=dD hleft
     exact .inr (.inl ⟨by rw [H6.out.seeing hleft];rfl,decide_eq_true hp⟩)
   clear hleft
   have HCD:=aC hcond
   clear hcond
   have e2:=HE.out
   rw [List.append_nil] at e2
   have POST:Hid (∀ (v:Value) (w':World),PV base (fun k=>w.heap.size<=k) w' (mkB l) v->Below wr.heap.size wr w'->X (.returned v) w'):=fun v w' h1 h2=>by
    rw [<- HX.out]
    refine⟨v,rfl,h1,?_,F6.out.trans (Fr.of_below h2)⟩
    rw [kC,e2,HPO.out]
    exact H6.out.kept h2
   by_cases hn:l1.length=1
   ·have n1:((l1.length:Int)==1)=true:=by rw [hn];rfl
    have n2:(l1.length:Int)=1:=by omega
    have ONE:Hid (∀ W,Below wr.heap.size wr W->∃ gg t u,q=some ⟨gg,0,none⟩/\gg < W.heap.size/\W.cell? ⟨gg,0,none⟩=some (.iface t u)/\PV base (fun k=>w.heap.size<=k) W (mkB l) (.iface t u)):=fun W hW=>by
     match l1,hn with
     | [x],_=>
      obtain⟨gg,cc,t,u,f1,f2,f3,f4⟩:=(R6.out.kept hW).one
      injection f1 with f1
      rw [e2]
      exact⟨gg,t,u,f1,f2,f3,f4⟩
    rcases HCD.out with hc | ⟨s5,hc⟩ | ⟨s5,s4,hc⟩
    all_goals (
     try rw [s5] at S5
     try rw [s4] at S4
     have hc2:decide ((P1:Int) < (D.length:Int))=decide (P1 < D.length):=by simp
     rw [hc] at hc2
     go_wp2
     refine wx9 ?_
     repeat (go_big_quiet_step (first | exact rfl |(go_at_call 70;with_reducible exact cX (S5 _)) |(go_at_call 70;with_reducible exact cX (S4 _))))
     refine wpQuiet_nil ?_
     intro w5 hw5
     have B5:Hid (Below wr.heap.size wr w5):=aO hw5
     clear hw5
     obtain⟨gg,t5,u5,rfl,f2,f3,f4⟩:=ONE.out w5 B5.out
     have V5:=aC f4
     clear f4
     go_wp2
     exact POST.out _ _ V5.out B5.out)
   ·have n1:((l1.length:Int)==1)=false:=by rw [beq_eq_false_iff_ne];omega
    have ROW:Hid (∀ W,Below wr.heap.size wr W->PV base (fun k=>w.heap.size<=k) W (mkB l) (.iface 141 (.agg #[.slice q l1.length c]))):=fun W hW=>by
     have f:=(R6.out.kept hW).row hbs
     rw [e2]
     unfold mkB
     split
     ·simp at hn
     ·exact f
    have HN:=aC hn
    clear hn
    rcases HCD.out with hc | ⟨s5,hc⟩ | ⟨s5,s4,hc⟩
    all_goals (
     try rw [s5] at S5
     try rw [s4] at S4
     have hc2:decide ((P1:Int) < (D.length:Int))=decide (P1 < D.length):=by simp
     rw [hc] at hc2
     go_wp2
     refine wx9 ?_
     repeat (go_big_quiet_step (first | exact rfl |(go_at_call 70;with_reducible exact cX (S5 _)) |(go_at_call 70;with_reducible exact cX (S4 _))))
     refine wpQuiet_nil ?_
     intro w5 hw5
     have B5:Hid (Below wr.heap.size wr w5):=aO hw5
     clear hw5
     go_wp2
     exact POST.out _ _ (ROW.out _ B5.out) B5.out)
  | cons x l2=>
   have hxm:=HL.out x (by rw [HE.out];simp)
   have hxl:∀ y∈l2,cD y=true/\wf y:=fun y hy=>(HL.out y (by rw [HE.out];simp [hy])).2
   rw [bS,List.append_assoc] at hleft
   obtain⟨s,t,e1,k4,k5,-⟩:=aA8 x hxm.2.1 hxm.2.2
   have hleft':=hleft
   rw [e1,List.cons_append] at hleft'
   have s5:eC D P1 5=false:=by rw [H6.out.seeing hleft',k5]
   have s4:eC D P1 4=false:=by rw [H6.out.seeing hleft',k4]
   obtain⟨d,-,-,-,hp⟩:=dD hleft'
   have hc:decide (P1 < D.length)=true:=decide_eq_true hp
   have hc2:decide ((P1:Int) < (D.length:Int))=true:=decide_eq_true (by omega)
   rw [s5] at S5
   rw [s4] at S4
   have IT:Hid (∀ W,Below wr.heap.size wr W->Calls Tryz.prog 115 #[.pointer (some ⟨b,0,none⟩)] W (iE base W b tv D P1 (g+nop (bS l1)) x)):=fun W hW=>hxm.1 base b P1 _ W tv D _ (H6.out.kept hW) hleft (aJ3 hxl HR.out)
   have hll:l1.length<=2000:=by
    have:∀ m:List Ps,(∀ y∈m,cD y=true/\wf y)->m.length<=(bS m).length:=by
     intro m
     induction m with
     | nil=>intro _;simp
     | cons y m ih=>
      intro h
      obtain⟨s,t,e1,-⟩:=aA8 y (h y (List.mem_cons_self ..)).1 (h y (List.mem_cons_self ..)).2
      have:=ih (fun z hz=>h z (List.mem_cons_of_mem _ hz))
      rw [bS,e1]
      simp
      omega
    have:=this l1 (fun y hy=>(HL.out y (by rw [HE.out];simp [hy])).2)
    have:=HPO.out
    omega
   have HXF:=aC (show 0 < (pfl x).length by rw [e1];simp)
   clear hleft hleft' s5 s4 e1 k4 k5 hxm hxl hp
   go_wp2
   refine wx9 ?_
   repeat (go_big_quiet_step (first | exact rfl |(go_at_call 70;with_reducible exact cX (S5 _)) |(go_at_call 70;with_reducible exact cX (S4 _))))
   refine wpQuiet_nil ?_
   intro w5 hw5
   have B5:Hid (Below wr.heap.size wr w5):=aO hw5
   clear hw5 S5 S4 c0 c1 hc hc2
   go_wp2_with first
    |(go_at_call 115;(with_reducible refine(IT.out _ B5.out).mono ?_);rintro e w6 ⟨v6,rfl,h1,h2,h3⟩;obtain⟨T6,x6,rfl⟩:=h1.shape;have V6:=aC h1;have H7:=aC h2;have F7:=aC h3;have B7:Hid (Below w6.heap.size w6 (w6.alloc (.cells #[.iface T6 x6] 75))):=bz9;have R7:=aC (((R6.out.kept B5.out).at (H6.out.kept B5.out) F7.out).kept B7.out);have N7:=aC (aE w6 (.cells #[.iface T6 x6] 75));clear h1 h2 h3)
    |(at_builtin;refine wpList_append_own_at _ rfl _ _ 127 rfl w.heap.size 75 t0 .nilIface 1 16 rU hi hz0 hz1 hz2 rfl (by decide) (.slice q l1.length c) l1.length vs rfl R7.out.own ⟨w6.heap.size,0,none⟩ 1 1 [.iface T6 x6] rfl rfl (fun j u hj=>by(match j,hj with | 0,hj=>(simp at hj;subst hj;exact aB N7.out (i:=0) rfl))) (fun u hu=>by simp at hu;subst hu;rfl) (by unfold maxLen;omega) (by omega) (by have:=B7.out.size;have:=F7.out.size;have:=B5.out.size;have:=F6.out.size;omega) ?_;intro v' w8 hown' hgrow _ hblk;obtain⟨q8,c8,rfl⟩:=aI hown';have R8:=aC ((R6.out.kept B5.out).snoc (H6.out.kept B5.out) (by have:=B5.out.size;have:=F6.out.size;omega) F7.out rfl V6.out B7.out hown' hgrow hblk);have F8:Hid (Fr (fun k=>(Value.slice q l1.length c).ownBlock=some k) (w6.alloc (.cells #[.iface T6 x6] 75)) w8):=Fr.grown (Fr.refl _ _) hgrow (fun k hk=>hk);clear hown' hgrow hblk)
   go_roundw
   case rel=>
    refine⟨l1 ++ [x],l2,_,by rw [HE.out];simp,R8.out,?_,?_⟩
    ·have e4:p+(bS (l1 ++ [x])).length=P1+(pfl x).length:=by rw [cI,dN,List.length_append,<- HPO.out];omega
     have e5:g+nop (bS (l1 ++ [x]))=g+nop (bS l1)+nop (pfl x):=by rw [cI,dN,fO];omega
     rw [e4,e5]
     exact(H7.out.kept B7.out).grow F8.out (fun k hk=>(aG R7.out.own hk).2.2)
    ·exact(((F6.out.trans (Fr.of_below B5.out)).trans F7.out).trans (Fr.of_below B7.out)).over F8.out (fun k hk=>.inr (aG R7.out.own hk).1)
   case measure=>
    have m1:=((H7.out.kept B7.out).grow F8.out (fun k hk=>(aG R7.out.own hk).2.2)).atP
    have m2:=hat.out
    have m3:=H7.out.le
    have m4:=HXF.out
    omega
end
end Go.Proofs.YticfnglebbakkaaGreatDoor
