/-
  Parts of the proof.
-/
import Derived.Test.YtlaimbkenbijeaaGreatDoorTextsProofA0
import Derived.Test.YtlaimbkenbijeaaGreatDoorTextsProofB18
import Derived.Test.YtlaimbkenbijeaaGreatDoorTextsProofB23
import Derived.Test.YtlaimbkenbijeaaGreatDoorTextsProofB5
import Derived.Test.YtlaimbkenbijeaaGreatDoorTextsProofB3
import Derived.Test.YtlaimbkenbijeaaGreatDoorTextsProofB24
import Derived.Test.YtlaimbkenbijeaaGreatDoorTextsProofB25
import Derived.Test.YtlaimbkenbijeaaGreatDoorTextsProofB19
import Derived.Test.YtlaimbkenbijeaaGreatDoorTextsProofB20
import Derived.Test.YtlaimbkenbijeaaGreatDoorTextsProofB22
import Derived.Test.YtlaimbkenbijeaaGreatDoorTextsProofB17
set_option maxRecDepth 100000
set_option maxHeartbeats 8000000
namespace Go.Proofs.YtlaimbkenbijeaaGreatDoor
open Go Go.RowKit
section
attribute [local go_sem] Oper.semAt_some bB
def noB:ByteArray:=⟨#[]⟩
def dN(x:ByteArray × Bool):ByteArray × Bool:=if 1000 < x.1.size then (x.1.extract 0 1000,false) else x
def fI(s:ByteArray)(n:Nat):ByteArray:=⟨(Lib.repeatL s.data.toList n).toArray⟩
def iF(f:Fl)(x:ByteArray × Bool):ByteArray × Bool:=if f.mx=0 then (noB,true) else if f.mn=0 then (noB,false) else if x.2 then dN (fI x.1 f.mn.toNat,f.mn==f.mx) else x
def gN(x:ByteArray × Bool):Prop:=x.1.size<=1000
theorem oX(s:ByteArray)(n:Nat)(h:n<=s.size):(s.extract 0 n).size=n:=by
 simp [ByteArray.size_extract];omega
theorem zH(x:ByteArray × Bool):gN (dN x):=by
 unfold dN gN
 split
 ·rename_i h
  simp only
  rw [oX _ _ (by omega)]
  exact n8 _
 ·omega
theorem fK(b:Bool):gN (noB,b):=m9 _
theorem aP3(f:Fl){x:ByteArray × Bool}(h:gN x):gN (iF f x):=by
 unfold iF
 split
 ·exact fK _
 split
 ·exact fK _
 split
 ·exact zH _
 ·exact h
theorem bC9(l:List UInt8)(n:Nat):(Lib.repeatL l n).length=l.length * n:=by
 induction n with
 | zero=>rfl
 | succ n ih=>rw [Lib.repeatL,m7,ih,Nat.mul_add];omega
theorem mU(s:ByteArray)(n:Nat):(fI s n).size=s.size * n:=by
 show (Lib.repeatL s.data.toList n).toArray.size=_
 rw [aBB,bC9]
 rfl
theorem aI3{R:Ending->World->Prop}{a:Act}{W:World}{b:Nat}{x:ByteArray × Bool}(h:W.heap[b]?=some (.cells #[.string x.1,.bool x.2] 80 (0,0)))(ha:a.tmps[2]?.getD undef=.pointer (some ⟨b,0,none⟩))(hd:a.defers=[])(hR:R (.returned (enO x)) W):bodyPost Tryz.prog Tryz.f123 R .ret a W:=by
 refine bodyPost_ret (v:=enO x) ?_ hd hR
 have z0:=aA h (i:=0) rfl;have z1:=aA h (i:=1) rfl
 simp [results,Tryz.results123,go_sem,ha,enO,z0,z1]
theorem bG3(s:ByteArray)(w:World)(h:s.size<=281474976710656):Calls Tryz.prog 148 #[.string s] w fun e w'=>e=.returned (.string s)/\Below w.heap.size w w':=by
 have HC:=aD (Tryz.stringslite_Clone s w h)
 go_enter Tryz.func148,Tryz.ntmps148
 go_wp2_with (go_at_call 182;refine HC.out.mono ?_;rintro e w5 ⟨rfl,h5⟩;have B5:=aD h5;clear h5)
 go_ret
 exact⟨rfl,B5.out⟩
theorem qN(s:ByteArray)(b:Bool)(w:World)(hs:s.size<=1000000000):Calls Tryz.prog 123 #[.agg #[.string s,.bool b]] w fun e w'=>e=.returned (enO (dN (s,b)))/\Below w.heap.size w w':=by
 have B1:Hid (Below w.heap.size w ((w.alloc (.cells #[.string s,.bool b] 80)).alloc (.cells #[.string ⟨#[]⟩,.bool false] 80))):=(bz9).alloc (by simp only [a7];omega) _
 have R1:Hid (((w.alloc (.cells #[.string s,.bool b] 80)).alloc (.cells #[.string ⟨#[]⟩,.bool false] 80)).heap[w.heap.size+1]?=some (.cells #[.string ⟨#[]⟩,.bool false] 80 (0,0))):=aK _ (by simp only [a7])
 have X1:Hid (((w.alloc (.cells #[.string s,.bool b] 80)).alloc (.cells #[.string ⟨#[]⟩,.bool false] 80)).heap[w.heap.size]?=some (.cells #[.string s,.bool b] 80 (0,0))):=(Below.heap_alloc _ _ _ (by simp only [a7];omega)).trans (aE w _)
 by_cases h:1000 < s.size
 ·have hv:Hid (dN (s,b)=(s.extract 0 1000,false)):=if_pos h
  have hi:(1000:Int) < (s.size:Int):=by omega
  have hes:(s.extract 0 1000).size<=281474976710656:=by rw [oX _ _ (by omega)];omega
  go_enter Tryz.func123,Tryz.ntmps123
  go_upto_region 1 with fail
  generalize hWg:(w.alloc (.cells #[.string s,.bool b] 80)).alloc (.cells #[.string ⟨#[]⟩,.bool false] 80)=Wg at B1 R1 X1 ⊢
  clear hWg
  have x0:=aA X1.out (i:=0) rfl
  have x1:=aA X1.out (i:=1) rfl
  have HC:=aD (bG3 (s.extract 0 1000) Wg hes)
  clear hes
  go_wp2_with (go_at_call 148;refine HC.out.mono ?_;rintro e w5 ⟨rfl,h5⟩;have B5:=aD h5;clear h5;have R5:=aD ((B5.out.block _ (aB R1.out)).trans R1.out);have z0:=aA R5.out (i:=0) rfl;have z1:=aA R5.out (i:=1) rfl;have fz:=fun z=>aG R5.out z)
  refine aI3 (b:=w.heap.size+1) (x:=(s.extract 0 1000,false)) (bA R5.out [.string (s.extract 0 1000),.bool false] rfl) rfl rfl ?_
  exact⟨by rw [hv.out],bC (aJ B1.out B5.out lz9) (aV (w.heap.size+1) [.string (s.extract 0 1000),.bool false] 0 _) lz9 (fun k e=>by omega)⟩
 ·have hv:Hid (dN (s,b)=(s,b)):=if_neg h
  have hi:¬ (1000:Int) < (s.size:Int):=by omega
  go_enter Tryz.func123,Tryz.ntmps123
  go_upto_region 1 with fail
  generalize hWg:(w.alloc (.cells #[.string s,.bool b] 80)).alloc (.cells #[.string ⟨#[]⟩,.bool false] 80)=Wg at B1 R1 X1 ⊢
  clear hWg
  have x0:=aA X1.out (i:=0) rfl
  have x1:=aA X1.out (i:=1) rfl
  have z0:=aA R1.out (i:=0) rfl
  have z1:=aA R1.out (i:=1) rfl
  have fz:=fun z=>aG R1.out z
  go_wp2
  refine aI3 (b:=w.heap.size+1) (x:=(s,b)) (bA R1.out [.string s,.bool b] rfl) rfl rfl ?_
  exact⟨by rw [hv.out],bC B1.out (aV (w.heap.size+1) [.string s,.bool b] 0 _) lz9 (fun k e=>by omega)⟩
theorem mT{R:Ending->World->Prop}{a:Act}{W:World}{b:Nat}{x:ByteArray × Bool}(h:W.heap[b]?=some (.cells #[.string x.1,.bool x.2] 80 (0,0)))(ha:a.tmps[4]?.getD undef=.pointer (some ⟨b,0,none⟩))(hd:a.defers=[])(hR:R (.returned (enO x)) W):bodyPost Tryz.prog Tryz.f91 R .ret a W:=by
 refine bodyPost_ret (v:=enO x) ?_ hd hR
 have z0:=aA h (i:=0) rfl;have z1:=aA h (i:=1) rfl
 simp [results,Tryz.results91,go_sem,ha,enO,z0,z1]
theorem aD6(f:Fl)(s:ByteArray)(b:Bool)(w:World)(hs:gN (s,b))(hb:fU f.mn f.mx=true):Calls Tryz.prog 91 #[.agg #[.int .i64 f.k,.int .i64 f.n,.int .i64 f.mn,.int .i64 f.mx,.slice f.rq f.rs.length f.rc,.slice f.kq f.kl f.kc],.agg #[.string s,.bool b]] w fun e w'=>e=.returned (enO (iF f (s,b)))/\Below w.heap.size w w':=by
 have hb1:0<=f.mn/\f.mn<=255:=by simp [fU] at hb;omega
 have hs1:s.size<=1000:=hs
 clear hb hs
 have B1:Hid (Below w.heap.size w (((w.alloc (.cells #[.int .i64 f.k,.int .i64 f.n,.int .i64 f.mn,.int .i64 f.mx,.slice f.rq f.rs.length f.rc,.slice f.kq f.kl f.kc] 25)).alloc (.cells #[.string s,.bool b] 80)).alloc (.cells #[.string ⟨#[]⟩,.bool false] 80))):=((bz9).alloc (by simp only [a7];omega) _).alloc (by simp only [a7];omega) _
 have R1:Hid ((((w.alloc (.cells #[.int .i64 f.k,.int .i64 f.n,.int .i64 f.mn,.int .i64 f.mx,.slice f.rq f.rs.length f.rc,.slice f.kq f.kl f.kc] 25)).alloc (.cells #[.string s,.bool b] 80)).alloc (.cells #[.string ⟨#[]⟩,.bool false] 80)).heap[w.heap.size+1+1]?=some (.cells #[.string ⟨#[]⟩,.bool false] 80 (0,0))):=aK _ (by simp only [a7])
 have X1:Hid ((((w.alloc (.cells #[.int .i64 f.k,.int .i64 f.n,.int .i64 f.mn,.int .i64 f.mx,.slice f.rq f.rs.length f.rc,.slice f.kq f.kl f.kc] 25)).alloc (.cells #[.string s,.bool b] 80)).alloc (.cells #[.string ⟨#[]⟩,.bool false] 80)).heap[w.heap.size+1]?=some (.cells #[.string s,.bool b] 80 (0,0))):=(Below.heap_alloc _ _ _ (by simp only [a7];omega)).trans (aK _ (by simp only [a7]))
 have N1:Hid (BoxN (((w.alloc (.cells #[.int .i64 f.k,.int .i64 f.n,.int .i64 f.mn,.int .i64 f.mx,.slice f.rq f.rs.length f.rc,.slice f.kq f.kl f.kc] 25)).alloc (.cells #[.string s,.bool b] 80)).alloc (.cells #[.string ⟨#[]⟩,.bool false] 80)) w.heap.size f):=(Below.heap_alloc _ _ _ (by simp only [a7];omega)).trans ((Below.heap_alloc _ _ _ (by simp only [a7];omega)).trans (aE w _))
 go_enter Tryz.func91,Tryz.ntmps91
 go_upto_region 1 with fail
 generalize hWg:((w.alloc (.cells #[.int .i64 f.k,.int .i64 f.n,.int .i64 f.mn,.int .i64 f.mx,.slice f.rq f.rs.length f.rc,.slice f.kq f.kl f.kc] 25)).alloc (.cells #[.string s,.bool b] 80)).alloc (.cells #[.string ⟨#[]⟩,.bool false] 80)=Wg at B1 R1 X1 N1 ⊢
 clear hWg
 have x0:=aA X1.out (i:=0) rfl
 have x1:=aA X1.out (i:=1) rfl
 have n2:Wg.cell? ⟨w.heap.size,2,none⟩=some (.int .i64 f.mn):=N1.out.six.2.2.1
 have n3:Wg.cell? ⟨w.heap.size,3,none⟩=some (.int .i64 f.mx):=N1.out.six.2.2.2.1
 have l0:=aB N1.out
 have l1:=aB X1.out
 have l2:=aB R1.out
 cases h1:(f.mx==0) with
 | true=>
  have hv:=aD (show iF f (s,b)=(noB,true) by unfold iF;simp at h1;simp [h1])
  have z0:=aA R1.out (i:=0) rfl
  have z1:=aA R1.out (i:=1) rfl
  have fz:=fun z=>aG R1.out z
  go_wp2
  refine mT (b:=w.heap.size+1+1) (x:=(⟨#[]⟩,true)) (bA R1.out [.string ⟨#[]⟩,.bool true] rfl) rfl rfl ?_
  exact⟨by rw [hv.out];rfl,bC B1.out (aV (w.heap.size+1+1) [.string ⟨#[]⟩,.bool true] 0 _) lz9 (fun k e=>by omega)⟩
 | false=>
  cases h2:(f.mn==0) with
  | true=>
   have hv:=aD (show iF f (s,b)=(noB,false) by unfold iF;simp at h1 h2;simp [h1,h2])
   have z0:=aA R1.out (i:=0) rfl
   have z1:=aA R1.out (i:=1) rfl
   have fz:=fun z=>aG R1.out z
   go_wp2
   refine mT (b:=w.heap.size+1+1) (x:=(⟨#[]⟩,false)) (bA R1.out [.string ⟨#[]⟩,.bool false] rfl) rfl rfl ?_
   exact⟨by rw [hv.out];rfl,bC B1.out (aV (w.heap.size+1+1) [.string ⟨#[]⟩,.bool false] 0 _) lz9 (fun k e=>by omega)⟩
  | false=>
   cases b with
   | false=>
    have hv:=aD (show iF f (s,false)=(s,false) by unfold iF;simp at h1 h2;simp [h1,h2])
    have z0:=aA R1.out (i:=0) rfl
    have z1:=aA R1.out (i:=1) rfl
    have fz:=fun z=>aG R1.out z
    go_wp2
    refine mT (b:=w.heap.size+1+1) (x:=(s,false)) (bA R1.out [.string s,.bool false] rfl) rfl rfl ?_
    exact⟨by rw [hv.out],bC B1.out (aV (w.heap.size+1+1) [.string s,.bool false] 0 _) lz9 (fun k e=>by omega)⟩
   | true=>
    have hv:=aD (show iF f (s,true)=dN (fI s f.mn.toNat,f.mn==f.mx) by unfold iF;simp at h1 h2;simp [h1,h2])
    obtain⟨m,hm⟩:∃ m:Nat,f.mn=(m:Int):=⟨f.mn.toNat,by omega⟩
    have hrs:(fI s m).size<=1000000000:=by rw [mU];exact i8 (Nat.mul_le_mul hs1 (show m<=255 by omega)) (by omega)
    have HRP:Hid (∀ w,Calls Tryz.prog 124 #[.string s,.int .i64 f.mn] w fun e w'=>e=.returned (.string (fI s m))/\Below w.heap.size w w'):=fun w=>by rw [hm];exact Tryz.strings_Repeat s m w (by omega) (i8 (Nat.mul_le_mul hs1 (show m<=255 by omega)) (by omega))
    rw [hm,aBF] at hv
    rw [<- hm] at hv
    obtain⟨eb,heb⟩:∃ e,(f.mn==f.mx)=e:=⟨_,rfl⟩
    rw [heb] at hv
    have HCT:Hid (∀ w,Calls Tryz.prog 123 #[.agg #[.string (fI s m),.bool eb]] w fun e w'=>e=.returned (enO (dN (fI s m,eb)))/\Below w.heap.size w w'):=fun w=>qN _ _ w hrs
    obtain⟨⟨ya,yb⟩,hy⟩:∃ y,dN (fI s m,eb)=y:=⟨_,rfl⟩
    rw [hy] at HCT hv
    simp only [enO] at HCT
    clear hy hm hrs
    go_wp2
    refine aW (aAF _ _) (by kernel_rfl) (by kernel_rfl) (by kernel_rfl) ?_
    dsimp only [List.dropLast,List.getLast]
    repeat (go_big_quiet_step (first | exact rfl |(go_at_call 124;exact bN (HRP.out _)) |(go_at_call 123;exact bN (HCT.out _))))
    refine wpQuiet_nil ?_
    intro w3 hw
    have B3:=aD (aQ hw)
    have R3:=aD ((B3.out.block _ l2).trans R1.out)
    clear hw
    have z0:=aA R3.out (i:=0) rfl
    have z1:=aA R3.out (i:=1) rfl
    have fz:=fun z=>aG R3.out z
    go_wp2
    refine mT (b:=w.heap.size+1+1) (x:=(ya,yb)) (bA R3.out [.string ya,.bool yb] rfl) rfl rfl ?_
    exact⟨by rw [hv.out],bC (aJ B1.out B3.out lz9) (aV (w.heap.size+1+1) [.string ya,.bool yb] 0 _) lz9 (fun k e=>by omega)⟩
end
section
attribute [local go_sem] Oper.semAt_some bB
def dF:ByteArray->Bool->List Tr->List (ByteArray × Bool)->ByteArray × Bool
 | s,b,u :: ks,x :: xs=>if (x.2 || u.f.k==3) && !(decide (1000 < (s ++ x.1).size)) then dF (s ++ x.1) (b && x.2) ks xs else (s ++ x.1,b && x.2)
 | s,b,[],_=>(s,b)
 | s,b,_ :: _,[]=>(s,b)
theorem bC2{t:Tr}{xs:List (ByteArray × Bool)}{j:Nat}{u:Tr}{x:ByteArray × Bool}(hu:t.ks[j]?=some u)(hx:xs[j]?=some x)(s:ByteArray)(b:Bool) :
  dF s b (t.ks.drop j) (xs.drop j)=if (x.2 || u.f.k==3) && !(decide (1000 < (s ++ x.1).size)) then dF (s ++ x.1) (b && x.2) (t.ks.drop (j+1)) (xs.drop (j+1)) else (s ++ x.1,b && x.2):=by
 obtain⟨h1,h2⟩:=i5.1 hu
 obtain⟨h3,h4⟩:=i5.1 hx
 rw [aAH h1,aAH h3,h2,h4,dF]
def ThO(S:Array Value)(W V:World)(x:ByteArray × Bool):Prop:=V.heap[W.heap.size]?=some (.cells S 147 (0,0))/\V.heap[W.heap.size+1]?=some (.cells #[.string ⟨#[]⟩,.bool false] 80 (0,0))/\V.heap[W.heap.size+1+1]?=some (.cells #[.string x.1,.bool x.2] 80 (0,0))/\Below W.heap.size W V
theorem ThO.put{S:Array Value}{W V:World}{x:ByteArray × Bool}(h:ThO S W V x)(y:ByteArray × Bool):ThO S W (bD V (W.heap.size+1+1) 0 [.string y.1,.bool y.2]) y:=
 ⟨((aV _ _ 0 V).block _ (aB h.1) (by omega)).trans h.1,((aV _ _ 0 V).block _ (aB h.2.1) (by omega)).trans h.2.1,bA h.2.2.1 [.string y.1,.bool y.2] rfl,bC h.2.2.2 (aV _ _ 0 V) lz9 (fun k e=>by omega)⟩
theorem ThO.kept{S:Array Value}{W V V':World}{x:ByteArray × Bool}(h:ThO S W V x)(hb:Below V.heap.size V V'):ThO S W V' x:=
 ⟨(hb.block _ (aB h.1)).trans h.1,(hb.block _ (aB h.2.1)).trans h.2.1,(hb.block _ (aB h.2.2.1)).trans h.2.2.1,aJ h.2.2.2 hb lz9⟩
theorem ThO.end{S:Array Value}{W V:World}{x:ByteArray × Bool}(h:ThO S W V x)(y:ByteArray × Bool):(bD V (W.heap.size+1) 0 [.string y.1,.bool y.2]).heap[W.heap.size+1]?=some (.cells #[.string y.1,.bool y.2] 80 (0,0))/\Below W.heap.size W (bD V (W.heap.size+1) 0 [.string y.1,.bool y.2]):=
 ⟨bA h.2.1 [.string y.1,.bool y.2] rfl,bC h.2.2.2 (aV _ _ 0 V) lz9 (fun k e=>by omega)⟩
theorem iR{R:Ending->World->Prop}{a:Act}{W:World}{b:Nat}{x:ByteArray × Bool}(h:W.heap[b]?=some (.cells #[.string x.1,.bool x.2] 80 (0,0)))(ha:a.tmps[2]?.getD undef=.pointer (some ⟨b,0,none⟩))(hd:a.defers=[])(hR:R (.returned (enO x)) W):bodyPost Tryz.prog Tryz.f90 R .ret a W:=by
 refine bodyPost_ret (v:=enO x) ?_ hd hR
 have z0:=aA h (i:=0) rfl;have z1:=aA h (i:=1) rfl
 simp [results,Tryz.results90,go_sem,ha,enO,z0,z1]
def RowO(W:World)(q:Option Addr)(xs:List (ByteArray × Bool)):Prop:=∀ (i:Nat) (x:ByteArray × Bool),xs[i]?=some x->∃ gb,q=some ⟨gb,0,none⟩/\gb < W.heap.size/\W.cell? ⟨gb,i * 2,none⟩=some (.string x.1)/\W.cell? ⟨gb,i * 2+1,none⟩=some (.bool x.2)
theorem RowO.of{W:World}{base:Nat}{q:Option Addr}{c:Nat}{xs:List (ByteArray × Bool)}(h:W.ownsRow base 80 2 (.slice q xs.length c) xs.length (ceO xs)):RowO W q xs:=fun i x hx=>by
 have hi:=(i5.1 hx).1
 obtain⟨gb,cb,e⟩:=aL h (by omega)
 injection e with e1 e2 e3
 subst e1 e3
 have p:=fun j hj=>kW (fun x:ByteArray × Bool=>[Value.string x.1,.bool x.2]) 2 (fun _=>rfl) xs i x hx j hj
 exact⟨gb,rfl,(aH h rfl).2.1,aU h (p 0 (by decide)),aU h (p 1 (by decide))⟩
theorem RowO.kept{W W':World}{q:Option Addr}{xs:List (ByteArray × Bool)}(h:RowO W q xs)(hb:Below W.heap.size W W'):RowO W' q xs:=fun i x hx=>by
 obtain⟨gb,h1,h2,a,b⟩:=h i x hx
 exact⟨gb,h1,i6 h2 hb.size,(hb.cell (p:=⟨gb,i * 2,none⟩) h2).trans a,(hb.cell (p:=⟨gb,i * 2+1,none⟩) h2).trans b⟩
theorem sG{t:Tr}{xs:List (ByteArray × Bool)}{W:World}{qv:Option Addr}{cv bp:Nat}{c o:Bool}(hsz:t.ks.length<=1000000)(hnb:NB W t)(hlen:xs.length=t.ks.length)(hgx:∀ x∈xs,gN x)(hrow:RowO W qv xs) :
  Calls Tryz.prog 90 #[.agg #[.int .i64 t.f.k,.int .i64 t.f.n,.int .i64 t.f.mn,.int .i64 t.f.mx,.slice t.f.rq t.f.rs.length t.f.rc,.slice t.f.kq t.f.kl t.f.kc,.bool c,.bool o,.slice qv xs.length cv,.func (.func 87) #[] #[bx bp]]] W fun e w'=>e=.returned (enO (dN (dF noB true t.ks xs)))/\Below W.heap.size W w':=by
 have hxl:xs.length<=1000000:=by rw [hlen];exact hsz
 have hkl:(t.f.kl:Int)=(xs.length:Int):=by rw [hnb.kl,hlen]
 obtain⟨q1,cap1,e1,-,-,hk3⟩:=hnb.k.slice
 injection e1 with e1 e2 e3
 subst e1 e3
 have HK3:=aD hk3
 have HR:=aD hrow
 have HG:=aD hgx
 have HLEN:=aD hlen
 have HKL:=aD hkl
 clear hrow hgx hlen hnb hsz hk3 e2 hkl
 have T0:Hid (ThO #[.int .i64 t.f.k,.int .i64 t.f.n,.int .i64 t.f.mn,.int .i64 t.f.mx,.slice t.f.rq t.f.rs.length t.f.rc,.slice t.f.kq t.f.kl t.f.kc,.bool c,.bool o,.slice qv xs.length cv,.func (.func 87) #[] #[bx bp]] W (((W.alloc (.cells #[.int .i64 t.f.k,.int .i64 t.f.n,.int .i64 t.f.mn,.int .i64 t.f.mx,.slice t.f.rq t.f.rs.length t.f.rc,.slice t.f.kq t.f.kl t.f.kc,.bool c,.bool o,.slice qv xs.length cv,.func (.func 87) #[] #[bx bp]] 147)).alloc (.cells #[.string ⟨#[]⟩,.bool false] 80)).alloc (.cells #[.string ⟨#[]⟩,.bool true] 80)) (noB,true)):=⟨(by(repeat (first | exact aK _ (by first | rfl | simp only [a7]) | rw [Below.heap_alloc _ _ _ (by first | omega |(simp only [a7];omega))]))),(Below.heap_alloc _ _ _ (by simp only [a7];omega)).trans (aK _ (by simp only [a7])),aK _ (by simp only [a7]),((bz9).alloc (by simp only [a7];omega) _).alloc (by simp only [a7];omega) _⟩
 go_enter Tryz.func90,Tryz.ntmps90
 go_upto_region 2 with fail
 generalize hW0:(((W.alloc (.cells #[.int .i64 t.f.k,.int .i64 t.f.n,.int .i64 t.f.mn,.int .i64 t.f.mx,.slice t.f.rq t.f.rs.length t.f.rc,.slice t.f.kq t.f.kl t.f.kc,.bool c,.bool o,.slice qv xs.length cv,.func (.func 87) #[] #[bx bp]] 147)).alloc (.cells #[.string ⟨#[]⟩,.bool false] 80)).alloc (.cells #[.string ⟨#[]⟩,.bool true] 80))=W0 at T0 ⊢
 clear hW0
 have s8:W0.cell? ⟨W.heap.size,8,none⟩=some (.slice qv xs.length cv):=aA T0.out.1 (i:=8) rfl
 go_upto_region 3 with fail
 clear s8
 go_loopw [11] (fun i wr=>∃ (j:Nat) (s:ByteArray) (b:Bool),j<=xs.length/\i=.int .i64 (j:Int)/\ThO #[.int .i64 t.f.k,.int .i64 t.f.n,.int .i64 t.f.mn,.int .i64 t.f.mx,.slice t.f.rq t.f.rs.length t.f.rc,.slice t.f.kq t.f.kl t.f.kc,.bool c,.bool o,.slice qv xs.length cv,.func (.func 87) #[] #[bx bp]] W wr (s,b)/\s.size<=1000/\dF noB true t.ks xs=dF s b (t.ks.drop j) (xs.drop j)) (fun i _=>xs.length - (intOf i).toNat)
 case atStart=>exact⟨0,noB,true,m9 _,rfl,T0.out,m9 _,rfl⟩
 case round=>
  obtain⟨j,s,b,hj,rfl,ht,hs,hrw⟩:=hrel
  have TT:=aD ht
  have RW:=aD hrw
  clear ht hrw
  by_cases hjl:j < xs.length
  ·obtain⟨⟨xa,xb⟩,hx⟩:∃ x,xs[j]?=some x:=⟨_,g9 hjl⟩
   obtain⟨u,hu⟩:∃ u,t.ks[j]?=some u:=⟨_,g9 (by rw [<- HLEN.out];exact hjl)⟩
   have DN:=aD (RW.out.trans (bC2 hu hx s b))
   simp only at DN
   have hxa:xa.size<=1000:=HG.out _ (i9 hx)
   have e1:(j:Int) < (xs.length:Int):=by omega
   obtain⟨gb,rfl,hg,c0,c1⟩:=(HR.out.kept TT.out.2.2.2) j _ hx
   obtain⟨gk,off,hq,hgk,six⟩:=HK3.out j u hu
   have HSX:=aD six
   have HQ:=aD hq
   simp only at c0 c1
   clear hx hu six hq
   have T1:Hid (ThO #[.int .i64 t.f.k,.int .i64 t.f.n,.int .i64 t.f.mn,.int .i64 t.f.mx,.slice t.f.rq t.f.rs.length t.f.rc,.slice t.f.kq t.f.kl t.f.kc,.bool c,.bool o,.slice (some ⟨gb,0,none⟩) xs.length cv,.func (.func 87) #[] #[bx bp]] W (wr.alloc (.cells #[.string xa,.bool xb] 80)) (s,b)):=TT.out.kept (bz9)
   have K1:=aD (aE wr (.cells #[.string xa,.bool xb] 80))
   have NN:wr.heap.size≠W.heap.size+1+1:=by have:=aB TT.out.2.2.1;omega
   have L1:wr.heap.size < (wr.alloc (.cells #[.string xa,.bool xb] 80)).heap.size:=by rw [a7];omega
   go_upto_region 5 with fail
   generalize hW1:wr.alloc (.cells #[.string xa,.bool xb] 80)=W1 at T1 K1 L1 ⊢
   clear hW1 c0 c1
   have k0:W1.cell? ⟨wr.heap.size,0,none⟩=some (.string xa):=aA K1.out (i:=0) rfl
   have k1:W1.cell? ⟨wr.heap.size,1,none⟩=some (.bool xb):=aA K1.out (i:=1) rfl
   have y0:W1.cell? ⟨W.heap.size+1+1,0,none⟩=some (.string s):=aA T1.out.2.2.1 (i:=0) rfl
   have y1:W1.cell? ⟨W.heap.size+1+1,1,none⟩=some (.bool b):=aA T1.out.2.2.1 (i:=1) rfl
   have fy:=fun z=>aG T1.out.2.2.1 z
   have hadd:(s ++ xa).size<=2000:=by rw [ByteArray.size_append];omega
   cases b with
   | true=>
    have DN2:=aD (show dF noB true t.ks xs=if (xb || u.f.k==3) && !(decide (1000 < (s ++ xa).size)) then dF (s ++ xa) xb (t.ks.drop (j+1)) (xs.drop (j+1)) else (s ++ xa,xb) by rw [DN.out];simp only [aCC])
    clear DN
    have T6:Hid (ThO #[.int .i64 t.f.k,.int .i64 t.f.n,.int .i64 t.f.mn,.int .i64 t.f.mx,.slice t.f.rq t.f.rs.length t.f.rc,.slice t.f.kq t.f.kl t.f.kc,.bool c,.bool o,.slice (some ⟨gb,0,none⟩) xs.length cv,.func (.func 87) #[] #[bx bp]] W (bD W1 (W.heap.size+1+1) 0 [.string (s ++ xa),.bool xb]) (s ++ xa,xb)):=T1.out.put (s ++ xa,xb)
    have K6:Hid ((bD W1 (W.heap.size+1+1) 0 [.string (s ++ xa),.bool xb]).heap[wr.heap.size]?=some (.cells #[.string xa,.bool xb] 80 (0,0))):=((aV _ _ 0 W1).block _ L1 NN).trans K1.out
    go_upto_region 6 with fail
    change Code.wp _ _ _ _ (bD W1 (W.heap.size+1+1) 0 [.string (s ++ xa),.bool xb])
    generalize bD W1 (W.heap.size+1+1) 0 [.string (s ++ xa),.bool xb]=W9 at T6 K6 ⊢
    generalize s ++ xa=X at T6 DN2 hadd ⊢
    clear y0 y1 fy k0 k1 T1 K1 L1 NN
    have k1:W9.cell? ⟨wr.heap.size,1,none⟩=some (.bool xb):=aA K6.out (i:=1) rfl
    have y0:W9.cell? ⟨W.heap.size+1+1,0,none⟩=some (.string X):=aA T6.out.2.2.1 (i:=0) rfl
    have s5:W9.cell? ⟨W.heap.size,5,none⟩=some (.slice t.f.kq t.f.kl t.f.kc):=aA T6.out.1 (i:=5) rfl
    rw [HQ.out] at s5
    have q0:W9.cell? ⟨gk,off+j * 6,none⟩=some (.int .i64 u.f.k):=(T6.out.2.2.2.cell (p:=⟨gk,off+j * 6,none⟩) hgk).trans HSX.out.1
    have e5:(j:Int) < (t.f.kl:Int):=by rw [HKL.out];exact e1
    obtain⟨lg,hlg⟩:∃ l,decide (1000 < X.size)=l:=⟨_,rfl⟩
    rw [hlg] at DN2
    have hlg2:decide ((1000:Int) < (X.size:Int))=lg:=by rw [<- hlg];exact decide_eq_decide.2 (by omega)
    cases xb with
    | true=>
     cases lg with
     | true=>
      rw [if_neg (by simp)] at DN2
      go_upto_region 9 with fail
      clear y0
      have y0:=aA T6.out.2.2.1 (i:=0) rfl
      have y1:=aA T6.out.2.2.1 (i:=1) rfl
      have HCT:Hid (∀ w,Calls Tryz.prog 123 #[.agg #[.string X,.bool true]] w fun e w'=>e=.returned (enO (dN (X,true)))/\Below w.heap.size w w'):=fun w=>qN _ _ w (by omega)
      obtain⟨⟨ra,rb⟩,hy⟩:∃ y,dN (X,true)=y:=⟨_,rfl⟩
      have HV:=aD (show dN (dF noB true t.ks xs)=(ra,rb) by rw [DN2.out,hy])
      rw [hy] at HCT
      simp only [enO] at HCT
      clear hy
      go_wp2_with (go_at_call 123;refine(HCT.out _).mono ?_;rintro e w5 ⟨rfl,h5⟩;have T5:=aD (T6.out.kept h5);clear h5;have z0:=aA T5.out.2.1 (i:=0) rfl;have z1:=aA T5.out.2.1 (i:=1) rfl;have fz:=fun z=>aG T5.out.2.1 z)
      have T9:=T5.out.end (ra,rb)
      simp only [bD] at T9
      refine iR (b:=W.heap.size+1) (x:=(ra,rb)) T9.1 rfl rfl ?_
      exact⟨by rw [HV.out],T9.2⟩
     | false=>
      rw [if_pos (by simp [])] at DN2
      go_wp2
      go_roundw
      case rel=>exact⟨j+1,X,true,by omega,by go_num,T6.out,by simp at hlg;exact hlg,DN2.out⟩
      case measure=>simp only [intOf];omega
    | false=>
     cases e3:(u.f.k==3) with
     | true=>
      cases lg with
      | true=>
       rw [if_neg (by simp)] at DN2
       go_upto_region 9 with fail
       clear y0
       have y0:=aA T6.out.2.2.1 (i:=0) rfl
       have y1:=aA T6.out.2.2.1 (i:=1) rfl
       have HCT:Hid (∀ w,Calls Tryz.prog 123 #[.agg #[.string X,.bool false]] w fun e w'=>e=.returned (enO (dN (X,false)))/\Below w.heap.size w w'):=fun w=>qN _ _ w (by omega)
       obtain⟨⟨ra,rb⟩,hy⟩:∃ y,dN (X,false)=y:=⟨_,rfl⟩
       have HV:=aD (show dN (dF noB true t.ks xs)=(ra,rb) by rw [DN2.out,hy])
       rw [hy] at HCT
       simp only [enO] at HCT
       clear hy
       go_wp2_with (go_at_call 123;refine(HCT.out _).mono ?_;rintro e w5 ⟨rfl,h5⟩;have T5:=aD (T6.out.kept h5);clear h5;have z0:=aA T5.out.2.1 (i:=0) rfl;have z1:=aA T5.out.2.1 (i:=1) rfl;have fz:=fun z=>aG T5.out.2.1 z)
       have T9:=T5.out.end (ra,rb)
       simp only [bD] at T9
       refine iR (b:=W.heap.size+1) (x:=(ra,rb)) T9.1 rfl rfl ?_
       exact⟨by rw [HV.out],T9.2⟩
      | false=>
       rw [if_pos (by simp [e3])] at DN2
       go_wp2
       go_roundw
       case rel=>exact⟨j+1,X,false,by omega,by go_num,T6.out,by simp at hlg;exact hlg,DN2.out⟩
       case measure=>simp only [intOf];omega
     | false=>
      rw [if_neg (by simp [e3])] at DN2
      go_upto_region 9 with fail
      clear y0
      have y0:=aA T6.out.2.2.1 (i:=0) rfl
      have y1:=aA T6.out.2.2.1 (i:=1) rfl
      have HCT:Hid (∀ w,Calls Tryz.prog 123 #[.agg #[.string X,.bool false]] w fun e w'=>e=.returned (enO (dN (X,false)))/\Below w.heap.size w w'):=fun w=>qN _ _ w (by omega)
      obtain⟨⟨ra,rb⟩,hy⟩:∃ y,dN (X,false)=y:=⟨_,rfl⟩
      have HV:=aD (show dN (dF noB true t.ks xs)=(ra,rb) by rw [DN2.out,hy])
      rw [hy] at HCT
      simp only [enO] at HCT
      clear hy
      go_wp2_with (go_at_call 123;refine(HCT.out _).mono ?_;rintro e w5 ⟨rfl,h5⟩;have T5:=aD (T6.out.kept h5);clear h5;have z0:=aA T5.out.2.1 (i:=0) rfl;have z1:=aA T5.out.2.1 (i:=1) rfl;have fz:=fun z=>aG T5.out.2.1 z)
      have T9:=T5.out.end (ra,rb)
      simp only [bD] at T9
      refine iR (b:=W.heap.size+1) (x:=(ra,rb)) T9.1 rfl rfl ?_
      exact⟨by rw [HV.out],T9.2⟩
   | false=>
    have DN2:=aD (show dF noB true t.ks xs=if (xb || u.f.k==3) && !(decide (1000 < (s ++ xa).size)) then dF (s ++ xa) false (t.ks.drop (j+1)) (xs.drop (j+1)) else (s ++ xa,false) by rw [DN.out];simp only [Bool.false_and])
    clear DN
    have T6:Hid (ThO #[.int .i64 t.f.k,.int .i64 t.f.n,.int .i64 t.f.mn,.int .i64 t.f.mx,.slice t.f.rq t.f.rs.length t.f.rc,.slice t.f.kq t.f.kl t.f.kc,.bool c,.bool o,.slice (some ⟨gb,0,none⟩) xs.length cv,.func (.func 87) #[] #[bx bp]] W (bD W1 (W.heap.size+1+1) 0 [.string (s ++ xa),.bool false]) (s ++ xa,false)):=T1.out.put (s ++ xa,false)
    have K6:Hid ((bD W1 (W.heap.size+1+1) 0 [.string (s ++ xa),.bool false]).heap[wr.heap.size]?=some (.cells #[.string xa,.bool xb] 80 (0,0))):=((aV _ _ 0 W1).block _ L1 NN).trans K1.out
    go_upto_region 6 with fail
    change Code.wp _ _ _ _ (bD W1 (W.heap.size+1+1) 0 [.string (s ++ xa),.bool false])
    generalize bD W1 (W.heap.size+1+1) 0 [.string (s ++ xa),.bool false]=W9 at T6 K6 ⊢
    generalize s ++ xa=X at T6 DN2 hadd ⊢
    clear y0 y1 fy k0 k1 T1 K1 L1 NN
    have k1:W9.cell? ⟨wr.heap.size,1,none⟩=some (.bool xb):=aA K6.out (i:=1) rfl
    have y0:W9.cell? ⟨W.heap.size+1+1,0,none⟩=some (.string X):=aA T6.out.2.2.1 (i:=0) rfl
    have s5:W9.cell? ⟨W.heap.size,5,none⟩=some (.slice t.f.kq t.f.kl t.f.kc):=aA T6.out.1 (i:=5) rfl
    rw [HQ.out] at s5
    have q0:W9.cell? ⟨gk,off+j * 6,none⟩=some (.int .i64 u.f.k):=(T6.out.2.2.2.cell (p:=⟨gk,off+j * 6,none⟩) hgk).trans HSX.out.1
    have e5:(j:Int) < (t.f.kl:Int):=by rw [HKL.out];exact e1
    obtain⟨lg,hlg⟩:∃ l,decide (1000 < X.size)=l:=⟨_,rfl⟩
    rw [hlg] at DN2
    have hlg2:decide ((1000:Int) < (X.size:Int))=lg:=by rw [<- hlg];exact decide_eq_decide.2 (by omega)
    cases xb with
    | true=>
     cases lg with
     | true=>
      rw [if_neg (by simp)] at DN2
      go_upto_region 9 with fail
      clear y0
      have y0:=aA T6.out.2.2.1 (i:=0) rfl
      have y1:=aA T6.out.2.2.1 (i:=1) rfl
      have HCT:Hid (∀ w,Calls Tryz.prog 123 #[.agg #[.string X,.bool false]] w fun e w'=>e=.returned (enO (dN (X,false)))/\Below w.heap.size w w'):=fun w=>qN _ _ w (by omega)
      obtain⟨⟨ra,rb⟩,hy⟩:∃ y,dN (X,false)=y:=⟨_,rfl⟩
      have HV:=aD (show dN (dF noB true t.ks xs)=(ra,rb) by rw [DN2.out,hy])
      rw [hy] at HCT
      simp only [enO] at HCT
      clear hy
      go_wp2_with (go_at_call 123;refine(HCT.out _).mono ?_;rintro e w5 ⟨rfl,h5⟩;have T5:=aD (T6.out.kept h5);clear h5;have z0:=aA T5.out.2.1 (i:=0) rfl;have z1:=aA T5.out.2.1 (i:=1) rfl;have fz:=fun z=>aG T5.out.2.1 z)
      have T9:=T5.out.end (ra,rb)
      simp only [bD] at T9
      refine iR (b:=W.heap.size+1) (x:=(ra,rb)) T9.1 rfl rfl ?_
      exact⟨by rw [HV.out],T9.2⟩
     | false=>
      rw [if_pos (by simp [])] at DN2
      go_wp2
      go_roundw
      case rel=>exact⟨j+1,X,false,by omega,by go_num,T6.out,by simp at hlg;exact hlg,DN2.out⟩
      case measure=>simp only [intOf];omega
    | false=>
     cases e3:(u.f.k==3) with
     | true=>
      cases lg with
      | true=>
       rw [if_neg (by simp)] at DN2
       go_upto_region 9 with fail
       clear y0
       have y0:=aA T6.out.2.2.1 (i:=0) rfl
       have y1:=aA T6.out.2.2.1 (i:=1) rfl
       have HCT:Hid (∀ w,Calls Tryz.prog 123 #[.agg #[.string X,.bool false]] w fun e w'=>e=.returned (enO (dN (X,false)))/\Below w.heap.size w w'):=fun w=>qN _ _ w (by omega)
       obtain⟨⟨ra,rb⟩,hy⟩:∃ y,dN (X,false)=y:=⟨_,rfl⟩
       have HV:=aD (show dN (dF noB true t.ks xs)=(ra,rb) by rw [DN2.out,hy])
       rw [hy] at HCT
       simp only [enO] at HCT
       clear hy
       go_wp2_with (go_at_call 123;refine(HCT.out _).mono ?_;rintro e w5 ⟨rfl,h5⟩;have T5:=aD (T6.out.kept h5);clear h5;have z0:=aA T5.out.2.1 (i:=0) rfl;have z1:=aA T5.out.2.1 (i:=1) rfl;have fz:=fun z=>aG T5.out.2.1 z)
       have T9:=T5.out.end (ra,rb)
       simp only [bD] at T9
       refine iR (b:=W.heap.size+1) (x:=(ra,rb)) T9.1 rfl rfl ?_
       exact⟨by rw [HV.out],T9.2⟩
      | false=>
       rw [if_pos (by simp [e3])] at DN2
       go_wp2
       go_roundw
       case rel=>exact⟨j+1,X,false,by omega,by go_num,T6.out,by simp at hlg;exact hlg,DN2.out⟩
       case measure=>simp only [intOf];omega
     | false=>
      rw [if_neg (by simp [e3])] at DN2
      go_upto_region 9 with fail
      clear y0
      have y0:=aA T6.out.2.2.1 (i:=0) rfl
      have y1:=aA T6.out.2.2.1 (i:=1) rfl
      have HCT:Hid (∀ w,Calls Tryz.prog 123 #[.agg #[.string X,.bool false]] w fun e w'=>e=.returned (enO (dN (X,false)))/\Below w.heap.size w w'):=fun w=>qN _ _ w (by omega)
      obtain⟨⟨ra,rb⟩,hy⟩:∃ y,dN (X,false)=y:=⟨_,rfl⟩
      have HV:=aD (show dN (dF noB true t.ks xs)=(ra,rb) by rw [DN2.out,hy])
      rw [hy] at HCT
      simp only [enO] at HCT
      clear hy
      go_wp2_with (go_at_call 123;refine(HCT.out _).mono ?_;rintro e w5 ⟨rfl,h5⟩;have T5:=aD (T6.out.kept h5);clear h5;have z0:=aA T5.out.2.1 (i:=0) rfl;have z1:=aA T5.out.2.1 (i:=1) rfl;have fz:=fun z=>aG T5.out.2.1 z)
      have T9:=T5.out.end (ra,rb)
      simp only [bD] at T9
      refine iR (b:=W.heap.size+1) (x:=(ra,rb)) T9.1 rfl rfl ?_
      exact⟨by rw [HV.out],T9.2⟩
  ·have e1:¬ (j:Int) < (xs.length:Int):=by omega
   have RW2:=aD (show dF noB true t.ks xs=(s,b) by rw [RW.out,List.drop_of_length_le (by rw [<- HLEN.out];omega)];rfl)
   clear RW
   have y0:=aA TT.out.2.2.1 (i:=0) rfl
   have y1:=aA TT.out.2.2.1 (i:=1) rfl
   have HCT:Hid (∀ w,Calls Tryz.prog 123 #[.agg #[.string s,.bool b]] w fun e w'=>e=.returned (enO (dN (s,b)))/\Below w.heap.size w w'):=fun w=>qN _ _ w (by omega)
   obtain⟨⟨ra,rb⟩,hy⟩:∃ y,dN (s,b)=y:=⟨_,rfl⟩
   have HV:=aD (show dN (dF noB true t.ks xs)=(ra,rb) by rw [RW2.out,hy])
   rw [hy] at HCT
   simp only [enO] at HCT
   clear hy
   go_wp2_with (go_at_call 123;refine(HCT.out _).mono ?_;rintro e w5 ⟨rfl,h5⟩;have T5:=aD (TT.out.kept h5);clear h5;have z0:=aA T5.out.2.1 (i:=0) rfl;have z1:=aA T5.out.2.1 (i:=1) rfl;have fz:=fun z=>aG T5.out.2.1 z)
   have T9:=T5.out.end (ra,rb)
   simp only [bD] at T9
   refine iR (b:=W.heap.size+1) (x:=(ra,rb)) T9.1 rfl rfl ?_
   exact⟨by rw [HV.out],T9.2⟩
end
section
attribute [local go_sem] Oper.semAt_some bB
def sD(c:Bool)(rs:List (Int × Int)):ByteArray × Bool:=match rs with
 | [r]=>if r.1=r.2 then (txt (iX c r.1),true) else (noB,false)
 | _=>(noB,false)
def cD(c:Bool):dH (ByteArray × Bool):=fun f ks xs _=>
 if f.k=1 then (noB,true) else if f.k=2 then sD c f.rs else if f.k=5 then dN (dF noB true ks xs) else if f.k=7 then xs.headD (noB,false) else if f.k=9 then iF f (xs.headD (noB,false)) else (noB,false)
theorem aY2(c:Bool)(x:Int):(iX c x).length<=4:=by
 unfold iX
 split
 ·have:=zO [x]
  simpa [qC] using this
 ·simp
theorem aP2(c:Bool)(rs:List (Int × Int)):gN (sD c rs):=by
 unfold sD
 split
 ·split
  ·show (txt _).size<=1000
   rw [fY]
   exact i8 (aY2 _ _) (by omega)
  ·exact fK _
 ·exact fK _
theorem sR{xs:List (ByteArray × Bool)}(h:∀ x∈xs,gN x):gN (xs.headD (noB,false)):=by
 cases xs with
 | nil=>exact fK _
 | cons y ys=>exact h y (by simp)
theorem kR{c o:Bool}(t:Tr)(xs:List (ByteArray × Bool))(g:Int->ByteArray × Bool)(_:NP c o t)(_:xs.length=t.ks.length)(hx:∀ x∈xs,gN x)(_:∀ i,gN (g i)):gN (cD c t.f t.ks xs g):=by
 unfold cD
 split
 ·exact fK _
 split
 ·exact aP2 _ _
 split
 ·exact zH _
 split
 ·exact sR hx
 split
 ·exact aP3 _ (sR hx)
 ·exact fK _
theorem gD{R:Ending->World->Prop}{a:Act}{W:World}{b:Nat}{x:ByteArray × Bool}(h:W.heap[b]?=some (.cells #[.string x.1,.bool x.2] 80 (0,0)))(ha:a.tmps[2]?.getD undef=.pointer (some ⟨b,0,none⟩))(hd:a.defers=[])(hR:R (.returned (enO x)) W):bodyPost Tryz.prog Tryz.f47 R .ret a W:=by
 refine bodyPost_ret (v:=enO x) ?_ hd hR
 have z0:=aA h (i:=0) rfl;have z1:=aA h (i:=1) rfl
 simp [results,Tryz.results47,go_sem,ha,enO,z0,z1]
def OneO(S:Array Value)(W V:World):Prop:=V.heap[W.heap.size]?=some (.cells S 147 (0,0))/\V.heap[W.heap.size+1]?=some (.cells #[.string ⟨#[]⟩,.bool false] 80 (0,0))/\Below W.heap.size W V
theorem OneO.kept{S:Array Value}{W V V':World}(h:OneO S W V)(hb:Below V.heap.size V V'):OneO S W V':=⟨(hb.block _ (aB h.1)).trans h.1,(hb.block _ (aB h.2.1)).trans h.2.1,aJ h.2.2 hb lz9⟩
theorem OneO.end{S:Array Value}{W V:World}(h:OneO S W V)(a:ByteArray)(b:Bool):(bD V (W.heap.size+1) 0 [.string a,.bool b]).heap[W.heap.size+1]?=some (.cells #[.string a,.bool b] 80 (0,0))/\Below W.heap.size W (bD V (W.heap.size+1) 0 [.string a,.bool b]):=
 ⟨bA h.2.1 [.string a,.bool b] rfl,bC h.2.2 (aV _ _ 0 V) lz9 (fun _ e=>e ▸ Nat.le_succ _)⟩
theorem qP(c o:Bool):RuO (fun _=>True) (NP c o) gN (cD c) c o:=by
 intro t xs g W v bp bb n base _ hnp hsz hnb hlen hgx _ hown _ _
 obtain⟨qv,cv,rfl⟩:=aZ hown
 have HLEN:=aD hlen
 have HSZ:=aD hsz
 have HNB:=aD hnb
 have HGX:=aD hgx
 have hxl:xs.length<=1000000:=by rw [hlen];exact hsz
 have HRW:=aD (RowO.of hown)
 clear hown hnb hlen hsz hgx
 unfold dE
 have T0:Hid (OneO #[.int .i64 t.f.k,.int .i64 t.f.n,.int .i64 t.f.mn,.int .i64 t.f.mx,.slice t.f.rq t.f.rs.length t.f.rc,.slice t.f.kq t.f.kl t.f.kc,.bool c,.bool o,.slice qv xs.length cv,.func (.func 87) #[] #[bx bp]] W ((W.alloc (.cells #[.int .i64 t.f.k,.int .i64 t.f.n,.int .i64 t.f.mn,.int .i64 t.f.mx,.slice t.f.rq t.f.rs.length t.f.rc,.slice t.f.kq t.f.kl t.f.kc,.bool c,.bool o,.slice qv xs.length cv,.func (.func 87) #[] #[bx bp]] 147)).alloc (.cells #[.string ⟨#[]⟩,.bool false] 80))):=⟨(Below.heap_alloc _ _ _ (by simp only [a7];omega)).trans (aE W _),aK _ (by simp only [a7]),(bz9).alloc (by simp only [a7];omega) _⟩
 go_enter Tryz.func47,Tryz.ntmps47
 go_upto_region 1 with fail
 generalize hW0:((W.alloc (.cells #[.int .i64 t.f.k,.int .i64 t.f.n,.int .i64 t.f.mn,.int .i64 t.f.mx,.slice t.f.rq t.f.rs.length t.f.rc,.slice t.f.kq t.f.kl t.f.kc,.bool c,.bool o,.slice qv xs.length cv,.func (.func 87) #[] #[bx bp]] 147)).alloc (.cells #[.string ⟨#[]⟩,.bool false] 80))=W0 at T0 ⊢
 clear hW0
 have s0:W0.cell? ⟨W.heap.size,0,none⟩=some (.int .i64 t.f.k):=aA T0.out.1 (i:=0) rfl
 have s1:W0.cell? ⟨W.heap.size,1,none⟩=some (.int .i64 t.f.n):=aA T0.out.1 (i:=1) rfl
 have s2:W0.cell? ⟨W.heap.size,2,none⟩=some (.int .i64 t.f.mn):=aA T0.out.1 (i:=2) rfl
 have s3:W0.cell? ⟨W.heap.size,3,none⟩=some (.int .i64 t.f.mx):=aA T0.out.1 (i:=3) rfl
 have s4:W0.cell? ⟨W.heap.size,4,none⟩=some (.slice t.f.rq t.f.rs.length t.f.rc):=aA T0.out.1 (i:=4) rfl
 have s5:W0.cell? ⟨W.heap.size,5,none⟩=some (.slice t.f.kq t.f.kl t.f.kc):=aA T0.out.1 (i:=5) rfl
 have s6:W0.cell? ⟨W.heap.size,6,none⟩=some (.bool c):=aA T0.out.1 (i:=6) rfl
 have s7:W0.cell? ⟨W.heap.size,7,none⟩=some (.bool o):=aA T0.out.1 (i:=7) rfl
 have s8:W0.cell? ⟨W.heap.size,8,none⟩=some (.slice qv xs.length cv):=aA T0.out.1 (i:=8) rfl
 have s9:W0.cell? ⟨W.heap.size,9,none⟩=some (.func (.func 87) #[] #[bx bp]):=aA T0.out.1 (i:=9) rfl
 have z0:=aA T0.out.2.1 (i:=0) rfl
 have z1:=aA T0.out.2.1 (i:=1) rfl
 have fz:=fun z=>aG T0.out.2.1 z
 rcases hQ hnp with hk | hk | hk | hk | hk | hk | hk | hk | hk
 ·have hv:Hid (cD c t.f t.ks xs g=(noB,true)):=(by unfold cD;rw [hk];rfl)
  have e1:(t.f.k==1)=true:=by rw [hk];rfl
  have e2:(t.f.k==2)=false:=by rw [hk];rfl
  have e5:(t.f.k==5)=false:=by rw [hk];rfl
  have e7:(t.f.k==7)=false:=by rw [hk];rfl
  have e9:(t.f.k==9)=false:=by rw [hk];rfl
  clear hk hnp
  go_wp2
  have T9:=T0.out.end ⟨#[]⟩ true
  simp only [bD] at T9
  refine gD (b:=W.heap.size+1) (x:=(⟨#[]⟩,true)) T9.1 rfl rfl ?_
  exact⟨by rw [hv.out];rfl,T9.2⟩
 ·have hv0:Hid (cD c t.f t.ks xs g=sD c t.f.rs):=(by unfold cD;rw [hk];rfl)
  have hset:=pT hnp hk
  have e1:(t.f.k==1)=false:=by rw [hk];rfl
  have e2:(t.f.k==2)=true:=by rw [hk];rfl
  have e5:(t.f.k==5)=false:=by rw [hk];rfl
  have e7:(t.f.k==7)=false:=by rw [hk];rfl
  have e9:(t.f.k==9)=false:=by rw [hk];rfl
  clear hk hnp
  by_cases hl:t.f.rs.length=1
  ·obtain⟨⟨ra,rb⟩,hrs⟩:=List.length_eq_one_iff.1 hl
   have c1:t.f.rs[0]?=some (ra,rb):=by rw [hrs];rfl
   have hi:((t.f.rs.length:Int)==1)=true:=by rw [hl];rfl
   have hi2:(0:Int) < (t.f.rs.length:Int):=by omega
   have HA:=aD (HNB.out.r.kept T0.out.2.2)
   obtain⟨q1,cap1,eq1,-,-,hcell⟩:=HA.out.slice
   injection eq1 with eq1 eq2 eq3
   subst eq1 eq3
   obtain⟨gr,off,hq,hgr,r0,r1⟩:=hcell 0 _ c1
   simp only [Nat.mul_zero,aBP] at r0 r1
   rw [hq] at s4
   have HRS:=aD hrs
   have hch:ra=rb->bP c ra:=fun e=>by
    subst e
    exact((hset.1.mem ra).1 (by rw [hrs];exact⟨(ra,ra),by simp,aAN _,aAN _⟩)).2
   clear hcell eq2 hl hrs c1 hq hset
   cases hd:(ra==rb) with
   | true=>
    have hab:ra=rb:=by simpa using hd
    have HCH:=aD (hch hab)
    have hv:Hid (cD c t.f t.ks xs g=(txt (iX c ra),true)):=(by rw [hv0.out,HRS.out];show (if ra=rb then _ else _)=_;rw [if_pos hab])
    have HD:Hid (∀ w,Calls Tryz.prog 89 #[.int .i64 ra,.agg #[.bool c,.bool o]] w fun e w'=>e=.returned (.string (txt (iX c ra)))/\Below w.heap.size w w'):=fun w=>jF c o w HCH.out
    generalize txt (iX c ra)=X at HD hv
    clear hab hch
    go_upto_region 6 with fail
    refine wx9 ?_
    repeat (go_big_quiet_step (first | exact rfl))
    refine wpQuiet_nil ?_
    intro w3 hw
    have T3:=aD (T0.out.kept (aQ hw))
    have r0:w3.cell? ⟨gr,off,none⟩=some (.int .i64 ra):=((aQ hw).cell (p:=⟨gr,off,none⟩) hgr).trans r0
    have r1:w3.cell? ⟨gr,off+1,none⟩=some (.int .i64 rb):=((aQ hw).cell (p:=⟨gr,off+1,none⟩) hgr).trans r1
    have hgr3:gr < w3.heap.size:=i6 hgr (aQ hw).size
    clear hw z0 z1 fz s0 s1 s2 s3 s4 s5 s6 s7 s8 s9
    have s6:w3.cell? ⟨W.heap.size,6,none⟩=some (.bool c):=aA T3.out.1 (i:=6) rfl
    have s7:w3.cell? ⟨W.heap.size,7,none⟩=some (.bool o):=aA T3.out.1 (i:=7) rfl
    have z0:=aA T3.out.2.1 (i:=0) rfl
    have z1:=aA T3.out.2.1 (i:=1) rfl
    have fz:=fun z=>aG T3.out.2.1 z
    have l0:W.heap.size < w3.heap.size:=aB T3.out.1
    have l1:gr < w3.heap.size:=hgr3
    go_upto_region 7 with fail
    refine aW (aAF _ _) (by kernel_rfl) (by kernel_rfl) (by kernel_rfl) ?_
    dsimp only [List.dropLast,List.getLast]
    repeat (go_big_quiet_step (first | exact rfl |(go_at_call 89;exact bN (HD.out _))))
    refine wpQuiet_nil ?_
    intro w5 hw
    have T5:=aD (T3.out.kept (aQ hw))
    clear hw z0 z1 fz
    have z0:=aA T5.out.2.1 (i:=0) rfl
    have z1:=aA T5.out.2.1 (i:=1) rfl
    have fz:=fun z=>aG T5.out.2.1 z
    go_wp2
    have T9:=T5.out.end X true
    simp only [bD] at T9
    refine gD (b:=W.heap.size+1) (x:=(X,true)) T9.1 rfl rfl ?_
    exact⟨by rw [hv.out],T9.2⟩
   | false=>
    have hab:¬ ra=rb:=by simpa using hd
    have hv:Hid (cD c t.f t.ks xs g=(noB,false)):=(by rw [hv0.out,HRS.out];show (if ra=rb then _ else _)=_;rw [if_neg hab])
    clear hab hch
    go_upto_region 6 with fail
    refine wx9 ?_
    repeat (go_big_quiet_step (first | exact rfl))
    refine wpQuiet_nil ?_
    intro w3 hw
    have T3:=aD (T0.out.kept (aQ hw))
    clear hw z0 z1 fz s0 s1 s2 s3 s4 s5 s6 s7 s8 s9
    have z0:=aA T3.out.2.1 (i:=0) rfl
    have z1:=aA T3.out.2.1 (i:=1) rfl
    have fz:=fun z=>aG T3.out.2.1 z
    go_wp2
    have T9:=T3.out.end ⟨#[]⟩ false
    simp only [bD] at T9
    refine gD (b:=W.heap.size+1) (x:=(⟨#[]⟩,false)) T9.1 rfl rfl ?_
    exact⟨by rw [hv.out];rfl,T9.2⟩
  ·have hi:((t.f.rs.length:Int)==1)=false:=by simp;omega
   have hv:Hid (cD c t.f t.ks xs g=(noB,false)):=(by
    rw [hv0.out]
    unfold sD
    split
    ·rename_i h
     rw [h] at hl
     simp at hl
    ·rfl)
   clear hset hl
   go_upto_region 6 with fail
   refine wx9 ?_
   repeat (go_big_quiet_step (first | exact rfl))
   refine wpQuiet_nil ?_
   intro w3 hw
   have T3:=aD (T0.out.kept (aQ hw))
   clear hw z0 z1 fz s0 s1 s2 s3 s4 s5 s6 s7 s8 s9
   have z0:=aA T3.out.2.1 (i:=0) rfl
   have z1:=aA T3.out.2.1 (i:=1) rfl
   have fz:=fun z=>aG T3.out.2.1 z
   go_wp2
   have T9:=T3.out.end ⟨#[]⟩ false
   simp only [bD] at T9
   refine gD (b:=W.heap.size+1) (x:=(⟨#[]⟩,false)) T9.1 rfl rfl ?_
   exact⟨by rw [hv.out];rfl,T9.2⟩
 ·have hv:Hid (cD c t.f t.ks xs g=(noB,false)):=(by unfold cD;rw [hk];rfl)
  have e1:(t.f.k==1)=false:=by rw [hk];rfl
  have e2:(t.f.k==2)=false:=by rw [hk];rfl
  have e5:(t.f.k==5)=false:=by rw [hk];rfl
  have e7:(t.f.k==7)=false:=by rw [hk];rfl
  have e9:(t.f.k==9)=false:=by rw [hk];rfl
  clear hk hnp
  go_wp2
  have T9:=T0.out.end ⟨#[]⟩ false
  simp only [bD] at T9
  refine gD (b:=W.heap.size+1) (x:=(⟨#[]⟩,false)) T9.1 rfl rfl ?_
  exact⟨by rw [hv.out];rfl,T9.2⟩
 ·have hv:Hid (cD c t.f t.ks xs g=(noB,false)):=(by unfold cD;rw [hk];rfl)
  have e1:(t.f.k==1)=false:=by rw [hk];rfl
  have e2:(t.f.k==2)=false:=by rw [hk];rfl
  have e5:(t.f.k==5)=false:=by rw [hk];rfl
  have e7:(t.f.k==7)=false:=by rw [hk];rfl
  have e9:(t.f.k==9)=false:=by rw [hk];rfl
  clear hk hnp
  go_wp2
  have T9:=T0.out.end ⟨#[]⟩ false
  simp only [bD] at T9
  refine gD (b:=W.heap.size+1) (x:=(⟨#[]⟩,false)) T9.1 rfl rfl ?_
  exact⟨by rw [hv.out];rfl,T9.2⟩
 ·obtain⟨⟨ra,rb⟩,hy⟩:∃ y,dN (dF noB true t.ks xs)=y:=⟨_,rfl⟩
  have hv:Hid (cD c t.f t.ks xs g=(ra,rb)):=(by unfold cD;rw [hk,<- hy];rfl)
  have HD:=aD (sG (c:=c) (o:=o) (cv:=cv) (bp:=bp) HSZ.out (HNB.out.ck (CK.of_below T0.out.2.2)) HLEN.out HGX.out (HRW.out.kept T0.out.2.2))
  rw [hy] at HD
  simp only [enO] at HD
  have e1:(t.f.k==1)=false:=by rw [hk];rfl
  have e2:(t.f.k==2)=false:=by rw [hk];rfl
  have e5:(t.f.k==5)=true:=by rw [hk];rfl
  have e7:(t.f.k==7)=false:=by rw [hk];rfl
  have e9:(t.f.k==9)=false:=by rw [hk];rfl
  clear hk hnp hy
  go_wp2_with (go_at_call 90;refine HD.out.mono ?_;rintro e w5 ⟨rfl,h5⟩;have T5:=aD (T0.out.kept h5);clear h5 z0 z1 fz;have z0:=aA T5.out.2.1 (i:=0) rfl;have z1:=aA T5.out.2.1 (i:=1) rfl;have fz:=fun z=>aG T5.out.2.1 z)
  have T9:=T5.out.end ra rb
  simp only [bD] at T9
  refine gD (b:=W.heap.size+1) (x:=(ra,rb)) T9.1 rfl rfl ?_
  exact⟨by rw [hv.out],T9.2⟩
 ·have hv:Hid (cD c t.f t.ks xs g=(noB,false)):=(by unfold cD;rw [hk];rfl)
  have e1:(t.f.k==1)=false:=by rw [hk];rfl
  have e2:(t.f.k==2)=false:=by rw [hk];rfl
  have e5:(t.f.k==5)=false:=by rw [hk];rfl
  have e7:(t.f.k==7)=false:=by rw [hk];rfl
  have e9:(t.f.k==9)=false:=by rw [hk];rfl
  clear hk hnp
  go_wp2
  have T9:=T0.out.end ⟨#[]⟩ false
  simp only [bD] at T9
  refine gD (b:=W.heap.size+1) (x:=(⟨#[]⟩,false)) T9.1 rfl rfl ?_
  exact⟨by rw [hv.out];rfl,T9.2⟩
 ·have hone:=fG hnp (.inl hk)
  rw [<- HLEN.out] at hone
  obtain⟨⟨xa,xb⟩,hx⟩:∃ x,xs[0]?=some x:=⟨_,g9 (by omega)⟩
  have hh:xs.headD (noB,false)=(xa,xb):=(by
   match xs,hx with
   | y :: ys,h=>simp at h;simp [h])
  obtain⟨gb,rfl,hg,c0,c1⟩:=(HRW.out.kept T0.out.2.2) 0 _ hx
  simp only [aAK,g8] at c0 c1
  have hi:(0:Int) < (xs.length:Int):=by omega
  have hv:Hid (cD c t.f t.ks xs g=(xa,xb)):=(by unfold cD;rw [hk,hh];rfl)
  have e1:(t.f.k==1)=false:=by rw [hk];rfl
  have e2:(t.f.k==2)=false:=by rw [hk];rfl
  have e5:(t.f.k==5)=false:=by rw [hk];rfl
  have e7:(t.f.k==7)=true:=by rw [hk];rfl
  have e9:(t.f.k==9)=false:=by rw [hk];rfl
  clear hk hnp hh hx hone
  go_wp2
  have T9:=T0.out.end xa xb
  simp only [bD] at T9
  refine gD (b:=W.heap.size+1) (x:=(xa,xb)) T9.1 rfl rfl ?_
  exact⟨by rw [hv.out],T9.2⟩
 ·have hv:Hid (cD c t.f t.ks xs g=(noB,false)):=(by unfold cD;rw [hk];rfl)
  have e1:(t.f.k==1)=false:=by rw [hk];rfl
  have e2:(t.f.k==2)=false:=by rw [hk];rfl
  have e5:(t.f.k==5)=false:=by rw [hk];rfl
  have e7:(t.f.k==7)=false:=by rw [hk];rfl
  have e9:(t.f.k==9)=false:=by rw [hk];rfl
  clear hk hnp
  go_wp2
  have T9:=T0.out.end ⟨#[]⟩ false
  simp only [bD] at T9
  refine gD (b:=W.heap.size+1) (x:=(⟨#[]⟩,false)) T9.1 rfl rfl ?_
  exact⟨by rw [hv.out];rfl,T9.2⟩
 ·have hone:=fG hnp (.inr hk)
  rw [<- HLEN.out] at hone
  obtain⟨⟨xa,xb⟩,hx⟩:∃ x,xs[0]?=some x:=⟨_,g9 (by omega)⟩
  have hh:xs.headD (noB,false)=(xa,xb):=(by
   match xs,hx with
   | y :: ys,h=>simp at h;simp [h])
  obtain⟨gb,rfl,hg,c0,c1⟩:=(HRW.out.kept T0.out.2.2) 0 _ hx
  simp only [aAK,g8] at c0 c1
  have hi:(0:Int) < (xs.length:Int):=by omega
  obtain⟨⟨ra,rb⟩,hy⟩:∃ y,iF t.f (xa,xb)=y:=⟨_,rfl⟩
  have hv:Hid (cD c t.f t.ks xs g=(ra,rb)):=(by unfold cD;rw [hk,hh,<- hy];rfl)
  have HB:=aD (lT hnp hk)
  have HGD:Hid (gN (xa,xb)):=HGX.out _ (i9 hx)
  have HD:Hid (∀ w,Calls Tryz.prog 91 #[.agg #[.int .i64 t.f.k,.int .i64 t.f.n,.int .i64 t.f.mn,.int .i64 t.f.mx,.slice t.f.rq t.f.rs.length t.f.rc,.slice t.f.kq t.f.kl t.f.kc],.agg #[.string xa,.bool xb]] w fun e w'=>e=.returned (enO (iF t.f (xa,xb)))/\Below w.heap.size w w'):=fun w=>aD6 t.f xa xb w HGD.out HB.out
  rw [hy] at HD
  simp only [enO] at HD
  have e1:(t.f.k==1)=false:=by rw [hk];rfl
  have e2:(t.f.k==2)=false:=by rw [hk];rfl
  have e5:(t.f.k==5)=false:=by rw [hk];rfl
  have e7:(t.f.k==7)=false:=by rw [hk];rfl
  have e9:(t.f.k==9)=true:=by rw [hk];rfl
  have l0:W.heap.size < W0.heap.size:=aB T0.out.1
  clear hk hnp hh hx hone hy
  go_upto_region 13 with fail
  refine aW (aAF _ _) (by kernel_rfl) (by kernel_rfl) (by kernel_rfl) ?_
  dsimp only [List.dropLast,List.getLast]
  repeat (go_big_quiet_step (first | exact rfl |(go_at_call 91;exact bN (HD.out _))))
  refine wpQuiet_nil ?_
  intro w5 hw
  have T5:=aD (T0.out.kept (aQ hw))
  clear hw z0 z1 fz
  have z0:=aA T5.out.2.1 (i:=0) rfl
  have z1:=aA T5.out.2.1 (i:=1) rfl
  have fz:=fun z=>aG T5.out.2.1 z
  go_wp2
  have T9:=T5.out.end ra rb
  simp only [bD] at T9
  refine gD (b:=W.heap.size+1) (x:=(ra,rb)) T9.1 rfl rfl ?_
  exact⟨by rw [hv.out],T9.2⟩
end
section
attribute [local go_sem] Oper.semAt_some bB
theorem yN(a b:Value)(w:World):Sem.run Tryz.prog (Instr.field 80 (.agg #[a,b]) 0) w=.ok a w:=by kernel_rfl
attribute [local go_sem] yN
theorem bM5:kH 0:=⟨by omega,by omega⟩
theorem bM4:dD (0,0):=⟨⟨by simp,by simp⟩,by simp,by simp⟩
theorem aZ8{w:World}{t:Tr}(c o:Bool)(hta:TB w t):Calls Tryz.prog 24 #[.agg #[.int .i64 t.f.k,.int .i64 t.f.n,.int .i64 t.f.mn,.int .i64 t.f.mx,.slice t.f.rq t.f.rs.length t.f.rc,.slice t.f.kq t.f.kl t.f.kc],.agg #[.bool c,.bool o]] w fun e w'=>e=.returned (.int .i64 (tvI (oF c) c o t))/\Below w.heap.size w w':=by
 have B0:Hid (Below w.heap.size w ((w.alloc (.cells #[.int .i64 t.f.k,.int .i64 t.f.n,.int .i64 t.f.mn,.int .i64 t.f.mx,.slice t.f.rq t.f.rs.length t.f.rc,.slice t.f.kq t.f.kl t.f.kc] 25)).alloc (.cells #[.bool c,.bool o] 27))):=(bz9).alloc (by simp only [a7];omega) _
 have M0:Hid (((w.alloc (.cells #[.int .i64 t.f.k,.int .i64 t.f.n,.int .i64 t.f.mn,.int .i64 t.f.mx,.slice t.f.rq t.f.rs.length t.f.rc,.slice t.f.kq t.f.kl t.f.kc] 25)).alloc (.cells #[.bool c,.bool o] 27)).heap[w.heap.size]?=some (.cells #[.int .i64 t.f.k,.int .i64 t.f.n,.int .i64 t.f.mn,.int .i64 t.f.mx,.slice t.f.rq t.f.rs.length t.f.rc,.slice t.f.kq t.f.kl t.f.kc] 25 (0,0))):=(Below.heap_alloc _ _ _ (by simp only [a7];omega)).trans (aE w _)
 have M1:Hid (((w.alloc (.cells #[.int .i64 t.f.k,.int .i64 t.f.n,.int .i64 t.f.mn,.int .i64 t.f.mx,.slice t.f.rq t.f.rs.length t.f.rc,.slice t.f.kq t.f.kl t.f.kc] 25)).alloc (.cells #[.bool c,.bool o] 27)).heap[w.heap.size+1]?=some (.cells #[.bool c,.bool o] 27 (0,0))):=aK _ (by simp only [a7])
 go_enter Tryz.func24,Tryz.ntmps24
 go_upto_region 1 with fail
 generalize hW0:((w.alloc (.cells #[.int .i64 t.f.k,.int .i64 t.f.n,.int .i64 t.f.mn,.int .i64 t.f.mx,.slice t.f.rq t.f.rs.length t.f.rc,.slice t.f.kq t.f.kl t.f.kc] 25)).alloc (.cells #[.bool c,.bool o] 27))=W0 at B0 M0 M1 ⊢
 clear hW0
 have m0:=aA M0.out (i:=0) rfl
 have m1:=aA M0.out (i:=1) rfl
 have m2:=aA M0.out (i:=2) rfl
 have m3:=aA M0.out (i:=3) rfl
 have m4:=aA M0.out (i:=4) rfl
 have m5:=aA M0.out (i:=5) rfl
 have q0:=aA M1.out (i:=0) rfl
 have q1:=aA M1.out (i:=1) rfl
 have HD:=aD (bJ4 (fun h k=>trivial) (w:=W0) trivial (hta.kept B0.out) (bJ9 c o) (fun t xs g a b d e=>aN0 t xs g a b d e) bM5)
 obtain⟨X,hx⟩:∃ x,tvI (oF c) c o t=x:=⟨_,rfl⟩
 rw [hx] at HD
 have HV:=aD hx
 clear hx
 simp only [enI] at HD
 clear hta
 go_wp2_with (go_at_call 55;refine HD.out.mono ?_;rintro e w5 ⟨rfl,h5⟩;have B5:=aD (aJ B0.out h5 lz9);clear h5)
 go_ret
 exact⟨by rw [HV.out];rfl,B5.out⟩
theorem aG0{w:World}{t:Tr}(c o:Bool)(hta:TB w t):Calls Tryz.prog 12 #[.agg #[.int .i64 t.f.k,.int .i64 t.f.n,.int .i64 t.f.mn,.int .i64 t.f.mx,.slice t.f.rq t.f.rs.length t.f.rc,.slice t.f.kq t.f.kl t.f.kc],.agg #[.bool c,.bool o]] w fun e w'=>e=.returned (.tuple #[.int .i64 (tvW (gZ c) c o t).1,.int .i64 (tvW (gZ c) c o t).2])/\Below w.heap.size w w':=by
 have B0:Hid (Below w.heap.size w ((w.alloc (.cells #[.int .i64 t.f.k,.int .i64 t.f.n,.int .i64 t.f.mn,.int .i64 t.f.mx,.slice t.f.rq t.f.rs.length t.f.rc,.slice t.f.kq t.f.kl t.f.kc] 25)).alloc (.cells #[.bool c,.bool o] 27))):=(bz9).alloc (by simp only [a7];omega) _
 have M0:Hid (((w.alloc (.cells #[.int .i64 t.f.k,.int .i64 t.f.n,.int .i64 t.f.mn,.int .i64 t.f.mx,.slice t.f.rq t.f.rs.length t.f.rc,.slice t.f.kq t.f.kl t.f.kc] 25)).alloc (.cells #[.bool c,.bool o] 27)).heap[w.heap.size]?=some (.cells #[.int .i64 t.f.k,.int .i64 t.f.n,.int .i64 t.f.mn,.int .i64 t.f.mx,.slice t.f.rq t.f.rs.length t.f.rc,.slice t.f.kq t.f.kl t.f.kc] 25 (0,0))):=(Below.heap_alloc _ _ _ (by simp only [a7];omega)).trans (aE w _)
 have M1:Hid (((w.alloc (.cells #[.int .i64 t.f.k,.int .i64 t.f.n,.int .i64 t.f.mn,.int .i64 t.f.mx,.slice t.f.rq t.f.rs.length t.f.rc,.slice t.f.kq t.f.kl t.f.kc] 25)).alloc (.cells #[.bool c,.bool o] 27)).heap[w.heap.size+1]?=some (.cells #[.bool c,.bool o] 27 (0,0))):=aK _ (by simp only [a7])
 go_enter Tryz.func12,Tryz.ntmps12
 go_upto_region 1 with fail
 generalize hW0:((w.alloc (.cells #[.int .i64 t.f.k,.int .i64 t.f.n,.int .i64 t.f.mn,.int .i64 t.f.mx,.slice t.f.rq t.f.rs.length t.f.rc,.slice t.f.kq t.f.kl t.f.kc] 25)).alloc (.cells #[.bool c,.bool o] 27))=W0 at B0 M0 M1 ⊢
 clear hW0
 have m0:=aA M0.out (i:=0) rfl
 have m1:=aA M0.out (i:=1) rfl
 have m2:=aA M0.out (i:=2) rfl
 have m3:=aA M0.out (i:=3) rfl
 have m4:=aA M0.out (i:=4) rfl
 have m5:=aA M0.out (i:=5) rfl
 have q0:=aA M1.out (i:=0) rfl
 have q1:=aA M1.out (i:=1) rfl
 have HD:=aD (bJ2 (fun h k=>trivial) (w:=W0) trivial (hta.kept B0.out) (bA5 c o) (fun t xs g a b d e=>aC1 t xs g a b d e) bM4)
 obtain⟨⟨xa,xb⟩,hx⟩:∃ x,(tvW (gZ c) c o t)=x:=⟨_,rfl⟩
 rw [hx] at HD
 have HV:=aD hx
 clear hx
 simp only [enW] at HD
 clear hta
 go_upto_region 2 with (go_at_call 40;refine HD.out.mono ?_;rintro e w5 ⟨rfl,h5⟩;have B5:=aD (aJ B0.out h5 lz9);clear h5)
 have B6:Hid (Below w.heap.size w (w5.alloc (.cells #[.int .i64 xa,.int .i64 xb] 68))):=B5.out.alloc B5.out.size _
 have x0:(w5.alloc (.cells #[.int .i64 xa,.int .i64 xb] 68)).cell? ⟨w5.heap.size,0,none⟩=some (.int .i64 xa):=aA (aE w5 _) (i:=0) rfl
 have x1:(w5.alloc (.cells #[.int .i64 xa,.int .i64 xb] 68)).cell? ⟨w5.heap.size,1,none⟩=some (.int .i64 xb):=aA (aE w5 _) (i:=1) rfl
 have l6:w5.heap.size < (w5.alloc (.cells #[.int .i64 xa,.int .i64 xb] 68)).heap.size:=by rw [a7];omega
 generalize hW6:w5.alloc (.cells #[.int .i64 xa,.int .i64 xb] 68)=W6 at B6 x0 x1 l6 ⊢
 clear hW6
 refine wx9 ?_
 repeat (go_big_quiet_step (first | exact rfl))
 refine wpQuiet_nil ?_
 intro w7 hw
 have B7:=aD (aJ B6.out (aQ hw) lz9)
 clear hw
 go_wp2
 go_ret2
 exact⟨by rw [HV.out];rfl,B7.out⟩
theorem xH{w:World}{t:Tr}(c o:Bool)(hta:TB w t):Calls Tryz.prog 13 #[.agg #[.int .i64 t.f.k,.int .i64 t.f.n,.int .i64 t.f.mn,.int .i64 t.f.mx,.slice t.f.rq t.f.rs.length t.f.rc,.slice t.f.kq t.f.kl t.f.kc],.agg #[.bool c,.bool o]] w fun e w'=>e=.returned (.tuple #[.bool (tvA hP c o t).1,.bool (tvA hP c o t).2])/\Below w.heap.size w w':=by
 have B0:Hid (Below w.heap.size w ((w.alloc (.cells #[.int .i64 t.f.k,.int .i64 t.f.n,.int .i64 t.f.mn,.int .i64 t.f.mx,.slice t.f.rq t.f.rs.length t.f.rc,.slice t.f.kq t.f.kl t.f.kc] 25)).alloc (.cells #[.bool c,.bool o] 27))):=(bz9).alloc (by simp only [a7];omega) _
 have M0:Hid (((w.alloc (.cells #[.int .i64 t.f.k,.int .i64 t.f.n,.int .i64 t.f.mn,.int .i64 t.f.mx,.slice t.f.rq t.f.rs.length t.f.rc,.slice t.f.kq t.f.kl t.f.kc] 25)).alloc (.cells #[.bool c,.bool o] 27)).heap[w.heap.size]?=some (.cells #[.int .i64 t.f.k,.int .i64 t.f.n,.int .i64 t.f.mn,.int .i64 t.f.mx,.slice t.f.rq t.f.rs.length t.f.rc,.slice t.f.kq t.f.kl t.f.kc] 25 (0,0))):=(Below.heap_alloc _ _ _ (by simp only [a7];omega)).trans (aE w _)
 have M1:Hid (((w.alloc (.cells #[.int .i64 t.f.k,.int .i64 t.f.n,.int .i64 t.f.mn,.int .i64 t.f.mx,.slice t.f.rq t.f.rs.length t.f.rc,.slice t.f.kq t.f.kl t.f.kc] 25)).alloc (.cells #[.bool c,.bool o] 27)).heap[w.heap.size+1]?=some (.cells #[.bool c,.bool o] 27 (0,0))):=aK _ (by simp only [a7])
 go_enter Tryz.func13,Tryz.ntmps13
 go_upto_region 1 with fail
 generalize hW0:((w.alloc (.cells #[.int .i64 t.f.k,.int .i64 t.f.n,.int .i64 t.f.mn,.int .i64 t.f.mx,.slice t.f.rq t.f.rs.length t.f.rc,.slice t.f.kq t.f.kl t.f.kc] 25)).alloc (.cells #[.bool c,.bool o] 27))=W0 at B0 M0 M1 ⊢
 clear hW0
 have m0:=aA M0.out (i:=0) rfl
 have m1:=aA M0.out (i:=1) rfl
 have m2:=aA M0.out (i:=2) rfl
 have m3:=aA M0.out (i:=3) rfl
 have m4:=aA M0.out (i:=4) rfl
 have m5:=aA M0.out (i:=5) rfl
 have q0:=aA M1.out (i:=0) rfl
 have q1:=aA M1.out (i:=1) rfl
 have HD:=aD (bJ5 (fun h k=>trivial) (w:=W0) trivial (hta.kept B0.out) (aF9 c o) (fun t xs g a b d e=>trivial) trivial)
 obtain⟨⟨xa,xb⟩,hx⟩:∃ x,(tvA hP c o t)=x:=⟨_,rfl⟩
 rw [hx] at HD
 have HV:=aD hx
 clear hx
 simp only [enA] at HD
 clear hta
 go_upto_region 2 with (go_at_call 42;refine HD.out.mono ?_;rintro e w5 ⟨rfl,h5⟩;have B5:=aD (aJ B0.out h5 lz9);clear h5)
 have B6:Hid (Below w.heap.size w (w5.alloc (.cells #[.bool xa,.bool xb] 72))):=B5.out.alloc B5.out.size _
 have x0:(w5.alloc (.cells #[.bool xa,.bool xb] 72)).cell? ⟨w5.heap.size,0,none⟩=some (.bool xa):=aA (aE w5 _) (i:=0) rfl
 have x1:(w5.alloc (.cells #[.bool xa,.bool xb] 72)).cell? ⟨w5.heap.size,1,none⟩=some (.bool xb):=aA (aE w5 _) (i:=1) rfl
 have l6:w5.heap.size < (w5.alloc (.cells #[.bool xa,.bool xb] 72)).heap.size:=by rw [a7];omega
 generalize hW6:w5.alloc (.cells #[.bool xa,.bool xb] 72)=W6 at B6 x0 x1 l6 ⊢
 clear hW6
 refine wx9 ?_
 repeat (go_big_quiet_step (first | exact rfl))
 refine wpQuiet_nil ?_
 intro w7 hw
 have B7:=aD (aJ B6.out (aQ hw) lz9)
 clear hw
 go_wp2
 go_ret2
 exact⟨by rw [HV.out];rfl,B7.out⟩
noncomputable def lG (c o:Bool) (t:Tr):ByteArray × Bool:=if (tvO (cD c) c o t).2 then ((tvO (cD c) c o t).1,true) else (noB,false)
theorem qQ{w:World}{t:Tr}(c o:Bool)(hta:TB w t):Calls Tryz.prog 15 #[.agg #[.int .i64 t.f.k,.int .i64 t.f.n,.int .i64 t.f.mn,.int .i64 t.f.mx,.slice t.f.rq t.f.rs.length t.f.rc,.slice t.f.kq t.f.kl t.f.kc],.agg #[.bool c,.bool o]] w fun e w'=>e=.returned (.tuple #[.string (lG c o t).1,.bool (lG c o t).2])/\Below w.heap.size w w':=by
 have B0:Hid (Below w.heap.size w ((w.alloc (.cells #[.int .i64 t.f.k,.int .i64 t.f.n,.int .i64 t.f.mn,.int .i64 t.f.mx,.slice t.f.rq t.f.rs.length t.f.rc,.slice t.f.kq t.f.kl t.f.kc] 25)).alloc (.cells #[.bool c,.bool o] 27))):=(bz9).alloc (by simp only [a7];omega) _
 have M0:Hid (((w.alloc (.cells #[.int .i64 t.f.k,.int .i64 t.f.n,.int .i64 t.f.mn,.int .i64 t.f.mx,.slice t.f.rq t.f.rs.length t.f.rc,.slice t.f.kq t.f.kl t.f.kc] 25)).alloc (.cells #[.bool c,.bool o] 27)).heap[w.heap.size]?=some (.cells #[.int .i64 t.f.k,.int .i64 t.f.n,.int .i64 t.f.mn,.int .i64 t.f.mx,.slice t.f.rq t.f.rs.length t.f.rc,.slice t.f.kq t.f.kl t.f.kc] 25 (0,0))):=(Below.heap_alloc _ _ _ (by simp only [a7];omega)).trans (aE w _)
 have M1:Hid (((w.alloc (.cells #[.int .i64 t.f.k,.int .i64 t.f.n,.int .i64 t.f.mn,.int .i64 t.f.mx,.slice t.f.rq t.f.rs.length t.f.rc,.slice t.f.kq t.f.kl t.f.kc] 25)).alloc (.cells #[.bool c,.bool o] 27)).heap[w.heap.size+1]?=some (.cells #[.bool c,.bool o] 27 (0,0))):=aK _ (by simp only [a7])
 go_enter Tryz.func15,Tryz.ntmps15
 go_upto_region 1 with fail
 generalize hW0:((w.alloc (.cells #[.int .i64 t.f.k,.int .i64 t.f.n,.int .i64 t.f.mn,.int .i64 t.f.mx,.slice t.f.rq t.f.rs.length t.f.rc,.slice t.f.kq t.f.kl t.f.kc] 25)).alloc (.cells #[.bool c,.bool o] 27))=W0 at B0 M0 M1 ⊢
 clear hW0
 have m0:=aA M0.out (i:=0) rfl
 have m1:=aA M0.out (i:=1) rfl
 have m2:=aA M0.out (i:=2) rfl
 have m3:=aA M0.out (i:=3) rfl
 have m4:=aA M0.out (i:=4) rfl
 have m5:=aA M0.out (i:=5) rfl
 have q0:=aA M1.out (i:=0) rfl
 have q1:=aA M1.out (i:=1) rfl
 have HD:=aD (aS7 (fun h k=>trivial) (w:=W0) trivial (hta.kept B0.out) (qP c o) (fun t xs g a b d e=>kR t xs g a b d e) (fK false))
 obtain⟨⟨xa,xb⟩,hx⟩:∃ x,tvO (cD c) c o t=x:=⟨_,rfl⟩
 rw [hx] at HD
 have HV:=aD hx
 clear hx
 simp only [enO] at HD
 clear hta
 go_upto_region 2 with (go_at_call 46;refine HD.out.mono ?_;rintro e w5 ⟨rfl,h5⟩;have B5:=aD (aJ B0.out h5 lz9);clear h5)
 have B6:Hid (Below w.heap.size w (w5.alloc (.cells #[.string xa,.bool xb] 80))):=B5.out.alloc B5.out.size _
 have x0:(w5.alloc (.cells #[.string xa,.bool xb] 80)).cell? ⟨w5.heap.size,0,none⟩=some (.string xa):=aA (aE w5 _) (i:=0) rfl
 have x1:(w5.alloc (.cells #[.string xa,.bool xb] 80)).cell? ⟨w5.heap.size,1,none⟩=some (.bool xb):=aA (aE w5 _) (i:=1) rfl
 have l6:w5.heap.size < (w5.alloc (.cells #[.string xa,.bool xb] 80)).heap.size:=by rw [a7];omega
 generalize hW6:w5.alloc (.cells #[.string xa,.bool xb] 80)=W6 at B6 x0 x1 l6 ⊢
 clear hW6
 cases xb with
 | true=>
  go_wp2
  go_ret2
  exact⟨by unfold lG;rw [HV.out];rfl,B6.out⟩
 | false=>
  go_wp2
  go_ret2
  exact⟨by unfold lG;rw [HV.out];rfl,B6.out⟩
theorem tH{w:World}{t:Tr}(c o:Bool)(hta:TB w t):Calls Tryz.prog 16 #[.agg #[.int .i64 t.f.k,.int .i64 t.f.n,.int .i64 t.f.mn,.int .i64 t.f.mx,.slice t.f.rq t.f.rs.length t.f.rc,.slice t.f.kq t.f.kl t.f.kc],.agg #[.bool c,.bool o]] w fun e w'=>e=.returned (.string (tvO (cD c) c o t).1)/\Below w.heap.size w w':=by
 have B0:Hid (Below w.heap.size w ((w.alloc (.cells #[.int .i64 t.f.k,.int .i64 t.f.n,.int .i64 t.f.mn,.int .i64 t.f.mx,.slice t.f.rq t.f.rs.length t.f.rc,.slice t.f.kq t.f.kl t.f.kc] 25)).alloc (.cells #[.bool c,.bool o] 27))):=(bz9).alloc (by simp only [a7];omega) _
 have M0:Hid (((w.alloc (.cells #[.int .i64 t.f.k,.int .i64 t.f.n,.int .i64 t.f.mn,.int .i64 t.f.mx,.slice t.f.rq t.f.rs.length t.f.rc,.slice t.f.kq t.f.kl t.f.kc] 25)).alloc (.cells #[.bool c,.bool o] 27)).heap[w.heap.size]?=some (.cells #[.int .i64 t.f.k,.int .i64 t.f.n,.int .i64 t.f.mn,.int .i64 t.f.mx,.slice t.f.rq t.f.rs.length t.f.rc,.slice t.f.kq t.f.kl t.f.kc] 25 (0,0))):=(Below.heap_alloc _ _ _ (by simp only [a7];omega)).trans (aE w _)
 have M1:Hid (((w.alloc (.cells #[.int .i64 t.f.k,.int .i64 t.f.n,.int .i64 t.f.mn,.int .i64 t.f.mx,.slice t.f.rq t.f.rs.length t.f.rc,.slice t.f.kq t.f.kl t.f.kc] 25)).alloc (.cells #[.bool c,.bool o] 27)).heap[w.heap.size+1]?=some (.cells #[.bool c,.bool o] 27 (0,0))):=aK _ (by simp only [a7])
 go_enter Tryz.func16,Tryz.ntmps16
 go_upto_region 1 with fail
 generalize hW0:((w.alloc (.cells #[.int .i64 t.f.k,.int .i64 t.f.n,.int .i64 t.f.mn,.int .i64 t.f.mx,.slice t.f.rq t.f.rs.length t.f.rc,.slice t.f.kq t.f.kl t.f.kc] 25)).alloc (.cells #[.bool c,.bool o] 27))=W0 at B0 M0 M1 ⊢
 clear hW0
 have m0:=aA M0.out (i:=0) rfl
 have m1:=aA M0.out (i:=1) rfl
 have m2:=aA M0.out (i:=2) rfl
 have m3:=aA M0.out (i:=3) rfl
 have m4:=aA M0.out (i:=4) rfl
 have m5:=aA M0.out (i:=5) rfl
 have q0:=aA M1.out (i:=0) rfl
 have q1:=aA M1.out (i:=1) rfl
 have HD:=aD (aS7 (fun h k=>trivial) (w:=W0) trivial (hta.kept B0.out) (qP c o) (fun t xs g a b d e=>kR t xs g a b d e) (fK false))
 obtain⟨⟨xa,xb⟩,hx⟩:∃ x,tvO (cD c) c o t=x:=⟨_,rfl⟩
 rw [hx] at HD
 have HV:=aD hx
 clear hx
 simp only [enO] at HD
 clear hta
 go_wp2_with (go_at_call 46;refine HD.out.mono ?_;rintro e w5 ⟨rfl,h5⟩;have B5:=aD (aJ B0.out h5 lz9);clear h5)
 go_ret
 exact⟨by rw [HV.out];rfl,B5.out⟩
end
section
attribute [local go_sem] Oper.semAt_some bB
def stV(x:BitVec 256 × Bool):Value:=.tuple #[.agg #[.int .u64 (aC x.1 0),.int .u64 (aC x.1 1),.int .u64 (aC x.1 2),.int .u64 (aC x.1 3)],.bool x.2]
theorem aN2{R:Ending->World->Prop}{a:Act}{W:World}{b:Nat}{a0 a1 a2 a3:Int}{x:Bool}(h:W.heap[b]?=some (.cells #[.int .u64 a0,.int .u64 a1,.int .u64 a2,.int .u64 a3] 36 (0,0)))(ha:a.tmps[4]?.getD undef=.pointer (some ⟨b,0,none⟩))(hb:a.tmps[5]?.getD undef=.bool x)(hd:a.defers=[])(hR:R (.returned (.tuple #[.agg #[.int .u64 a0,.int .u64 a1,.int .u64 a2,.int .u64 a3],.bool x])) W):bodyPost Tryz.prog Tryz.f14 R .ret a W:=by
 refine bodyPost_ret (v:=.tuple #[.agg #[.int .u64 a0,.int .u64 a1,.int .u64 a2,.int .u64 a3],.bool x]) ?_ hd hR
 have z0:=aA h (i:=0) rfl;have z1:=aA h (i:=1) rfl;have z2:=aA h (i:=2) rfl;have z3:=aA h (i:=3) rfl
 simp [results,Tryz.results14,go_sem,ha,hb,z0,z1,z2,z3]
theorem vH{w:World}{t:Tr}(c o:Bool)(hta:TB w t)(hgw:GloS w):Calls Tryz.prog 14 #[.agg #[.int .i64 t.f.k,.int .i64 t.f.n,.int .i64 t.f.mn,.int .i64 t.f.mx,.slice t.f.rq t.f.rs.length t.f.rc,.slice t.f.kq t.f.kl t.f.kc],.agg #[.bool c,.bool o]] w fun e w'=>e=.returned (stV (tvS (bJ c) c o t))/\Below w.heap.size w w':=by
 have B0:Hid (Below w.heap.size w (((w.alloc (.cells #[.int .i64 t.f.k,.int .i64 t.f.n,.int .i64 t.f.mn,.int .i64 t.f.mx,.slice t.f.rq t.f.rs.length t.f.rc,.slice t.f.kq t.f.kl t.f.kc] 25)).alloc (.cells #[.bool c,.bool o] 27)).alloc (.cells #[.int .u64 0,.int .u64 0,.int .u64 0,.int .u64 0] 36))):=((bz9).alloc (by simp only [a7];omega) _).alloc (by simp only [a7];omega) _
 have M0:Hid ((((w.alloc (.cells #[.int .i64 t.f.k,.int .i64 t.f.n,.int .i64 t.f.mn,.int .i64 t.f.mx,.slice t.f.rq t.f.rs.length t.f.rc,.slice t.f.kq t.f.kl t.f.kc] 25)).alloc (.cells #[.bool c,.bool o] 27)).alloc (.cells #[.int .u64 0,.int .u64 0,.int .u64 0,.int .u64 0] 36)).heap[w.heap.size]?=some (.cells #[.int .i64 t.f.k,.int .i64 t.f.n,.int .i64 t.f.mn,.int .i64 t.f.mx,.slice t.f.rq t.f.rs.length t.f.rc,.slice t.f.kq t.f.kl t.f.kc] 25 (0,0))):=(by(repeat (first | exact aK _ (by first | rfl | simp only [a7]) | rw [Below.heap_alloc _ _ _ (by first | omega |(simp only [a7];omega))])))
 have M1:Hid ((((w.alloc (.cells #[.int .i64 t.f.k,.int .i64 t.f.n,.int .i64 t.f.mn,.int .i64 t.f.mx,.slice t.f.rq t.f.rs.length t.f.rc,.slice t.f.kq t.f.kl t.f.kc] 25)).alloc (.cells #[.bool c,.bool o] 27)).alloc (.cells #[.int .u64 0,.int .u64 0,.int .u64 0,.int .u64 0] 36)).heap[w.heap.size+1]?=some (.cells #[.bool c,.bool o] 27 (0,0))):=(Below.heap_alloc _ _ _ (by simp only [a7];omega)).trans (aK _ (by simp only [a7]))
 have M2:Hid ((((w.alloc (.cells #[.int .i64 t.f.k,.int .i64 t.f.n,.int .i64 t.f.mn,.int .i64 t.f.mx,.slice t.f.rq t.f.rs.length t.f.rc,.slice t.f.kq t.f.kl t.f.kc] 25)).alloc (.cells #[.bool c,.bool o] 27)).alloc (.cells #[.int .u64 0,.int .u64 0,.int .u64 0,.int .u64 0] 36)).heap[w.heap.size+1+1]?=some (.cells #[.int .u64 0,.int .u64 0,.int .u64 0,.int .u64 0] 36 (0,0))):=aK _ (by simp only [a7])
 go_enter Tryz.func14,Tryz.ntmps14
 go_upto_region 1 with fail
 generalize hW0:(((w.alloc (.cells #[.int .i64 t.f.k,.int .i64 t.f.n,.int .i64 t.f.mn,.int .i64 t.f.mx,.slice t.f.rq t.f.rs.length t.f.rc,.slice t.f.kq t.f.kl t.f.kc] 25)).alloc (.cells #[.bool c,.bool o] 27)).alloc (.cells #[.int .u64 0,.int .u64 0,.int .u64 0,.int .u64 0] 36))=W0 at B0 M0 M1 M2 ⊢
 clear hW0
 have m0:=aA M0.out (i:=0) rfl
 have m1:=aA M0.out (i:=1) rfl
 have m2:=aA M0.out (i:=2) rfl
 have m3:=aA M0.out (i:=3) rfl
 have m4:=aA M0.out (i:=4) rfl
 have m5:=aA M0.out (i:=5) rfl
 have q0:=aA M1.out (i:=0) rfl
 have q1:=aA M1.out (i:=1) rfl
 have HD:=aD (bJ3 (fun h k=>GloS.ck h k) (w:=W0) (GloS.ck (CK.of_below B0.out) hgw) (hta.kept B0.out) (bF1 c o) (fun t xs g a b d e=>trivial) trivial)
 obtain⟨⟨xa,xb⟩,hx⟩:∃ x,tvS (bJ c) c o t=x:=⟨_,rfl⟩
 rw [hx] at HD
 have HV:=aD hx
 clear hx hta hgw
 simp only [enS] at HD
 obtain⟨a0,h0⟩:∃ a,aC xa 0=a:=⟨_,rfl⟩
 obtain⟨a1,h1⟩:∃ a,aC xa 1=a:=⟨_,rfl⟩
 obtain⟨a2,h2⟩:∃ a,aC xa 2=a:=⟨_,rfl⟩
 obtain⟨a3,h3⟩:∃ a,aC xa 3=a:=⟨_,rfl⟩
 rw [h0,h1,h2,h3] at HD
 have HW:=aD (And.intro h0 (And.intro h1 (And.intro h2 h3)))
 clear h0 h1 h2 h3
 go_upto_region 2 with (go_at_call 44;refine HD.out.mono ?_;rintro e w5 ⟨rfl,h5⟩;have B5:=aD (aJ B0.out h5 lz9);have N5:=aD ((h5.block _ (aB M2.out)).trans M2.out);clear h5)
 have B6:Hid (Below w.heap.size w (w5.alloc (.cells #[.int .u64 a0,.int .u64 a1,.int .u64 a2,.int .u64 a3,.bool xb] 76))):=B5.out.alloc B5.out.size _
 have N6:Hid ((w5.alloc (.cells #[.int .u64 a0,.int .u64 a1,.int .u64 a2,.int .u64 a3,.bool xb] 76)).heap[w.heap.size+1+1]?=some (.cells #[.int .u64 0,.int .u64 0,.int .u64 0,.int .u64 0] 36 (0,0))):=(Below.heap_alloc _ _ _ (aB N5.out)).trans N5.out
 have X6:=aD (aE w5 (.cells #[.int .u64 a0,.int .u64 a1,.int .u64 a2,.int .u64 a3,.bool xb] 76))
 have ne:¬ w5.heap.size=w.heap.size+1+1:=fun e=>by have:=aB N5.out;omega
 generalize hW6:w5.alloc (.cells #[.int .u64 a0,.int .u64 a1,.int .u64 a2,.int .u64 a3,.bool xb] 76)=W6 at B6 X6 N6 ⊢
 clear hW6 m0 m1 m2 m3 m4 m5 q0 q1
 have x0:W6.cell? ⟨w5.heap.size,0,none⟩=some (.int .u64 a0):=aA X6.out (i:=0) rfl
 have x1:W6.cell? ⟨w5.heap.size,1,none⟩=some (.int .u64 a1):=aA X6.out (i:=1) rfl
 have x2:W6.cell? ⟨w5.heap.size,2,none⟩=some (.int .u64 a2):=aA X6.out (i:=2) rfl
 have x3:W6.cell? ⟨w5.heap.size,3,none⟩=some (.int .u64 a3):=aA X6.out (i:=3) rfl
 have x4:W6.cell? ⟨w5.heap.size,4,none⟩=some (.bool xb):=aA X6.out (i:=4) rfl
 have z0:W6.cell? ⟨w.heap.size+1+1,0,none⟩=some (.int .u64 0):=aA N6.out (i:=0) rfl
 have z1:W6.cell? ⟨w.heap.size+1+1,1,none⟩=some (.int .u64 0):=aA N6.out (i:=1) rfl
 have z2:W6.cell? ⟨w.heap.size+1+1,2,none⟩=some (.int .u64 0):=aA N6.out (i:=2) rfl
 have z3:W6.cell? ⟨w.heap.size+1+1,3,none⟩=some (.int .u64 0):=aA N6.out (i:=3) rfl
 have fz:=fun z=>aG N6.out z
 have T9:Hid ((bD W6.drew (w.heap.size+1+1) 0 [.int .u64 a0,.int .u64 a1,.int .u64 a2,.int .u64 a3]).heap[w.heap.size+1+1]?=some (.cells #[.int .u64 a0,.int .u64 a1,.int .u64 a2,.int .u64 a3] 36 (0,0))/\Below w.heap.size w (bD W6.drew (w.heap.size+1+1) 0 [.int .u64 a0,.int .u64 a1,.int .u64 a2,.int .u64 a3])):=⟨bA N6.out [.int .u64 a0,.int .u64 a1,.int .u64 a2,.int .u64 a3] rfl,bC B6.out.drew (aV _ _ 0 _) lz9 (fun _ e=>by omega)⟩
 have T8:=T9
 simp only [bD] at T8
 go_region
 all_goals
  go_wp2
  refine aN2 (b:=w.heap.size+1+1) (x:=xb) T8.out.1 rfl rfl rfl ?_
  exact⟨by rw [HV.out];unfold stV;simp only [HW.out.1,HW.out.2.1,HW.out.2.2.1,HW.out.2.2.2],T8.out.2⟩
end
set_option linter.unusedSimpArgs false
theorem aO8{c:Bool}{a b:Int}(h:a<=b)(h0:0<=a)(h1:b < 128):IsC [(a,b)] (fun x=>In [(a,b)] x/\bP c x):=by
 refine⟨⟨fun r hr=>by simp at hr;subst hr;exact h,by simp⟩,fun r hr=>by simp at hr;subst hr;simp only;omega,fun x=>⟨fun q=>⟨q,?_⟩,fun q=>q.1⟩⟩
 rw [eK] at q
 simp only at q
 unfold bP top
 cases c <;> simp <;> omega
theorem aT8:oE false false [(97,97)]:=⟨aO8 (by decide) (by decide) (by decide),fun q=>by cases q⟩
def exA(a:Nat):Tr:=.mk ⟨2,0,0,0,[(97,97)],some ⟨a,0,none⟩,1,none,0,0⟩ []
def exG(a g:Nat):Tr:=.mk ⟨7,1,0,0,[],none,0,some ⟨g,0,none⟩,1,1⟩ [exA a]
def exR(a g r:Nat):Tr:=.mk ⟨9,0,3,3,[],none,0,some ⟨r,0,none⟩,1,1⟩ [exG a g]
def exN(a g n:Nat):Tr:=.mk ⟨5,0,0,0,[],none,0,some ⟨n,0,none⟩,3,3⟩ [.mk ⟨3,0,0,0,[],none,0,none,0,0⟩ [],exG a g,.mk ⟨8,1,0,0,[],none,0,none,0,0⟩ []]
theorem aP6(a g:Nat):aY false false 0 0 (pp [] (exG a g))=0:=by
 simp [exG,exA,cF,bL,cA,Tr.f,Tr.ks,aY,cG,dW,eW,cK,eX,bG,iT,eO,aT8]
theorem mZ(a g r:Nat):aY false false 0 0 (pp [] (exR a g r))=0:=by
 simp [exR,exG,exA,cF,bL,cA,Tr.f,Tr.ks,aY,cG,dW,eW,cK,eX,bG,iT,eO,fU,aT8]
theorem kD(a g n:Nat):aY false false 0 0 (pp [] (exN a g n))=0:=by
 simp [exN,exG,exA,cF,bL,cA,Tr.f,Tr.ks,aY,cG,dW,eW,cK,eX,bG,iT,eO,aT8]
theorem uB:Lib.compact ([]:List Int)=[]:=List.length_eq_zero_iff.1 (by have:=Lib.compact_length_le ([]:List Int);simpa using this)
theorem uA(x:Int):Lib.compact [x]=[x]:=Lib.compact_all _ (fun j hj=>Lib.keeps_lt_one _ j (by simpa using hj))
theorem aM7(x:Int):srt [x]=[x]:=by simp [srt]
theorem aM8:srt []=[]:=by simp [srt]
theorem aK1(a g n:Nat):usV false false (exN a g n)=[1]:=by
 unfold usV
 rw [if_pos (kD a g n)]
 have:bks (pp [] (exN a g n))=[1]:=by simp [exN,exG,exA,cF,bL,cA,Tr.f,Tr.ks,bks]
 unfold usd
 rw [this,aM7,uA]
theorem aX6(a g n:Nat):frV false false (exN a g n)=false:=by
 have:=aK1 a g n
 unfold usV at this
 rw [if_pos (kD a g n)] at this
 unfold frV
 rw [if_pos (kD a g n),this]
 rfl
theorem aX5(a g r:Nat):frV false false (exR a g r)=true:=by
 unfold frV
 rw [if_pos (mZ a g r)]
 have:bks (pp [] (exR a g r))=[]:=by simp [exR,exG,exA,cF,bL,cA,Tr.f,Tr.ks,bks]
 unfold usd
 rw [this,aM8,uB]
 rfl
theorem bF2(a g r:Nat):tvI (oF false) false false (exR a g r)=15:=by
 unfold tvI
 rw [if_pos (mZ a g r)]
 simp [exR,exG,exA,ev,evs,oF,eN,sC,kM]
 decide
theorem aX4(a g r:Nat):tvW (gZ false) false false (exR a g r)=(3,3):=by
 unfold tvW
 rw [if_pos (mZ a g r)]
 simp [exR,exG,exA,ev,evs,gZ,yM,lst,mst,jH,iX]
 decide
theorem bF4(a g n:Nat):tvA hP false false (exN a g n)=(true,false):=by
 unfold tvA
 rw [if_pos (kD a g n)]
 simp [exN,exG,exA,ev,evs,hP,nZ]
theorem bF3(a g r:Nat):tvO (cD false) false false (exR a g r)=(⟨#[97,97,97]⟩,true):=by
 unfold tvO
 rw [if_pos (mZ a g r)]
 simp [exR,exG,exA,ev,evs,cD,sD,iF,iX,nZ]
 decide
theorem bM9(a g r:Nat):lG false false (exR a g r)=(⟨#[97,97,97]⟩,true):=by
 unfold lG
 rw [bF3]
 rfl
theorem bM8(a g n:Nat):(tvO (cD false) false false (exN a g n)).1=⟨#[97]⟩:=by
 unfold tvO
 rw [if_pos (kD a g n)]
 simp [exN,exG,exA,ev,evs,cD,sD,dF,iX,nZ,Tr.f,noB]
 decide
theorem aX7(a g:Nat):tvS (bJ false) false false (exG a g)=(fB false [(97,97)],false):=by
 unfold tvS
 rw [if_pos (aP6 a g)]
 simp [exG,exA,ev,evs,bJ,nZ]
end Go.Proofs.YtlaimbkenbijeaaGreatDoor
