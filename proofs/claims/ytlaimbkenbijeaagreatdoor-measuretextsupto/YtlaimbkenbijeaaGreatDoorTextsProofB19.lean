/-
  Parts of the proof.
-/
import Derived.Test.YtlaimbkenbijeaaGreatDoorTextsProofA0
import Derived.Test.YtlaimbkenbijeaaGreatDoorTextsProofA1
import Derived.Test.YtlaimbkenbijeaaGreatDoorTextsProofB18
import Derived.Test.YtlaimbkenbijeaaGreatDoorTextsProofB5
import Derived.Test.YtlaimbkenbijeaaGreatDoorTextsProofB3
import Derived.Deep.RegionHeld
import Derived.Laws.EntriesVeiled
set_option maxRecDepth 100000
set_option maxHeartbeats 8000000
namespace Go.Proofs.YtlaimbkenbijeaaGreatDoor
open Go Go.RowKit
section
attribute [local go_sem] Oper.semAt_some bB
def lst(n:Int):Int:=min n 1000000
def mst(n:Int):Int:=if 1000000 < n then -1 else n
def wE(a b:Int):Int:=if a=-1\/b=-1 then -1 else mst (a+b)
def jH(a b:Int):Int:=if a=0\/b=0 then 0 else if a=-1\/b=-1 then -1 else mst (a * b)
def zG(a b:Int):Int:=if a=-1\/b=-1 then -1 else max a b
theorem uX(n:Int)(w:World):Calls Tryz.prog 76 #[.int .i64 n] w fun e w'=>e=.returned (.int .i64 (lst n))/\w'=w:=by
 have hm:∀ t ty w,(Builtin.min_ t ty #[.int .i64 n,.int .i64 1000000]).run Tryz.prog w=.ok (.int .i64 (lst n)) w:=fun t ty w=>oK _ t ty w _ _
 go_enter Tryz.func76,Tryz.ntmps76
 go_wp2
 go_ret
 exact⟨rfl,rfl⟩
theorem yY(n:Int)(w:World):Calls Tryz.prog 119 #[.int .i64 n] w fun e w'=>e=.returned (.int .i64 (mst n))/\w'=w:=by
 by_cases h:1000000 < n
 ·have hv:Hid (mst n=-1):=if_pos h
  go_enter Tryz.func119,Tryz.ntmps119
  go_wp2
  go_ret
  exact⟨by rw [hv.out];rfl,rfl⟩
 ·have hv:Hid (mst n=n):=if_neg h
  go_enter Tryz.func119,Tryz.ntmps119
  go_wp2
  go_ret
  exact⟨by rw [hv.out];rfl,rfl⟩
theorem bA9(a b:Int)(w:World)(ha:-1<=a/\a<=1000000)(hb:-1<=b/\b<=1000000):Calls Tryz.prog 77 #[.int .i64 a,.int .i64 b] w fun e w'=>e=.returned (.int .i64 (wE a b))/\w'=w:=by
 cases h1:(a==-1) with
 | true=>
  have hv:Hid (wE a b=-1):=if_pos (.inl (by simpa using h1))
  go_enter Tryz.func77,Tryz.ntmps77
  go_wp2
  go_ret
  exact⟨by rw [hv.out];rfl,rfl⟩
 | false=>
  cases h2:(b==-1) with
  | true=>
   have hv:Hid (wE a b=-1):=if_pos (.inr (by simpa using h2))
   go_enter Tryz.func77,Tryz.ntmps77
   go_wp2
   go_ret
   exact⟨by rw [hv.out];rfl,rfl⟩
  | false=>
   have hv:Hid (wE a b=mst (a+b)):=if_neg (by simp at h1 h2;omega)
   go_enter Tryz.func77,Tryz.ntmps77
   go_wp2_with (go_at_call 119;refine(yY _ _).mono ?_;rintro e w5 ⟨rfl,rfl⟩)
   go_ret
   exact⟨by rw [hv.out];rfl,rfl⟩
theorem yR(a b:Int)(w:World)(ha:-1<=a/\a<=255)(hb:-1<=b/\b<=1000000):Calls Tryz.prog 79 #[.int .i64 a,.int .i64 b] w fun e w'=>e=.returned (.int .i64 (jH a b))/\w'=w:=by
 cases z1:(a==0) with
 | true=>
  have hv:Hid (jH a b=0):=if_pos (.inl (by simpa using z1))
  go_enter Tryz.func79,Tryz.ntmps79
  go_wp2
  go_ret
  exact⟨by rw [hv.out];rfl,rfl⟩
 | false=>
  cases z2:(b==0) with
  | true=>
   have hv:Hid (jH a b=0):=if_pos (.inr (by simpa using z2))
   go_enter Tryz.func79,Tryz.ntmps79
   go_wp2
   go_ret
   exact⟨by rw [hv.out];rfl,rfl⟩
  | false=>
   have hn:¬ (a=0\/b=0):=by simp at z1 z2;omega
   cases h1:(a==-1) with
   | true=>
    have hv:Hid (jH a b=-1):=(if_neg hn).trans (if_pos (.inl (by simpa using h1)))
    clear hn
    go_enter Tryz.func79,Tryz.ntmps79
    go_wp2
    go_ret
    exact⟨by rw [hv.out];rfl,rfl⟩
   | false=>
    cases h2:(b==-1) with
    | true=>
     have hv:Hid (jH a b=-1):=(if_neg hn).trans (if_pos (.inr (by simpa using h2)))
     clear hn
     go_enter Tryz.func79,Tryz.ntmps79
     go_wp2
     go_ret
     exact⟨by rw [hv.out];rfl,rfl⟩
    | false=>
     have hv:Hid (jH a b=mst (a * b)):=(if_neg hn).trans (if_neg (by simp at h1 h2;omega))
     have hp:0<=a * b/\a * b<=255 * 1000000:=by
      simp at z1 z2 h1 h2
      exact⟨Int.mul_nonneg (by omega) (by omega),Int.mul_le_mul (by omega) (by omega) (by omega) (by omega)⟩
     clear hn
     go_enter Tryz.func79,Tryz.ntmps79
     go_wp2_with (go_at_call 119;refine(yY _ _).mono ?_;rintro e w5 ⟨rfl,rfl⟩)
     go_ret
     exact⟨by rw [hv.out];rfl,rfl⟩
theorem aP1(a b:Int)(w:World):Calls Tryz.prog 78 #[.int .i64 a,.int .i64 b] w fun e w'=>e=.returned (.int .i64 (zG a b))/\w'=w:=by
 cases h1:(a==-1) with
 | true=>
  have hv:Hid (zG a b=-1):=if_pos (.inl (by simpa using h1))
  go_enter Tryz.func78,Tryz.ntmps78
  go_wp2
  go_ret
  exact⟨by rw [hv.out];rfl,rfl⟩
 | false=>
  cases h2:(b==-1) with
  | true=>
   have hv:Hid (zG a b=-1):=if_pos (.inr (by simpa using h2))
   go_enter Tryz.func78,Tryz.ntmps78
   go_wp2
   go_ret
   exact⟨by rw [hv.out];rfl,rfl⟩
  | false=>
   have hv:Hid (zG a b=max a b):=if_neg (by simp at h1 h2;omega)
   have hm:∀ t ty w,(Builtin.max_ t ty #[.int .i64 a,.int .i64 b]).run Tryz.prog w=.ok (.int .i64 (max a b)) w:=fun t ty w=>jI _ t ty w _ _
   go_enter Tryz.func78,Tryz.ntmps78
   go_wp2
   go_ret
   exact⟨by rw [hv.out];rfl,rfl⟩
def yM(c:Bool)(l:List (Int × Int)):Int × Int:=match l with
 | []=>(0,0)
 | r :: s=>(((iX c r.1).length:Int),((iX c ((r :: s).getLast (by simp)).2).length:Int))
theorem yQ{R:Ending->World->Prop}{a:Act}{W:World}{b:Nat}{x:Int × Int}(h:W.heap[b]?=some (.cells #[.int .i64 x.1,.int .i64 x.2] 68 (0,0)))(ha:a.tmps[4]?.getD undef=.pointer (some ⟨b,0,none⟩))(hd:a.defers=[])(hR:R (.returned (enW x)) W):bodyPost Tryz.prog Tryz.f75 R .ret a W:=by
 refine bodyPost_ret (v:=enW x) ?_ hd hR
 have z0:=aA h (i:=0) rfl;have z1:=aA h (i:=1) rfl
 simp [results,Tryz.results75,go_sem,ha,enW,z0,z1]
theorem yL{w:World}{q:Option Addr}{k:Nat}{L:List (Int × Int)}(c o:Bool)(h:ArgR w (.slice q L.length k) L)(hc:∀ r∈L,bP c r.1/\bP c r.2) :
  Calls Tryz.prog 75 #[.slice q L.length k,.agg #[.bool c,.bool o]] w fun e w'=>e=.returned (enW (yM c L))/\Below w.heap.size w w':=by
 have B1:Hid (Below w.heap.size w ((w.alloc (.cells #[.bool c,.bool o] 27)).alloc (.cells #[.int .i64 0,.int .i64 0] 68))):=(bz9).alloc (by simp) _
 have R1:Hid (((w.alloc (.cells #[.bool c,.bool o] 27)).alloc (.cells #[.int .i64 0,.int .i64 0] 68)).heap[w.heap.size+1]?=some (.cells #[.int .i64 0,.int .i64 0] 68 (0,0))):=aK _ (by simp only [a7])
 obtain⟨q',k',e,h1,h2,h3⟩:=h.slice
 injection e with e1 _ e3
 subst e1 e3
 have H3:=aD h3
 have h9:L.length<=9223372036854775807:=h1
 have HC:=aD hc
 clear h3 h h1 hc
 match L,h9,h2,H3,HC with
 | [],h9,h2,H3,HC=>
  simp only [List.length_nil]
  have z0:=aA R1.out (i:=0) rfl
  have z1:=aA R1.out (i:=1) rfl
  have fz:=fun z=>aG R1.out z
  go_enter Tryz.func75,Tryz.ntmps75
  go_wp2
  refine yQ (b:=w.heap.size+1) (x:=(0,0)) R1.out rfl rfl ?_
  exact⟨rfl,B1.out⟩
 | r :: s,h9,h2,H3,HC=>
  obtain⟨z,hz⟩:∃ z,(r :: s).getLast (by simp)=z:=⟨_,rfl⟩
  have HZ:=aD (show yM c (r :: s)=(((iX c r.1).length:Int),((iX c z.2).length:Int)) by rw [<- hz];rfl)
  have hzz:(r :: s)[(r :: s).length - 1]?=some z:=by rw [<- hz,<- List.getLast?_eq_getElem?,List.getLast?_eq_some_getLast (by simp)]
  obtain⟨n,hn⟩:∃ n,s.length=n:=⟨_,rfl⟩
  have hln:(r :: s).length=n+1:=by simp [hn]
  rw [hln] at hzz h9 h2 ⊢
  obtain⟨g,off,rfl,hg,c1,-⟩:=H3.out 0 r rfl
  obtain⟨g',off',e,-,-,c2⟩:=H3.out n z (by simpa using hzz)
  injection e with e
  injection e with e1 e2
  subst e1 e2
  have W1:=aD (jF (x:=r.1) c o)
  have HR:=aD (HC.out r (m8 ..)).1
  have HY:=aD (HC.out z (i9 hzz)).2
  obtain⟨T1,hT1⟩:∃ T,iX c r.1=T:=⟨_,rfl⟩
  obtain⟨T2,hT2⟩:∃ T,iX c z.2=T:=⟨_,rfl⟩
  obtain⟨x1,hx1⟩:∃ x,r.1=x:=⟨_,rfl⟩
  obtain⟨x2,hx2⟩:∃ x,z.2=x:=⟨_,rfl⟩
  have C1:Hid (∀ w,Calls Tryz.prog 89 #[.int .i64 x1,.agg #[.bool c,.bool o]] w fun e w'=>e=.returned (.string (txt T1))/\Below w.heap.size w w'):=fun w=>by rw [<- hT1,<- hx1];exact jF c o w HR.out
  have C2:Hid (∀ w,Calls Tryz.prog 89 #[.int .i64 x2,.agg #[.bool c,.bool o]] w fun e w'=>e=.returned (.string (txt T2))/\Below w.heap.size w w'):=fun w=>by rw [<- hT2,<- hx2];exact jF c o w HY.out
  rw [hT1,hT2] at HZ
  rw [hx1] at c1
  rw [hx2] at c2
  have d1:((w.alloc (.cells #[.bool c,.bool o] 27)).alloc (.cells #[.int .i64 0,.int .i64 0] 68)).cell? ⟨g,off,none⟩=some (.int .i64 x1):=(B1.out.cell (p:=⟨g,off,none⟩) hg).trans (by simpa using c1)
  have d2:((w.alloc (.cells #[.bool c,.bool o] 27)).alloc (.cells #[.int .i64 0,.int .i64 0] 68)).cell? ⟨g,off+n * 2+1,none⟩=some (.int .i64 x2):=(B1.out.cell (p:=⟨g,off+n * 2+1,none⟩) hg).trans (by rw [aAJ] at c2;exact c2)
  have hg2:g < ((w.alloc (.cells #[.bool c,.bool o] 27)).alloc (.cells #[.int .i64 0,.int .i64 0] 68)).heap.size:=i6 hg B1.out.size
  have m0:((w.alloc (.cells #[.bool c,.bool o] 27)).alloc (.cells #[.int .i64 0,.int .i64 0] 68)).cell? ⟨w.heap.size,0,none⟩=some (.bool c):=by simp
  have m1:((w.alloc (.cells #[.bool c,.bool o] 27)).alloc (.cells #[.int .i64 0,.int .i64 0] 68)).cell? ⟨w.heap.size,1,none⟩=some (.bool o):=by simp
  have l0:w.heap.size < ((w.alloc (.cells #[.bool c,.bool o] 27)).alloc (.cells #[.int .i64 0,.int .i64 0] 68)).heap.size:=by simp only [a7];omega
  have l1:w.heap.size+1 < ((w.alloc (.cells #[.bool c,.bool o] 27)).alloc (.cells #[.int .i64 0,.int .i64 0] 68)).heap.size:=by simp
  clear c1 c2 hg hz hzz hn hln W1 HR HY HC H3 hT1 hT2 hx1 hx2
  have i1:IntKind.wrap .i64 ((n:Int)+1 - 1)=(n:Int):=by rw [IntKind.wrap_i64];omega
  have q0:((n:Int)+1==0)=false:=by simp;omega
  generalize hWg:(w.alloc (.cells #[.bool c,.bool o] 27)).alloc (.cells #[.int .i64 0,.int .i64 0] 68)=Wg at B1 R1 d1 d2 hg2 m0 m1 l0 l1
  have HWg:=aD hWg
  clear hWg
  go_enter Tryz.func75,Tryz.ntmps75
  go_wp2
  rw [HWg.out]
  refine aW (aAF _ _) (by kernel_rfl) (by kernel_rfl) (by kernel_rfl) ?_
  dsimp only [List.dropLast,List.getLast]
  repeat (go_big_quiet_step (first | exact rfl |(go_at_call 89;(with_reducible exact bN (C1.out _))) |(go_at_call 89;(with_reducible exact bN (C2.out _)))))
  refine wpQuiet_nil ?_
  intro w3 hw
  have B3:=aD (aQ hw)
  clear hw d1 d2 m0 m1
  have R3:Hid (w3.heap[w.heap.size+1]?=some (.cells #[.int .i64 0,.int .i64 0] 68 (0,0))):=(B3.out.block _ l1).trans R1.out
  have z0:=aA R3.out (i:=0) rfl
  have z1:=aA R3.out (i:=1) rfl
  have fz:=fun z=>aG R3.out z
  go_wp2
  refine yQ (b:=w.heap.size+1) (x:=((T1.length:Int),(T2.length:Int))) (by have:=bA R3.out [.int .i64 (T1.length:Int),.int .i64 (T2.length:Int)] rfl;simpa [bD,fY] using this) rfl rfl ?_
  have F3:=aV (w.heap.size+1) [.int .i64 (T1.length:Int),.int .i64 (T2.length:Int)] 0 w3
  exact⟨by rw [HZ.out],bC (aJ B1.out B3.out lz9) (by simpa [bD,fY] using F3) lz9 (fun k e=>by omega)⟩
end
section
attribute [local go_sem] Oper.semAt_some bB
def dD(x:Int × Int):Prop:=(0<=x.1/\x.1<=1000000)/\-1<=x.2/\x.2<=1000000
def zZ(w x:Int × Int):Int × Int:=(lst (w.1+x.1),wE w.2 x.2)
def aA1(w x:Int × Int):Int × Int:=(min w.1 x.1,zG w.2 x.2)
def gZ(c:Bool):dH (Int × Int):=fun f _ xs g=>
 if f.k=2 then yM c f.rs else if f.k=5 then xs.foldl zZ (0,0) else if f.k=6 then xs.foldl aA1 (xs.headD (0,0)) else if f.k=7 then xs.headD (0,0)
 else if f.k=8 then g f.n else if f.k=9 then (lst (f.mn * (xs.headD (0,0)).1),jH f.mx (xs.headD (0,0)).2) else (0,0)
theorem zI{w x:Int × Int}(h:dD w)(k:dD x):dD (zZ w x):=by
 unfold dD at *
 unfold zZ lst wE mst
 refine⟨by simp only;omega,?_⟩
 simp only
 split
 ·omega
 ·split <;> omega
theorem zJ{w x:Int × Int}(h:dD w)(k:dD x):dD (aA1 w x):=by
 unfold dD at *
 unfold aA1 zG
 refine⟨by simp only;omega,?_⟩
 simp only
 split <;> omega
theorem kC{f:Int × Int->Int × Int->Int × Int}(hf:∀ w x,dD w->dD x->dD (f w x)):∀ (l:List (Int × Int)) (w:Int × Int),dD w->(∀ x∈l,dD x)->dD (l.foldl f w)
 | [],_,h,_=>h
 | x :: l,w,h,hl=>kC hf l (f w x) (hf w x h (hl x (m8 ..))) (fun y hy=>hl y (n6 _ hy))
theorem aK3(c:Bool)(x:Int):(iX c x).length<=4:=by
 unfold iX
 split
 ·have:=(Lib.runeCells_le x).2
  rwa [Lib.runeCells_length] at this
 ·simp
theorem kB:dD (0,0):=⟨by simp,by simp⟩
theorem aW9(c:Bool)(l:List (Int × Int)):dD (yM c l):=by
 unfold yM
 split
 ·exact kB
 ·rename_i r s
  have h1:=aK3 c r.1
  have h2:=aK3 c ((r :: s).getLast (by simp)).2
  unfold dD
  simp only
  omega
theorem pZ{xs:List (Int × Int)}(h:∀ x∈xs,dD x):dD (xs.headD (0,0)):=by
 cases xs with
 | nil=>exact kB
 | cons x l=>exact h x (m8 ..)
theorem aX0{f:Fl}{x:Int × Int}(hb:fU f.mn f.mx=true)(h:dD x):dD (lst (f.mn * x.1),jH f.mx x.2):=by
 simp [fU] at hb
 unfold dD at *
 have h1:0<=f.mn * x.1:=Int.mul_nonneg (by omega) h.1.1
 refine⟨by simp only [lst];omega,?_⟩
 simp only [jH,mst]
 split
 ·omega
 ·split
  ·omega
  ·have h2:0<=f.mx * x.2:=Int.mul_nonneg (by omega) (by omega)
   split <;> omega
theorem aC1{c o:Bool}(t:Tr)(xs:List (Int × Int))(g:Int->Int × Int)(hn:NP c o t)(_:xs.length=t.ks.length)(hx:∀ x∈xs,dD x)(hg:∀ i,dD (g i)):dD (gZ c t.f t.ks xs g):=by
 unfold gZ
 split
 ·exact aW9 _ _
 split
 ·exact kC (fun _ _=>zI) xs _ kB hx
 split
 ·exact kC (fun _ _=>zJ) xs _ (pZ hx) hx
 split
 ·exact pZ hx
 split
 ·exact hg _
 split
 ·rename_i hk
  exact aX0 (lT hn hk) (pZ hx)
 ·exact kB
theorem oD{c o:Bool}{L:List (Int × Int)}(h:oE c o L){r:Int × Int}(hr:r∈L):bP c r.1/\bP c r.2:=by
 have hs:=h.1.cls.some r hr
 exact⟨((h.1.mem r.1).1 ⟨r,hr,aAN _,hs⟩).2,((h.1.mem r.2).1 ⟨r,hr,hs,aAN _⟩).2⟩
theorem fC{R:Ending->World->Prop}{a:Act}{W:World}{b:Nat}{x:Int × Int}(h:W.heap[b]?=some (.cells #[.int .i64 x.1,.int .i64 x.2] 68 (0,0)))(ha:a.tmps[2]?.getD undef=.pointer (some ⟨b,0,none⟩))(hd:a.defers=[])(hR:R (.returned (enW x)) W):bodyPost Tryz.prog Tryz.f41 R .ret a W:=by
 refine bodyPost_ret (v:=enW x) ?_ hd hR
 have z0:=aA h (i:=0) rfl;have z1:=aA h (i:=1) rfl
 simp [results,Tryz.results41,go_sem,ha,enW,z0,z1]
def Two(W V:World)(x:Int × Int):Prop:=V.heap[W.heap.size+1]?=some (.cells #[.int .i64 0,.int .i64 0] 68 (0,0))/\V.heap[W.heap.size+1+1]?=some (.cells #[.int .i64 x.1,.int .i64 x.2] 68 (0,0))/\Below W.heap.size W V
theorem Two.put{W V:World}{x:Int × Int}(h:Two W V x)(y:Int × Int):Two W (bD V (W.heap.size+1+1) 0 [.int .i64 y.1,.int .i64 y.2]) y:=
 ⟨((aV _ _ 0 V).block _ (aB h.1) (by omega)).trans h.1,bA h.2.1 [.int .i64 y.1,.int .i64 y.2] rfl,bC h.2.2 (aV _ _ 0 V) lz9 (fun k e=>by omega)⟩
theorem Two.kept{W V V':World}{x:Int × Int}(h:Two W V x)(hb:Below V.heap.size V V'):Two W V' x:=
 ⟨(hb.block _ (aB h.1)).trans h.1,(hb.block _ (aB h.2.1)).trans h.2.1,aJ h.2.2 hb lz9⟩
theorem Two.end{W V:World}{x:Int × Int}(h:Two W V x):(bD V (W.heap.size+1) 0 [.int .i64 x.1,.int .i64 x.2]).heap[W.heap.size+1]?=some (.cells #[.int .i64 x.1,.int .i64 x.2] 68 (0,0))/\Below W.heap.size W (bD V (W.heap.size+1) 0 [.int .i64 x.1,.int .i64 x.2]):=
 ⟨bA h.1 [.int .i64 x.1,.int .i64 x.2] rfl,bC h.2.2 (aV _ _ 0 V) lz9 (fun k e=>by omega)⟩
theorem bA5(c o:Bool):RuW (fun _=>True) (NP c o) dD (gZ c) c o:=by
 intro t xs g W v bp bb n base _ hnp hsz hnb hlen hgx hgg hown hp hm
 obtain⟨qv,cv,rfl⟩:=aZ hown
 have HO:=aD hown
 have HLEN:=aD hlen
 have HNB:=aD hnb
 have HGX:=aD hgx
 have HGG:=aD hgg
 have HP:=aD hp
 have HM:=aD hm
 have HNP:=aD hnp
 have hxl:xs.length<=1000000:=by rw [hlen];exact hsz
 have hc:∀ (i:Nat) (x:Int × Int),xs[i]?=some x->∃ gb,qv=some ⟨gb,0,none⟩/\gb < W.heap.size/\W.cell? ⟨gb,i * 2,none⟩=some (.int .i64 x.1)/\W.cell? ⟨gb,i * 2+1,none⟩=some (.int .i64 x.2):=fun i x hx=>by
  have hi:=(i5.1 hx).1
  obtain⟨gb,cb,e⟩:=aL hown (by omega)
  injection e with e1 e2 e3
  subst e1 e3
  have p1:=kW (fun x:Int × Int=>[Value.int .i64 x.1,.int .i64 x.2]) 2 (fun _=>rfl) xs i x hx 0 (by decide)
  have p2:=kW (fun x:Int × Int=>[Value.int .i64 x.1,.int .i64 x.2]) 2 (fun _=>rfl) xs i x hx 1 (by decide)
  exact⟨gb,rfl,(aH hown rfl).2.1,aU hown p1,aU hown p2⟩
 have HC:=aD hc
 clear hown hnb hgx hgg hp hm hlen hc hsz
 unfold dE
 go_enter Tryz.func41,Tryz.ntmps41
 go_upto_region 3 with fail
 have S0:Hid ((((W.alloc (.cells #[.int .i64 t.f.k,.int .i64 t.f.n,.int .i64 t.f.mn,.int .i64 t.f.mx,.slice t.f.rq t.f.rs.length t.f.rc,.slice t.f.kq t.f.kl t.f.kc,.bool c,.bool o,.slice qv xs.length cv,.func (.func 73) #[] #[bx bp]] 123)).alloc (.cells #[.int .i64 0,.int .i64 0] 68)).alloc (.cells #[.int .i64 0,.int .i64 0] 68)).heap[W.heap.size]?=some (.cells #[.int .i64 t.f.k,.int .i64 t.f.n,.int .i64 t.f.mn,.int .i64 t.f.mx,.slice t.f.rq t.f.rs.length t.f.rc,.slice t.f.kq t.f.kl t.f.kc,.bool c,.bool o,.slice qv xs.length cv,.func (.func 73) #[] #[bx bp]] 123 (0,0))):=(by(repeat (first | exact aK _ (by first | rfl | simp only [a7]) | rw [Below.heap_alloc _ _ _ (by first | omega |(simp only [a7];omega))])))
 have T0:Hid (Two W (((W.alloc (.cells #[.int .i64 t.f.k,.int .i64 t.f.n,.int .i64 t.f.mn,.int .i64 t.f.mx,.slice t.f.rq t.f.rs.length t.f.rc,.slice t.f.kq t.f.kl t.f.kc,.bool c,.bool o,.slice qv xs.length cv,.func (.func 73) #[] #[bx bp]] 123)).alloc (.cells #[.int .i64 0,.int .i64 0] 68)).alloc (.cells #[.int .i64 0,.int .i64 0] 68)) (0,0)):=⟨(Below.heap_alloc _ _ _ (by simp only [a7];omega)).trans (aK _ (by simp only [a7])),aK _ (by simp only [a7]),((bz9).alloc (by simp only [a7];omega) _).alloc (by simp only [a7];omega) _⟩
 have l0:W.heap.size < (((W.alloc (.cells #[.int .i64 t.f.k,.int .i64 t.f.n,.int .i64 t.f.mn,.int .i64 t.f.mx,.slice t.f.rq t.f.rs.length t.f.rc,.slice t.f.kq t.f.kl t.f.kc,.bool c,.bool o,.slice qv xs.length cv,.func (.func 73) #[] #[bx bp]] 123)).alloc (.cells #[.int .i64 0,.int .i64 0] 68)).alloc (.cells #[.int .i64 0,.int .i64 0] 68)).heap.size:=by simp only [a7];omega
 have l1:W.heap.size+1 < (((W.alloc (.cells #[.int .i64 t.f.k,.int .i64 t.f.n,.int .i64 t.f.mn,.int .i64 t.f.mx,.slice t.f.rq t.f.rs.length t.f.rc,.slice t.f.kq t.f.kl t.f.kc,.bool c,.bool o,.slice qv xs.length cv,.func (.func 73) #[] #[bx bp]] 123)).alloc (.cells #[.int .i64 0,.int .i64 0] 68)).alloc (.cells #[.int .i64 0,.int .i64 0] 68)).heap.size:=by simp only [a7];omega
 have l2:W.heap.size+1+1 < (((W.alloc (.cells #[.int .i64 t.f.k,.int .i64 t.f.n,.int .i64 t.f.mn,.int .i64 t.f.mx,.slice t.f.rq t.f.rs.length t.f.rc,.slice t.f.kq t.f.kl t.f.kc,.bool c,.bool o,.slice qv xs.length cv,.func (.func 73) #[] #[bx bp]] 123)).alloc (.cells #[.int .i64 0,.int .i64 0] 68)).alloc (.cells #[.int .i64 0,.int .i64 0] 68)).heap.size:=by simp only [a7];omega
 generalize hW0:(((W.alloc (.cells #[.int .i64 t.f.k,.int .i64 t.f.n,.int .i64 t.f.mn,.int .i64 t.f.mx,.slice t.f.rq t.f.rs.length t.f.rc,.slice t.f.kq t.f.kl t.f.kc,.bool c,.bool o,.slice qv xs.length cv,.func (.func 73) #[] #[bx bp]] 123)).alloc (.cells #[.int .i64 0,.int .i64 0] 68)).alloc (.cells #[.int .i64 0,.int .i64 0] 68))=W0 at S0 T0 l0 l1 l2 ⊢
 clear hW0
 have s0:W0.cell? ⟨W.heap.size,0,none⟩=some (.int .i64 t.f.k):=aA S0.out (i:=0) rfl
 have s1:W0.cell? ⟨W.heap.size,1,none⟩=some (.int .i64 t.f.n):=aA S0.out (i:=1) rfl
 have s2:W0.cell? ⟨W.heap.size,2,none⟩=some (.int .i64 t.f.mn):=aA S0.out (i:=2) rfl
 have s3:W0.cell? ⟨W.heap.size,3,none⟩=some (.int .i64 t.f.mx):=aA S0.out (i:=3) rfl
 have s4:W0.cell? ⟨W.heap.size,4,none⟩=some (.slice t.f.rq t.f.rs.length t.f.rc):=aA S0.out (i:=4) rfl
 have s5:W0.cell? ⟨W.heap.size,5,none⟩=some (.slice t.f.kq t.f.kl t.f.kc):=aA S0.out (i:=5) rfl
 have s6:W0.cell? ⟨W.heap.size,6,none⟩=some (.bool c):=aA S0.out (i:=6) rfl
 have s7:W0.cell? ⟨W.heap.size,7,none⟩=some (.bool o):=aA S0.out (i:=7) rfl
 have s8:W0.cell? ⟨W.heap.size,8,none⟩=some (.slice qv xs.length cv):=aA S0.out (i:=8) rfl
 have s9:W0.cell? ⟨W.heap.size,9,none⟩=some (.func (.func 73) #[] #[bx bp]):=aA S0.out (i:=9) rfl
 rcases hQ hnp with hk | hk | hk | hk | hk | hk | hk | hk | hk
 ·have hv:Hid (gZ c t.f t.ks xs g=(0,0)):=(by unfold gZ;rw [hk];rfl)
  have e2:(t.f.k==2)=false:=by rw [hk];rfl
  have e5:(t.f.k==5)=false:=by rw [hk];rfl
  have e6:(t.f.k==6)=false:=by rw [hk];rfl
  have e7:(t.f.k==7)=false:=by rw [hk];rfl
  have e8:(t.f.k==8)=false:=by rw [hk];rfl
  have e9:(t.f.k==9)=false:=by rw [hk];rfl
  clear hk hnp
  have z0:=aA T0.out.1 (i:=0) rfl
  have z1:=aA T0.out.1 (i:=1) rfl
  have y0:=aA T0.out.2.1 (i:=0) rfl
  have y1:=aA T0.out.2.1 (i:=1) rfl
  have fz:=fun z=>aG T0.out.1 z
  have fy:=fun z=>aG T0.out.2.1 z
  go_wp2
  refine fC (b:=W.heap.size+1) (x:=(0,0)) T0.out.end.1 rfl rfl ?_
  exact⟨by rw [hv.out],T0.out.end.2⟩
 ·have hv:Hid (gZ c t.f t.ks xs g=yM c t.f.rs):=(by unfold gZ;rw [hk];rfl)
  have hs:=pT hnp hk
  have HD:=aD (yL (w:=W0) (q:=t.f.rq) (k:=t.f.rc) (L:=t.f.rs) c o (HNB.out.r.kept T0.out.2.2) (fun r hr=>oD hs hr))
  have e2:(t.f.k==2)=true:=by rw [hk];rfl
  have e5:(t.f.k==5)=false:=by rw [hk];rfl
  have e6:(t.f.k==6)=false:=by rw [hk];rfl
  have e7:(t.f.k==7)=false:=by rw [hk];rfl
  have e8:(t.f.k==8)=false:=by rw [hk];rfl
  have e9:(t.f.k==9)=false:=by rw [hk];rfl
  clear hk hnp hs
  obtain⟨⟨xa,xb⟩,hx⟩:∃ x,yM c t.f.rs=x:=⟨_,rfl⟩
  rw [hx] at HD hv
  simp only [enW] at HD
  clear hx
  go_wp2_with (go_at_call 75;refine HD.out.mono ?_;rintro e w5 ⟨rfl,h5⟩;have T5:Hid (Two W w5 (0,0)):=T0.out.kept h5;clear h5;have z0:=aA T5.out.1 (i:=0) rfl;have z1:=aA T5.out.1 (i:=1) rfl;have y0:=aA T5.out.2.1 (i:=0) rfl;have y1:=aA T5.out.2.1 (i:=1) rfl;have fz:=fun z=>aG T5.out.1 z;have fy:=fun z=>aG T5.out.2.1 z)
  have T6:=T5.out.put (xa,xb)
  refine fC (b:=W.heap.size+1) (x:=(xa,xb)) T6.end.1 rfl rfl ?_
  exact⟨by rw [hv.out],T6.end.2⟩
 ·have hv:Hid (gZ c t.f t.ks xs g=(0,0)):=(by unfold gZ;rw [hk];rfl)
  have e2:(t.f.k==2)=false:=by rw [hk];rfl
  have e5:(t.f.k==5)=false:=by rw [hk];rfl
  have e6:(t.f.k==6)=false:=by rw [hk];rfl
  have e7:(t.f.k==7)=false:=by rw [hk];rfl
  have e8:(t.f.k==8)=false:=by rw [hk];rfl
  have e9:(t.f.k==9)=false:=by rw [hk];rfl
  clear hk hnp
  have z0:=aA T0.out.1 (i:=0) rfl
  have z1:=aA T0.out.1 (i:=1) rfl
  have y0:=aA T0.out.2.1 (i:=0) rfl
  have y1:=aA T0.out.2.1 (i:=1) rfl
  have fz:=fun z=>aG T0.out.1 z
  have fy:=fun z=>aG T0.out.2.1 z
  go_wp2
  refine fC (b:=W.heap.size+1) (x:=(0,0)) T0.out.end.1 rfl rfl ?_
  exact⟨by rw [hv.out],T0.out.end.2⟩
 ·have hv:Hid (gZ c t.f t.ks xs g=(0,0)):=(by unfold gZ;rw [hk];rfl)
  have e2:(t.f.k==2)=false:=by rw [hk];rfl
  have e5:(t.f.k==5)=false:=by rw [hk];rfl
  have e6:(t.f.k==6)=false:=by rw [hk];rfl
  have e7:(t.f.k==7)=false:=by rw [hk];rfl
  have e8:(t.f.k==8)=false:=by rw [hk];rfl
  have e9:(t.f.k==9)=false:=by rw [hk];rfl
  clear hk hnp
  have z0:=aA T0.out.1 (i:=0) rfl
  have z1:=aA T0.out.1 (i:=1) rfl
  have y0:=aA T0.out.2.1 (i:=0) rfl
  have y1:=aA T0.out.2.1 (i:=1) rfl
  have fz:=fun z=>aG T0.out.1 z
  have fy:=fun z=>aG T0.out.2.1 z
  go_wp2
  refine fC (b:=W.heap.size+1) (x:=(0,0)) T0.out.end.1 rfl rfl ?_
  exact⟨by rw [hv.out],T0.out.end.2⟩
 ·have hv:Hid (gZ c t.f t.ks xs g=xs.foldl zZ (0,0)):=(by unfold gZ;rw [hk];rfl)
  have e2:(t.f.k==2)=false:=by rw [hk];rfl
  have e5:(t.f.k==5)=true:=by rw [hk];rfl
  have e6:(t.f.k==6)=false:=by rw [hk];rfl
  have e7:(t.f.k==7)=false:=by rw [hk];rfl
  have e8:(t.f.k==8)=false:=by rw [hk];rfl
  have e9:(t.f.k==9)=false:=by rw [hk];rfl
  have TI:Hid (Two W W0 ((xs.take 0).foldl zZ (0,0))):=T0.out
  clear hk
  clear hnp
  go_upto_region 7 with fail
  go_loopw [25] (fun i wr=>∃ j:Nat,j<=xs.length/\i=.int .i64 (j:Int)/\Two W wr ((xs.take j).foldl zZ (0,0))) (fun i _=>xs.length - (intOf i).toNat)
  case atStart=>exact⟨0,m9 _,rfl,TI.out⟩
  case round=>
   obtain⟨j,hj,rfl,ht⟩:=hrel
   have hgy:=kC (fun _ _=>zI) (xs.take j) (0,0) kB (fun y hy=>HGX.out y (aAU hy))
   obtain⟨⟨ya,yb⟩,hy⟩:∃ y,(xs.take j).foldl zZ (0,0)=y:=⟨_,rfl⟩
   rw [hy] at ht hgy
   have TT:=aD ht
   have HY:=aD hy
   unfold dD at hgy
   simp only at hgy
   clear ht hy
   by_cases hjl:j < xs.length
   ·obtain⟨⟨xa,xb⟩,hx⟩:∃ x,xs[j]?=some x:=⟨_,g9 hjl⟩
    have hgd:=HGX.out _ (i9 hx)
    unfold dD at hgd
    simp only at hgd
    have FN:=aD (show (xs.take (j+1)).foldl zZ (0,0)=(lst (ya+xa),wE yb xb) by rw [o5,hx,aAV,aBJ,HY.out];rfl)
    have e1:(j:Int) < (xs.length:Int):=by omega
    obtain⟨gb,rfl,hg',c1,c2⟩:=HC.out j _ hx
    have d1:=(TT.out.2.2.cell (p:=⟨gb,j * 2,none⟩) hg').trans c1
    have d2:=(TT.out.2.2.cell (p:=⟨gb,j * 2+1,none⟩) hg').trans c2
    simp only at d1 d2
    have P1:Hid (∀ w,Calls Tryz.prog 77 #[.int .i64 yb,.int .i64 xb] w fun e w'=>e=.returned (.int .i64 (wE yb xb))/\w'=w):=fun w=>bA9 _ _ w hgy.2 hgd.2
    have T1:Hid (Two W (wr.alloc (.cells #[.int .i64 xa,.int .i64 xb] 68)) (ya,yb)):=TT.out.kept (bz9)
    have y0:(wr.alloc (.cells #[.int .i64 xa,.int .i64 xb] 68)).cell? ⟨W.heap.size+1+1,0,none⟩=some (.int .i64 ya):=aA T1.out.2.1 (i:=0) rfl
    have y1:(wr.alloc (.cells #[.int .i64 xa,.int .i64 xb] 68)).cell? ⟨W.heap.size+1+1,1,none⟩=some (.int .i64 yb):=aA T1.out.2.1 (i:=1) rfl
    have k0:(wr.alloc (.cells #[.int .i64 xa,.int .i64 xb] 68)).cell? ⟨wr.heap.size,0,none⟩=some (.int .i64 xa):=aA (aE wr _) (i:=0) rfl
    have k1:(wr.alloc (.cells #[.int .i64 xa,.int .i64 xb] 68)).cell? ⟨wr.heap.size,1,none⟩=some (.int .i64 xb):=aA (aE wr _) (i:=1) rfl
    have l6:W.heap.size+1+1 < (wr.alloc (.cells #[.int .i64 xa,.int .i64 xb] 68)).heap.size:=aB T1.out.2.1
    have l7:wr.heap.size < (wr.alloc (.cells #[.int .i64 xa,.int .i64 xb] 68)).heap.size:=by rw [a7];omega
    clear c1 c2 hx
    go_wp2
    generalize hW1:wr.alloc (.cells #[.int .i64 xa,.int .i64 xb] 68)=W1 at T1 l6 l7 y0 y1 k0 k1 ⊢
    clear hW1
    refine aW (aAF _ _) (by kernel_rfl) (by kernel_rfl) (by kernel_rfl) ?_
    dsimp only [List.dropLast,List.getLast]
    repeat (go_big_quiet_step (first | exact rfl |(go_at_call 76;exact fL (uX _ _)) |(go_at_call 77;exact fL (P1.out _))))
    refine wpQuiet_nil ?_
    intro w3 hw
    have T3:Hid (Two W w3 (ya,yb)):=T1.out.kept (aQ hw)
    clear hw y0 y1 k0 k1 d1 d2
    have z0:=aA T3.out.1 (i:=0) rfl
    have z1:=aA T3.out.1 (i:=1) rfl
    have y0:=aA T3.out.2.1 (i:=0) rfl
    have y1:=aA T3.out.2.1 (i:=1) rfl
    have fz:=fun z=>aG T3.out.1 z
    have fy:=fun z=>aG T3.out.2.1 z
    go_wp2
    go_roundw
    case rel=>exact⟨j+1,by omega,by go_num,by rw [FN.out];exact T3.out.put (lst (ya+xa),wE yb xb)⟩
    case measure=>simp only [intOf];omega
   ·have e1:¬ (j:Int) < (xs.length:Int):=by omega
    rw [j9 (by omega)] at HY
    rw [HY.out] at hv
    have z0:=aA TT.out.1 (i:=0) rfl
    have z1:=aA TT.out.1 (i:=1) rfl
    have y0:=aA TT.out.2.1 (i:=0) rfl
    have y1:=aA TT.out.2.1 (i:=1) rfl
    have fz:=fun z=>aG TT.out.1 z
    have fy:=fun z=>aG TT.out.2.1 z
    go_wp2
    refine fC (b:=W.heap.size+1) (x:=(ya,yb)) TT.out.end.1 rfl rfl ?_
    exact⟨by rw [hv.out],TT.out.end.2⟩
 ·have hv:Hid (gZ c t.f t.ks xs g=xs.foldl aA1 (xs.headD (0,0))):=(by unfold gZ;rw [hk];rfl)
  have e2:(t.f.k==2)=false:=by rw [hk];rfl
  have e5:(t.f.k==5)=false:=by rw [hk];rfl
  have e6:(t.f.k==6)=true:=by rw [hk];rfl
  have e7:(t.f.k==7)=false:=by rw [hk];rfl
  have e8:(t.f.k==8)=false:=by rw [hk];rfl
  have e9:(t.f.k==9)=false:=by rw [hk];rfl
  have hmany:=rC hnp (.inr hk)
  clear hk
  obtain⟨x0,hx0⟩:∃ x,xs[0]?=some x:=⟨_,g9 (by rw [HLEN.out];omega)⟩
  have hh:xs.headD (0,0)=x0:=by
   match xs,hx0 with
   | y :: ys,h=>simp at h;simp [h]
  rw [hh] at hv
  have e10:(0:Int) < (xs.length:Int):=by have:=(i5.1 hx0).1;omega
  obtain⟨gb,rfl,hg,c1,c2⟩:=HC.out 0 x0 hx0
  simp only [aAK,g8] at c1 c2
  have d1:=(T0.out.2.2.cell (p:=⟨gb,0,none⟩) hg).trans c1
  have d2:=(T0.out.2.2.cell (p:=⟨gb,1,none⟩) hg).trans c2
  have hg0:gb < W0.heap.size:=i6 hg T0.out.2.2.size
  have ng1:gb≠W.heap.size+1:=by omega
  have ng2:gb≠W.heap.size+1+1:=by omega
  have GX:=aD (HGX.out x0 (i9 hx0))
  obtain⟨ua,ub⟩:=x0
  simp only at d1 d2
  have TI:Hid (Two W (bD W0 (W.heap.size+1+1) 0 [.int .i64 ua,.int .i64 ub]) ((xs.take 0).foldl aA1 (ua,ub))):=T0.out.put (ua,ub)
  have SI:Hid ((bD W0 (W.heap.size+1+1) 0 [.int .i64 ua,.int .i64 ub]).heap[W.heap.size]?=some (.cells #[.int .i64 t.f.k,.int .i64 t.f.n,.int .i64 t.f.mn,.int .i64 t.f.mx,.slice t.f.rq t.f.rs.length t.f.rc,.slice t.f.kq t.f.kl t.f.kc,.bool c,.bool o,.slice (some ⟨gb,0,none⟩) xs.length cv,.func (.func 73) #[] #[bx bp]] 123 (0,0))):=((aV _ _ 0 W0).block _ l0 (by omega)).trans S0.out
  clear c1 c2 hg hx0 hh hmany hnp
  have z0:=aA T0.out.1 (i:=0) rfl
  have z1:=aA T0.out.1 (i:=1) rfl
  have y0:=aA T0.out.2.1 (i:=0) rfl
  have y1:=aA T0.out.2.1 (i:=1) rfl
  have fz:=fun z=>aG T0.out.1 z
  have fy:=fun z=>aG T0.out.2.1 z
  go_upto_region 14 with fail
  clear z0 z1 y0 y1 fz fy d1 d2
  change Code.wp _ _ _ _ (bD W0 (W.heap.size+1+1) 0 [.int .i64 ua,.int .i64 ub])
  generalize bD W0 (W.heap.size+1+1) 0 [.int .i64 ua,.int .i64 ub]=WI at TI SI ⊢
  go_loopw [51] (fun i wr=>∃ j:Nat,j<=xs.length/\i=.int .i64 (j:Int)/\Two W wr ((xs.take j).foldl aA1 (ua,ub))) (fun i _=>xs.length - (intOf i).toNat)
  case atStart=>exact⟨0,m9 _,rfl,TI.out⟩
  case round=>
   obtain⟨j,hj,rfl,ht⟩:=hrel
   have hgy:=kC (fun _ _=>zJ) (xs.take j) (ua,ub) GX.out (fun y hy=>HGX.out y (aAU hy))
   obtain⟨⟨ya,yb⟩,hy⟩:∃ y,(xs.take j).foldl aA1 (ua,ub)=y:=⟨_,rfl⟩
   rw [hy] at ht hgy
   have TT:=aD ht
   have HY:=aD hy
   unfold dD at hgy
   simp only at hgy
   clear ht hy
   by_cases hjl:j < xs.length
   ·obtain⟨⟨xa,xb⟩,hx⟩:∃ x,xs[j]?=some x:=⟨_,g9 hjl⟩
    have hgd:=HGX.out _ (i9 hx)
    unfold dD at hgd
    simp only at hgd
    have FN:=aD (show (xs.take (j+1)).foldl aA1 (ua,ub)=(min ya xa,zG yb xb) by rw [o5,hx,aAV,aBJ,HY.out];rfl)
    have e1:(j:Int) < (xs.length:Int):=by omega
    obtain⟨gb',egb,hg',c1,c2⟩:=HC.out j _ hx
    injection egb with egb
    injection egb with egb
    subst egb
    have d1:=(TT.out.2.2.cell (p:=⟨gb,j * 2,none⟩) hg').trans c1
    have d2:=(TT.out.2.2.cell (p:=⟨gb,j * 2+1,none⟩) hg').trans c2
    simp only at d1 d2
    have hmn:∀ t' ty w,(Builtin.min_ t' ty #[.int .i64 ya,.int .i64 xa]).run Tryz.prog w=.ok (.int .i64 (min ya xa)) w:=fun t' ty w=>oK _ t' ty w _ _
    have T1:Hid (Two W (wr.alloc (.cells #[.int .i64 xa,.int .i64 xb] 68)) (ya,yb)):=TT.out.kept (bz9)
    have y0:(wr.alloc (.cells #[.int .i64 xa,.int .i64 xb] 68)).cell? ⟨W.heap.size+1+1,0,none⟩=some (.int .i64 ya):=aA T1.out.2.1 (i:=0) rfl
    have y1:(wr.alloc (.cells #[.int .i64 xa,.int .i64 xb] 68)).cell? ⟨W.heap.size+1+1,1,none⟩=some (.int .i64 yb):=aA T1.out.2.1 (i:=1) rfl
    have k0:(wr.alloc (.cells #[.int .i64 xa,.int .i64 xb] 68)).cell? ⟨wr.heap.size,0,none⟩=some (.int .i64 xa):=aA (aE wr _) (i:=0) rfl
    have k1:(wr.alloc (.cells #[.int .i64 xa,.int .i64 xb] 68)).cell? ⟨wr.heap.size,1,none⟩=some (.int .i64 xb):=aA (aE wr _) (i:=1) rfl
    have l6:W.heap.size+1+1 < (wr.alloc (.cells #[.int .i64 xa,.int .i64 xb] 68)).heap.size:=aB T1.out.2.1
    have l7:wr.heap.size < (wr.alloc (.cells #[.int .i64 xa,.int .i64 xb] 68)).heap.size:=by rw [a7];omega
    clear c1 c2 hx
    go_wp2
    generalize hW1:wr.alloc (.cells #[.int .i64 xa,.int .i64 xb] 68)=W1 at T1 l6 l7 y0 y1 k0 k1 ⊢
    clear hW1
    refine aW (aAF _ _) (by kernel_rfl) (by kernel_rfl) (by kernel_rfl) ?_
    dsimp only [List.dropLast,List.getLast]
    repeat (go_big_quiet_step (first | exact rfl |(go_at_call 78;exact fL (aP1 _ _ _))))
    refine wpQuiet_nil ?_
    intro w3 hw
    have T3:Hid (Two W w3 (ya,yb)):=T1.out.kept (aQ hw)
    clear hw y0 y1 k0 k1 d1 d2
    have z0:=aA T3.out.1 (i:=0) rfl
    have z1:=aA T3.out.1 (i:=1) rfl
    have y0:=aA T3.out.2.1 (i:=0) rfl
    have y1:=aA T3.out.2.1 (i:=1) rfl
    have fz:=fun z=>aG T3.out.1 z
    have fy:=fun z=>aG T3.out.2.1 z
    go_wp2
    go_roundw
    case rel=>exact⟨j+1,by omega,by go_num,by rw [FN.out];exact T3.out.put (min ya xa,zG yb xb)⟩
    case measure=>simp only [intOf];omega
   ·have e1:¬ (j:Int) < (xs.length:Int):=by omega
    rw [j9 (by omega)] at HY
    rw [HY.out] at hv
    have z0:=aA TT.out.1 (i:=0) rfl
    have z1:=aA TT.out.1 (i:=1) rfl
    have y0:=aA TT.out.2.1 (i:=0) rfl
    have y1:=aA TT.out.2.1 (i:=1) rfl
    have fz:=fun z=>aG TT.out.1 z
    have fy:=fun z=>aG TT.out.2.1 z
    go_wp2
    refine fC (b:=W.heap.size+1) (x:=(ya,yb)) TT.out.end.1 rfl rfl ?_
    exact⟨by rw [hv.out],TT.out.end.2⟩
 ·obtain⟨x,rfl⟩:∃ x,xs=[x]:=by
   have:=fG hnp (.inl hk)
   match xs,HLEN.out with
   | [x],_=>exact⟨x,rfl⟩
   | [],e=>rw [this] at e;simp at e
   | _ :: _ :: _,e=>rw [this] at e;simp at e
  obtain⟨gb,rfl,hg,c1,c2⟩:=HC.out 0 x rfl
  simp only [aAK,g8] at c1 c2
  have d1:=(T0.out.2.2.cell (p:=⟨gb,0,none⟩) hg).trans c1
  have d2:=(T0.out.2.2.cell (p:=⟨gb,1,none⟩) hg).trans c2
  have hg0:gb < W0.heap.size:=i6 hg T0.out.2.2.size
  have ng1:gb≠W.heap.size+1:=by omega
  have ng2:gb≠W.heap.size+1+1:=by omega
  simp only [j8,List.length_nil,g8] at s8 ⊢
  obtain⟨xa,xb⟩:=x
  simp only at d1 d2
  have hv:Hid (gZ c t.f t.ks [(xa,xb)] g=(xa,xb)):=(by unfold gZ;rw [hk];rfl)
  have e2:(t.f.k==2)=false:=by rw [hk];rfl
  have e5:(t.f.k==5)=false:=by rw [hk];rfl
  have e6:(t.f.k==6)=false:=by rw [hk];rfl
  have e7:(t.f.k==7)=true:=by rw [hk];rfl
  have e8:(t.f.k==8)=false:=by rw [hk];rfl
  have e9:(t.f.k==9)=false:=by rw [hk];rfl
  clear hk hnp
  have z0:=aA T0.out.1 (i:=0) rfl
  have z1:=aA T0.out.1 (i:=1) rfl
  have y0:=aA T0.out.2.1 (i:=0) rfl
  have y1:=aA T0.out.2.1 (i:=1) rfl
  have fz:=fun z=>aG T0.out.1 z
  have fy:=fun z=>aG T0.out.2.1 z
  go_wp2
  have T6:=T0.out.put (xa,xb)
  refine fC (b:=W.heap.size+1) (x:=(xa,xb)) T6.end.1 rfl rfl ?_
  exact⟨by rw [hv.out],T6.end.2⟩
 ·have hv:Hid (gZ c t.f t.ks xs g=g t.f.n):=(by unfold gZ;rw [hk];rfl)
  have hb:=wM hnp hk
  have hwf:(Lit.int .i64 t.f.n).wf=true:=by simp [Lit.wf,IntKind.min,IntKind.max,IntKind.signed,IntKind.bits];omega
  have HD:=aD (bO2 (g:=g) ((T0.out.2.2.block _ (aB HP.out)).trans HP.out) (HM.out.kept T0.out.2.2) t.f.n hwf)
  have e2:(t.f.k==2)=false:=by rw [hk];rfl
  have e5:(t.f.k==5)=false:=by rw [hk];rfl
  have e6:(t.f.k==6)=false:=by rw [hk];rfl
  have e7:(t.f.k==7)=false:=by rw [hk];rfl
  have e8:(t.f.k==8)=true:=by rw [hk];rfl
  have e9:(t.f.k==9)=false:=by rw [hk];rfl
  clear hk hnp hwf hb
  obtain⟨⟨xa,xb⟩,hx⟩:∃ x,g t.f.n=x:=⟨_,rfl⟩
  rw [hx] at HD hv
  simp only [enW] at HD
  clear hx
  go_wp2_with (go_at_call 73;refine HD.out.mono ?_;rintro e w5 ⟨rfl,h5⟩;have T5:Hid (Two W w5 (0,0)):=T0.out.kept h5;clear h5;have z0:=aA T5.out.1 (i:=0) rfl;have z1:=aA T5.out.1 (i:=1) rfl;have y0:=aA T5.out.2.1 (i:=0) rfl;have y1:=aA T5.out.2.1 (i:=1) rfl;have fz:=fun z=>aG T5.out.1 z;have fy:=fun z=>aG T5.out.2.1 z)
  have T6:=T5.out.put (xa,xb)
  refine fC (b:=W.heap.size+1) (x:=(xa,xb)) T6.end.1 rfl rfl ?_
  exact⟨by rw [hv.out],T6.end.2⟩
 ·obtain⟨x,rfl⟩:∃ x,xs=[x]:=by
   have:=fG hnp (.inr hk)
   match xs,HLEN.out with
   | [x],_=>exact⟨x,rfl⟩
   | [],e=>rw [this] at e;simp at e
   | _ :: _ :: _,e=>rw [this] at e;simp at e
  obtain⟨gb,rfl,hg,c1,c2⟩:=HC.out 0 x rfl
  simp only [aAK,g8] at c1 c2
  have d1:=(T0.out.2.2.cell (p:=⟨gb,0,none⟩) hg).trans c1
  have d2:=(T0.out.2.2.cell (p:=⟨gb,1,none⟩) hg).trans c2
  have hg0:gb < W0.heap.size:=i6 hg T0.out.2.2.size
  have ng1:gb≠W.heap.size+1:=by omega
  have ng2:gb≠W.heap.size+1+1:=by omega
  simp only [j8,List.length_nil,g8] at s8 ⊢
  obtain⟨xa,xb⟩:=x
  simp only at d1 d2
  have hv:Hid (gZ c t.f t.ks [(xa,xb)] g=(lst (t.f.mn * xa),jH t.f.mx xb)):=(by unfold gZ;rw [hk];rfl)
  have hgd:=HGX.out (xa,xb) (m8 ..)
  have hbd:=lT hnp hk
  have hm1:0<=t.f.mn/\t.f.mn<=255/\-1<=t.f.mx/\t.f.mx<=255:=by simp [fU] at hbd;omega
  unfold dD at hgd
  have hmul:0<=t.f.mn * xa/\t.f.mn * xa<=255 * 1000000:=⟨Int.mul_nonneg hm1.1 hgd.1.1,Int.mul_le_mul hm1.2.1 hgd.1.2 hgd.1.1 (by omega)⟩
  have P1:Hid (∀ w,Calls Tryz.prog 79 #[.int .i64 t.f.mx,.int .i64 xb] w fun e w'=>e=.returned (.int .i64 (jH t.f.mx xb))/\w'=w):=fun w=>yR _ _ w ⟨hm1.2.2.1,hm1.2.2.2⟩ ⟨hgd.2.1,hgd.2.2⟩
  have e2:(t.f.k==2)=false:=by rw [hk];rfl
  have e5:(t.f.k==5)=false:=by rw [hk];rfl
  have e6:(t.f.k==6)=false:=by rw [hk];rfl
  have e7:(t.f.k==7)=false:=by rw [hk];rfl
  have e8:(t.f.k==8)=false:=by rw [hk];rfl
  have e9:(t.f.k==9)=true:=by rw [hk];rfl
  have T1:Hid (Two W (W0.alloc (.cells #[.int .i64 xa,.int .i64 xb] 68)) (0,0)):=T0.out.kept (bz9)
  have l3:W.heap.size < (W0.alloc (.cells #[.int .i64 xa,.int .i64 xb] 68)).heap.size:=by rw [a7];omega
  have l4:W.heap.size+1+1 < (W0.alloc (.cells #[.int .i64 xa,.int .i64 xb] 68)).heap.size:=by rw [a7];omega
  have l5:W0.heap.size < (W0.alloc (.cells #[.int .i64 xa,.int .i64 xb] 68)).heap.size:=by rw [a7];omega
  have q2:(W0.alloc (.cells #[.int .i64 xa,.int .i64 xb] 68)).cell? ⟨W.heap.size,2,none⟩=some (.int .i64 t.f.mn):=aA ((Below.heap_alloc _ _ _ l0).trans S0.out) (i:=2) rfl
  have q3:(W0.alloc (.cells #[.int .i64 xa,.int .i64 xb] 68)).cell? ⟨W.heap.size,3,none⟩=some (.int .i64 t.f.mx):=aA ((Below.heap_alloc _ _ _ l0).trans S0.out) (i:=3) rfl
  have k0:(W0.alloc (.cells #[.int .i64 xa,.int .i64 xb] 68)).cell? ⟨W0.heap.size,0,none⟩=some (.int .i64 xa):=aA (aE W0 _) (i:=0) rfl
  have k1:(W0.alloc (.cells #[.int .i64 xa,.int .i64 xb] 68)).cell? ⟨W0.heap.size,1,none⟩=some (.int .i64 xb):=aA (aE W0 _) (i:=1) rfl
  clear hk hnp hbd
  go_wp2
  generalize hW1:W0.alloc (.cells #[.int .i64 xa,.int .i64 xb] 68)=W1 at T1 l3 l4 l5 q2 q3 k0 k1 ⊢
  clear hW1
  refine aW (aAF _ _) (by kernel_rfl) (by kernel_rfl) (by kernel_rfl) ?_
  dsimp only [List.dropLast,List.getLast]
  repeat (go_big_quiet_step (first | exact rfl |(go_at_call 76;exact fL (uX _ _)) |(go_at_call 79;exact fL (P1.out _))))
  refine wpQuiet_nil ?_
  intro w3 hw
  have T3:Hid (Two W w3 (0,0)):=T1.out.kept (aQ hw)
  clear hw q2 q3 k0 k1 s0 s1 s2 s3 s4 s5 s6 s7 s8 s9
  have z0:=aA T3.out.1 (i:=0) rfl
  have z1:=aA T3.out.1 (i:=1) rfl
  have y0:=aA T3.out.2.1 (i:=0) rfl
  have y1:=aA T3.out.2.1 (i:=1) rfl
  have fz:=fun z=>aG T3.out.1 z
  have fy:=fun z=>aG T3.out.2.1 z
  go_wp2
  have T6:=T3.out.put (lst (t.f.mn * xa),jH t.f.mx xb)
  refine fC (b:=W.heap.size+1) (x:=(lst (t.f.mn * xa),jH t.f.mx xb)) T6.end.1 rfl rfl ?_
  exact⟨by rw [hv.out],T6.end.2⟩
end
section
attribute [local go_sem] Oper.semAt_some
abbrev TWA:=TW 80 81 43 128 129 74 127
def enA(x:Bool × Bool):Value:=.agg #[.bool x.1,.bool x.2]
def ceA(xs:List (Bool × Bool)):List Value:=xs.flatMap fun x=>[.bool x.1,.bool x.2]
theorem xA(xs:List (Bool × Bool))(x:Bool × Bool):ceA (xs ++ [x])=ceA xs ++ [.bool x.1,.bool x.2]:=by simp [ceA]
theorem aC7:Tryz.prog.underlying 130=some (.slice 72):=by kernel_rfl
theorem bI8:Tryz.prog.underlying 127=some (.map 3 72):=by kernel_rfl
theorem bK3:(Tryz.prog.info? 72).map (fun i=>(i.zero,i.size,i.bytes))=some (some (.agg #[.bool false,.bool false]),2,2):=by kernel_rfl
def RuA(Glo:World->Prop)(NP:Tr->Prop)(Good:Bool × Bool->Prop)(ρ:dH (Bool × Bool))(c o:Bool):Prop:=
 ∀ (t:Tr) (xs:List (Bool × Bool)) (g:Int->Bool × Bool) (W:World) (v:Value) (bp bb n base:Nat),Glo W->NP t->t.ks.length<=1000000->NB W t->xs.length=t.ks.length->(∀ x∈xs,Good x)->(∀ i,Good (g i))->W.ownsRow base 72 2 v xs.length (ceA xs) ->
  W.heap[bp]?=some (.cells #[.map (some bb)] 127 (0,0))->MapV W (.agg #[.bool false,.bool false]) bb n (fun i=>enA (g i)) ->
  Calls Tryz.prog 43 #[.agg (dE t.f c o v (.func (.func 80) #[] #[bx bp]))] W fun e w'=>e=.returned (enA (ρ t.f t.ks xs g))/\Below W.heap.size W w'
def OfA(ρ:dH (Bool × Bool))(w:World)(bb n:Nat)(t:Tr)(g:Int->Bool × Bool)(e:Ending)(w':World):Prop:=
 e=.returned (enA (ev ρ g t).1)/\MapV w' (.agg #[.bool false,.bool false]) bb (n+t.sz) (fun i=>enA ((ev ρ g t).2 i))/\Fr (fun k=>k=bb) w w'
theorem aI2{R:Ending->World->Prop}{a:Act}{W:World}{b:Nat}{x:Bool × Bool}(h:W.heap[b]?=some (.cells #[.bool x.1,.bool x.2] 72 (0,0)))(ha:a.tmps[7]?.getD undef=.pointer (some ⟨b,0,none⟩))(hd:a.defers=[])(hR:R (.returned (enA x)) W):bodyPost Tryz.prog Tryz.f81 R .ret a W:=by
 refine bodyPost_ret (v:=enA x) ?_ hd hR
 have z0:=aA h (i:=0) rfl;have z1:=aA h (i:=1) rfl
 simp [results,Tryz.results81,go_sem,ha,enA,z0,z1]
structure LpA(ρ:dH (Bool × Bool))(W0 wr:World)(b s n:Nat)(t:Tr)(c o:Bool)(g:Int->Bool × Bool)(j:Nat)(v gv:Value):Prop where
 sc:wr.heap[s]?=some (.cells (dE t.f c o v gv) 132 (0,0))
 own:wr.ownsRow W0.heap.size 72 2 v j (ceA (evs ρ g (t.ks.take j)).1)
 mp:MapV wr (.agg #[.bool false,.bool false]) b (n+szs (t.ks.take j)) (fun i=>enA ((evs ρ g (t.ks.take j)).2 i))
 fr:Fr (Wr2 b s) W0 wr
theorem bP6{Glo:World->Prop}(hglo:∀ {A B:World},CK A B->Glo A->Glo B){NP:Tr->Prop}{Good:Bool × Bool->Prop}{ρ:dH (Bool × Bool)}{c o:Bool}(hr:RuA Glo NP Good ρ c o)(hwf:∀ t,NP t->t.f.k=7->(Lit.int .i64 t.f.n).wf=true)(hg:∀ t xs g,NP t->xs.length=t.ks.length->(∀ x∈xs,Good x)->(∀ i,Good (g i))->Good (ρ t.f t.ks xs g))(bm bg bo br bp bb:Nat) :
  ∀ (m:Nat) (t:Tr) (w:World) (n:Nat) (g:Int->Bool × Bool),t.sz<=m->n+t.sz<=1000000->Glo w->TB w t->bY NP t->(∀ i,Good (g i))->TWA w bm bg bo br bp bb c o->MapV w (.agg #[.bool false,.bool false]) bb n (fun i=>enA (g i)) ->
   Calls Tryz.prog 81 #[.agg #[.int .i64 t.f.k,.int .i64 t.f.n,.int .i64 t.f.mn,.int .i64 t.f.mx,.slice t.f.rq t.f.rs.length t.f.rc,.slice t.f.kq t.f.kl t.f.kc],bx bm,bx bg,bx bo,bx br,bx bp] w (OfA ρ w bb n t g):=by
 intro m
 induction m with
 | zero=>intro t w n g hm;exact absurd (eV t) (by omega)
 | succ m ih=>
  intro t w n g hm hn hgw hta hnp hgd htw hmp
  have HGW:=aD hgw
  clear hgw
  obtain⟨t0,ti,hz0,hz1,hz2⟩:=bH bK3
  have TI:Hid (Tryz.prog.info? 72=some t0/\t0.zero=some (.agg #[.bool false,.bool false])/\t0.size=2/\t0.bytes=2):=⟨ti,hz0,hz1,hz2⟩
  clear ti hz0 hz1 hz2
  have HTA:=aD hta
  have HTW:=aD htw
  obtain⟨q,cap,hkv,hk1,hk2,hk3⟩:=hta.node.k.slice
  injection hkv with hkq hkl hkc
  subst hkq
  have HKL:=aD hkl
  have HK3:=aD hk3
  have hkm:t.ks.length<=9223372036854775807:=hk1
  have hkz:=aD (show szs t.ks+1=t.sz from (jG t).symm)
  clear hkl hkc hk3 hk1
  have m0:w.cell? ⟨bm,0,none⟩=some (.bool c):=aA htw.m (i:=0) rfl
  have m1:w.cell? ⟨bm,1,none⟩=some (.bool o):=aA htw.m (i:=1) rfl
  obtain⟨gv,hgv⟩:∃ gv,Value.func (.func 80) #[] #[bx bp]=gv:=⟨_,rfl⟩
  have g0:w.cell? ⟨bg,0,none⟩=some (.func (.func 80) #[] #[bx bp]):=aA htw.g (i:=0) rfl
  have l1:=aB htw.m
  have l2:=aB htw.g
  have IH:=aD ih
  have HR:=aD hr
  have HWF:=aD hwf
  have HG:=aD hg
  have HNP:=aD hnp
  have HGD:=aD hgd
  have HMP:=aD hmp
  have HM:=aD hm
  have HN:=aD hn
  have HGV:=aD hgv
  clear ih hr hwf hg hnp hgd hmp hm hn hta htw hgv
  go_enter Tryz.func81,Tryz.ntmps81
  go_upto_region 5 with fail
  have B0:Hid (Below w.heap.size w (((w.alloc (.cells #[.int .i64 t.f.k,.int .i64 t.f.n,.int .i64 t.f.mn,.int .i64 t.f.mx,.slice t.f.rq t.f.rs.length t.f.rc,.slice t.f.kq t.f.kl t.f.kc] 25)).alloc (.cells #[.bool false,.bool false] 72)).alloc (.cells #[.int .i64 t.f.k,.int .i64 t.f.n,.int .i64 t.f.mn,.int .i64 t.f.mx,.slice t.f.rq t.f.rs.length t.f.rc,.slice t.f.kq t.f.kl t.f.kc,.bool c,.bool o,.slice none 0 0,.func (.func 80) #[] #[bx bp]] 132))):=((bz9).alloc (by simp only [a7];omega) _).alloc (by simp only [a7];omega) _
  have N0:Hid (BoxN (((w.alloc (.cells #[.int .i64 t.f.k,.int .i64 t.f.n,.int .i64 t.f.mn,.int .i64 t.f.mx,.slice t.f.rq t.f.rs.length t.f.rc,.slice t.f.kq t.f.kl t.f.kc] 25)).alloc (.cells #[.bool false,.bool false] 72)).alloc (.cells #[.int .i64 t.f.k,.int .i64 t.f.n,.int .i64 t.f.mn,.int .i64 t.f.mx,.slice t.f.rq t.f.rs.length t.f.rc,.slice t.f.kq t.f.kl t.f.kc,.bool c,.bool o,.slice none 0 0,.func (.func 80) #[] #[bx bp]] 132)) w.heap.size t.f):=(Below.heap_alloc _ _ _ (by simp only [a7];omega)).trans ((Below.heap_alloc _ _ _ (by simp only [a7];omega)).trans (aE w _))
  have R0:Hid ((((w.alloc (.cells #[.int .i64 t.f.k,.int .i64 t.f.n,.int .i64 t.f.mn,.int .i64 t.f.mx,.slice t.f.rq t.f.rs.length t.f.rc,.slice t.f.kq t.f.kl t.f.kc] 25)).alloc (.cells #[.bool false,.bool false] 72)).alloc (.cells #[.int .i64 t.f.k,.int .i64 t.f.n,.int .i64 t.f.mn,.int .i64 t.f.mx,.slice t.f.rq t.f.rs.length t.f.rc,.slice t.f.kq t.f.kl t.f.kc,.bool c,.bool o,.slice none 0 0,.func (.func 80) #[] #[bx bp]] 132)).heap[w.heap.size+1]?=some (.cells #[.bool false,.bool false] 72 (0,0))):=(by have:=aE (w.alloc (.cells #[.int .i64 t.f.k,.int .i64 t.f.n,.int .i64 t.f.mn,.int .i64 t.f.mx,.slice t.f.rq t.f.rs.length t.f.rc,.slice t.f.kq t.f.kl t.f.kc] 25)) (.cells #[.bool false,.bool false] 72);rw [a7] at this;exact(Below.heap_alloc _ _ _ (by simp)).trans this)
  have S0:Hid ((((w.alloc (.cells #[.int .i64 t.f.k,.int .i64 t.f.n,.int .i64 t.f.mn,.int .i64 t.f.mx,.slice t.f.rq t.f.rs.length t.f.rc,.slice t.f.kq t.f.kl t.f.kc] 25)).alloc (.cells #[.bool false,.bool false] 72)).alloc (.cells #[.int .i64 t.f.k,.int .i64 t.f.n,.int .i64 t.f.mn,.int .i64 t.f.mx,.slice t.f.rq t.f.rs.length t.f.rc,.slice t.f.kq t.f.kl t.f.kc,.bool c,.bool o,.slice none 0 0,.func (.func 80) #[] #[bx bp]] 132)).heap[w.heap.size+1+1]?=some (.cells (dE t.f c o (.slice none 0 0) (.func (.func 80) #[] #[bx bp])) 132 (0,0))):=(by have:=aE ((w.alloc (.cells #[.int .i64 t.f.k,.int .i64 t.f.n,.int .i64 t.f.mn,.int .i64 t.f.mx,.slice t.f.rq t.f.rs.length t.f.rc,.slice t.f.kq t.f.kl t.f.kc] 25)).alloc (.cells #[.bool false,.bool false] 72)) (.cells #[.int .i64 t.f.k,.int .i64 t.f.n,.int .i64 t.f.mn,.int .i64 t.f.mx,.slice t.f.rq t.f.rs.length t.f.rc,.slice t.f.kq t.f.kl t.f.kc,.bool c,.bool o,.slice none 0 0,.func (.func 80) #[] #[bx bp]] 132);simp only [a7] at this;exact this)
  generalize hW0:(((w.alloc (.cells #[.int .i64 t.f.k,.int .i64 t.f.n,.int .i64 t.f.mn,.int .i64 t.f.mx,.slice t.f.rq t.f.rs.length t.f.rc,.slice t.f.kq t.f.kl t.f.kc] 25)).alloc (.cells #[.bool false,.bool false] 72)).alloc (.cells #[.int .i64 t.f.k,.int .i64 t.f.n,.int .i64 t.f.mn,.int .i64 t.f.mx,.slice t.f.rq t.f.rs.length t.f.rc,.slice t.f.kq t.f.kl t.f.kc,.bool c,.bool o,.slice none 0 0,.func (.func 80) #[] #[bx bp]] 132))=W0 at B0 N0 R0 S0 ⊢
  clear hW0
  obtain⟨bs,hbs⟩:∃ bs,w.heap.size+1+1=bs:=⟨_,rfl⟩
  have HBS:Hid (w.heap.size<=bs/\bs < W0.heap.size/\bs=w.heap.size+1+1):=⟨by omega,by rw [<- hbs];exact aB S0.out,hbs.symm⟩
  rw [hbs] at S0 ⊢
  clear hbs
  have MB:Hid (∃ es clock,W0.heap[bb]?=some (.map es clock)):=aD (by obtain⟨es,cl,hb⟩:=HMP.out.block;exact⟨es,cl,(B0.out.block _ (aB hb)).trans hb⟩)
  go_loopw [19] (fun i wr=>∃ (j:Nat) (v:Value),j<=t.ks.length/\i=.int .i64 (j:Int)/\LpA ρ W0 wr bb bs n t c o g j v (.func (.func 80) #[] #[bx bp])) (fun i _=>t.ks.length - (intOf i).toNat)
  case atStart=>exact⟨0,_,m9 _,rfl,S0.out,(by rw [aAS,cX];exact⟨rfl,.inl ⟨rfl,rfl⟩⟩),(by rw [aAS,cX,fZ];exact HMP.out.kept B0.out),Fr.refl _ _⟩
  case round=>
   clear S0
   obtain⟨j,v,hj,rfl,hlp⟩:=hrel
   obtain⟨qv,cv,rfl⟩:=aZ hlp.own
   have LP:=aD hlp
   have CW:Hid (CK w wr):=fQ MB.out HBS.out.1 B0.out hlp.fr
   clear hlp
   by_cases hjl:j < t.ks.length
   ·have e0:(j:Int) < (t.f.kl:Int):=by rw [HKL.out];omega
    obtain⟨u,hu⟩:∃ u,t.ks[j]?=some u:=⟨_,g9 hjl⟩
    obtain⟨gq,off,hq,hgl,hsix⟩:=HK3.out j u hu
    rw [hq]
    obtain⟨c0,c1,c2,c3,c4,c5⟩:=hsix.ck CW.out hgl
    have HU:=aD hu
    have hin:u∈t.ks:=i9 hu
    clear hsix hu
    have SK:Hid (Fr (Wr2 bb bs) W0 (wr.alloc (.cells #[.int .i64 u.f.k,.int .i64 u.f.n,.int .i64 u.f.mn,.int .i64 u.f.mx,.slice u.f.rq u.f.rs.length u.f.rc,.slice u.f.kq u.f.kl u.f.kc] 25)).drew/\BoxN (wr.alloc (.cells #[.int .i64 u.f.k,.int .i64 u.f.n,.int .i64 u.f.mn,.int .i64 u.f.mx,.slice u.f.rq u.f.rs.length u.f.rc,.slice u.f.kq u.f.kl u.f.kc] 25)).drew wr.heap.size u.f):=⟨(LP.out.fr.alloc _).drew,aE wr _⟩
    have NE:Hid (¬ wr.heap.size=bb/\¬ bb=bs):=⟨fun e=>by have:=LP.out.mp.lt;omega,fun e=>by
     obtain⟨es,cl,hb⟩:=LP.out.mp.block
     rw [e,LP.out.sc] at hb
     cases hb⟩
    have NE3:Hid (wr.heap.size≠bs):=fun e=>by have:=aB LP.out.sc;omega
    have CB:Hid ((wr.alloc (.cells #[.int .i64 u.f.k,.int .i64 u.f.n,.int .i64 u.f.mn,.int .i64 u.f.mx,.slice u.f.rq u.f.rs.length u.f.rc,.slice u.f.kq u.f.kl u.f.kc] 25)).drew.heap[bs]?=some (.cells (dE t.f c o (.slice qv j cv) (.func (.func 80) #[] #[bx bp])) 132 (0,0))):=(Below.heap_alloc wr _ _ (aB LP.out.sc)).trans LP.out.sc
    have k8:(wr.alloc (.cells #[.int .i64 u.f.k,.int .i64 u.f.n,.int .i64 u.f.mn,.int .i64 u.f.mx,.slice u.f.rq u.f.rs.length u.f.rc,.slice u.f.kq u.f.kl u.f.kc] 25)).drew.cell? ⟨bs,8,none⟩=some (.slice qv j cv):=aA CB.out (i:=8) rfl
    have QC:Hid (∀ w',(Fr (Wr2 bb bs) W0 w'/\BoxN w' wr.heap.size u.f)->w'.cell? ⟨bo,0,none⟩=some (.func (.func 81) #[] #[bx bm,bx bg,bx bo,bx br,bx bp])/\w'.cell? ⟨wr.heap.size,0,none⟩=some (.int .i64 u.f.k)/\w'.cell? ⟨wr.heap.size,1,none⟩=some (.int .i64 u.f.n)/\w'.cell? ⟨wr.heap.size,2,none⟩=some (.int .i64 u.f.mn)/\w'.cell? ⟨wr.heap.size,3,none⟩=some (.int .i64 u.f.mx)/\w'.cell? ⟨wr.heap.size,4,none⟩=some (.slice u.f.rq u.f.rs.length u.f.rc)/\w'.cell? ⟨wr.heap.size,5,none⟩=some (.slice u.f.kq u.f.kl u.f.kc)):=fun w' hS=>by
     have six:=hS.2.six
     simp only [Six,g8] at six
     exact⟨aA (HTW.out.ck (fQ MB.out HBS.out.1 B0.out hS.1)).o (i:=0) rfl,six⟩
    have MK:Hid (MapV (wr.alloc (.cells #[.int .i64 u.f.k,.int .i64 u.f.n,.int .i64 u.f.mn,.int .i64 u.f.mx,.slice u.f.rq u.f.rs.length u.f.rc,.slice u.f.kq u.f.kl u.f.kc] 25)).drew (.agg #[.bool false,.bool false]) bb (n+szs (t.ks.take j)) (fun i=>enA ((evs ρ g (t.ks.take j)).2 i))):=LP.out.mp.kept ((bz9).drew)
    have OK:Hid ((wr.alloc (.cells #[.int .i64 u.f.k,.int .i64 u.f.n,.int .i64 u.f.mn,.int .i64 u.f.mx,.slice u.f.rq u.f.rs.length u.f.rc,.slice u.f.kq u.f.kl u.f.kc] 25)).drew.ownsRow W0.heap.size 72 2 (.slice qv j cv) j (ceA (evs ρ g (t.ks.take j)).1)):=aBO (l9 LP.out.own _)
    have CK2:Hid (CK w (wr.alloc (.cells #[.int .i64 u.f.k,.int .i64 u.f.n,.int .i64 u.f.mn,.int .i64 u.f.mx,.slice u.f.rq u.f.rs.length u.f.rc,.slice u.f.kq u.f.kl u.f.kc] 25)).drew):=fQ MB.out HBS.out.1 B0.out SK.out.1
    have LJ:=aD (show j<=1000000 by have:=eM t.ks;have:=hkz.out;have:=HN.out;omega)
    have IH0:=IH.out u (wr.alloc (.cells #[.int .i64 u.f.k,.int .i64 u.f.n,.int .i64 u.f.mn,.int .i64 u.f.mx,.slice u.f.rq u.f.rs.length u.f.rc,.slice u.f.kq u.f.kl u.f.kc] 25)).drew (n+szs (t.ks.take j)) (evs ρ g (t.ks.take j)).2 (by have:=dM hin;have:=HM.out;omega)
     (by have:=pP t.ks (j+1);rw [cC HU.out] at this;have:=hkz.out;have:=HN.out;omega) (hglo CK2.out HGW.out) ((HTA.out.ck CK2.out).kid hin) (bI HNP.out hin)
     (eY HG.out (t.ks.take j) g (fun u hu=>bI HNP.out (aAU hu)) HGD.out).2 (HTW.out.ck CK2.out) MK.out
    obtain⟨x5,hx5⟩:∃ x,(ev ρ (evs ρ g (t.ks.take j)).2 u).1=x:=⟨_,rfl⟩
    have IHU:Hid (Calls Tryz.prog 81 #[.agg #[.int .i64 u.f.k,.int .i64 u.f.n,.int .i64 u.f.mn,.int .i64 u.f.mx,.slice u.f.rq u.f.rs.length u.f.rc,.slice u.f.kq u.f.kl u.f.kc],bx bm,bx bg,bx bo,bx br,bx bp] (wr.alloc (.cells #[.int .i64 u.f.k,.int .i64 u.f.n,.int .i64 u.f.mn,.int .i64 u.f.mx,.slice u.f.rq u.f.rs.length u.f.rc,.slice u.f.kq u.f.kl u.f.kc] 25)).drew (fun e w'=>e=.returned (.agg #[.bool x5.1,.bool x5.2])/\MapV w' (.agg #[.bool false,.bool false]) bb (n+szs (t.ks.take j)+u.sz) (fun i=>enA ((ev ρ (evs ρ g (t.ks.take j)).2 u).2 i))/\Fr (fun k=>k=bb) (wr.alloc (.cells #[.int .i64 u.f.k,.int .i64 u.f.n,.int .i64 u.f.mn,.int .i64 u.f.mx,.slice u.f.rq u.f.rs.length u.f.rc,.slice u.f.kq u.f.kl u.f.kc] 25)).drew w')):=aD (by subst hx5;exact IH0)
    have HX5:=aD hx5
    clear hin IH0 hx5
    go_wp2
    refine wp_region_held_drew (S:=fun w'=>Fr (Wr2 bb bs) W0 w'/\BoxN w' wr.heap.size u.f) (by kernel_rfl) SK.out (fun hHeld=>?_)
    refine aCD (v:=?_) 0 ?_ ?_
    rotate_left
    ·intro wz hSw;obtain⟨q0,q1,q2,q3,q4,q5,q6⟩:=QC.out wz hSw;clear hSw;go_simp;try with_reducible rfl
    dsimp only [Act.put,f4,b6,b7]
    simp only [a8,g4,g3]
    refine aCD (v:=?_) 2 ?_ ?_
    rotate_left
    ·intro wz hSw;obtain⟨q0,q1,q2,q3,q4,q5,q6⟩:=QC.out wz hSw;clear hSw;go_simp;try with_reducible rfl
    dsimp only [Act.put,f4,b6,b7]
    simp only [a8,g4,g3]
    refine aCD (v:=?_) 3 ?_ ?_
    rotate_left
    ·intro wz hSw;obtain⟨q0,q1,q2,q3,q4,q5,q6⟩:=QC.out wz hSw;clear hSw;go_simp;try with_reducible rfl
    dsimp only [Act.put,f4,b6,b7]
    simp only [a8,g4,g3]
    refine wpAnyH_ready (rs:=[1,4]) (by kernel_rfl) (by simp) ?_
    refine AllReadyH.cons rfl (fun K hK=>?_) (AllReadyH.cons rfl (fun K hK=>?_) AllReadyH.nil)
    ·go_simp
     refine hK.out _ _ SK.out (fun hHeld1=>?_)
     clear hK K
     refine wpAnyH_ready (rs:=[4]) (by kernel_rfl) (by simp) ?_
     refine AllReadyH.cons rfl (fun K hK=>?_) AllReadyH.nil
     go_simp
     go_at_call 81
     refine IHU.out.mono ?_
     rintro e w5 ⟨rfl,hm5,hf5⟩
     have M5:=aD hm5
     have F5:=aD hf5
     clear hm5 hf5
     have S5:Hid (Fr (Wr2 bb bs) W0 w5/\BoxN w5 wr.heap.size u.f):=⟨SK.out.1.trans (F5.out.mono (fun k e=>.inl e)),(F5.out.block _ (aB SK.out.2) (fun e=>NE.out.1 e)).trans SK.out.2⟩
     refine hK.out _ _ S5.out (fun hHeld2=>?_)
     clear hK K
     refine wpAnyH_ready (rs:=[5]) (by kernel_rfl) (by simp) ?_
     refine AllReadyH.cons rfl (fun K hK=>?_) AllReadyH.nil
     go_simp
     have S6:Hid (Fr (Wr2 bb bs) W0 (w5.alloc (.cells #[.bool x5.1,.bool x5.2] 72))/\BoxN (w5.alloc (.cells #[.bool x5.1,.bool x5.2] 72)) wr.heap.size u.f):=⟨S5.out.1.alloc _,(Below.heap_alloc _ _ _ (aB S5.out.2)).trans S5.out.2⟩
     refine hK.out _ _ S6.out (fun hHeld3=>?_)
     clear hK K
     refine wpAnyH_ready (rs:=[6]) (by kernel_rfl) (by simp) ?_
     refine AllReadyH.cons rfl (fun K hK=>?_) AllReadyH.nil
     have O6:Hid ((w5.alloc (.cells #[.bool x5.1,.bool x5.2] 72)).ownsRow W0.heap.size 72 2 (.slice qv j cv) j (ceA (evs ρ g (t.ks.take j)).1)):=l9 (aM OK.out F5.out (fun k e z=>bS OK.out MK.out.block (z ▸ e))) _
     refine bF rfl _ _ 130 rfl W0.heap.size 72 t0 (.agg #[.bool false,.bool false]) 2 2 aC7 TI.out.1 TI.out.2.1 TI.out.2.2.1 TI.out.2.2.2 rfl (by decide) (.slice qv j cv) j (ceA (evs ρ g (t.ks.take j)).1) (by simp [Act.eval]) O6.out ⟨w5.heap.size,0,none⟩ 1 1 [.bool x5.1,.bool x5.2] (by simp [Act.eval]) rfl (cR w5 [.bool x5.1,.bool x5.2] _) (by simp [Value.oneCell']) (by have:=LJ.out;unfold maxLen;omega) (by have:=LJ.out;omega) (i8 S5.out.1.size (by simp only [a7];omega)) ?_
     intro v' w6 hown' hgrow hblk
     obtain⟨g6,cap6,rfl⟩:=aL hown' (aAC _)
     have O7:=aD hown'
     have G6:=aD hgrow
     clear hown' hgrow hblk
     have S7:Hid (Fr (Wr2 bb bs) W0 w6/\BoxN w6 wr.heap.size u.f):=⟨S6.out.1.grownNew G6.out (fun k e=>(aH O6.out e).1),(G6.out.block _ (aB S6.out.2) (fun e=>by
      have:=(aH LP.out.own e.symm).2.1
      omega)).trans S6.out.2⟩
     have C7:Hid (w6.heap[bs]?=some (.cells (dE t.f c o (.slice qv j cv) (.func (.func 80) #[] #[bx bp])) 132 (0,0))):=(by
      have e5:=(F5.out.block _ (aB CB.out) (fun e=>NE.out.2 e.symm)).trans CB.out
      have e6:=(Below.heap_alloc w5 (.cells #[.bool x5.1,.bool x5.2] 72) _ (aB e5)).trans e5
      exact(G6.out.block _ (aB e6) (fun e=>aP O6.out e6 (by decide) e.symm)).trans e6)
     have M7:Hid (MapV w6 (.agg #[.bool false,.bool false]) bb (n+szs (t.ks.take j)+u.sz) (fun i=>enA ((ev ρ (evs ρ g (t.ks.take j)).2 u).2 i))):=(by
      have m6:=M5.out.kept ((Below.refl _ _).alloc lz9 (.cells #[.bool x5.1,.bool x5.2] 72))
      exact m6.same (G6.out.block _ m6.lt (fun e=>bS O6.out m6.block e.symm)))
     refine hK.out _ _ S7.out (fun hHeld4=>?_)
     clear hK K
     refine aCD (v:=?_) 7 ?_ ?_
     rotate_left
     ·intro wz hSw;obtain⟨q0,q1,q2,q3,q4,q5,q6⟩:=QC.out wz hSw;clear hSw;go_simp;try with_reducible rfl
     dsimp only [Act.put,f4,b6,b7]
     simp only [a8,g4,g3]
     refine wpAnyH_ready (rs:=[8]) (by kernel_rfl) (by simp) ?_
     refine AllReadyH.cons rfl (fun K hK=>?_) AllReadyH.nil
     have k7:w6.cell? ⟨bs,8,none⟩=some (.slice qv j cv):=aA C7.out (i:=8) rfl
     have fz:=aG C7.out 8
     go_simp
     have S8:Hid (Fr (Wr2 bb bs) W0 (w6.setCell ⟨bs,8,none⟩ (.slice (some ⟨g6,0,none⟩) (j+1) cap6))/\BoxN (w6.setCell ⟨bs,8,none⟩ (.slice (some ⟨g6,0,none⟩) (j+1) cap6)) wr.heap.size u.f):=⟨S7.out.1.setCell (p:=⟨bs,8,none⟩) (.inr rfl) _,(Below.heap_setCell _ _ _ _ (fun e=>NE3.out e)).trans S7.out.2⟩
     refine hK.out _ _ S8.out (fun hHeld5=>?_)
     clear hK K
     refine wpAnyH_done (by kernel_rfl) ?_ _
     have LQ:Hid (LpA ρ W0 (w6.setCell ⟨bs,8,none⟩ (.slice (some ⟨g6,0,none⟩) (j+1) cap6)) bb bs n t c o g (j+1) (.slice (some ⟨g6,0,none⟩) (j+1) cap6) (.func (.func 80) #[] #[bx bp])):=by
      obtain⟨ea,eb⟩:=dJ (ρ:=ρ) HU.out g
      refine⟨aO C7.out 8 _,?_,?_,S8.out.1⟩
      ·rw [ea,xA,HX5.out]
       exact aM O7.out ((Fr.refl (fun k=>k=bs) w6).setCell (p:=⟨bs,8,none⟩) rfl _) (fun k e z=>aP O7.out C7.out (by decide) (z ▸ e))
      ·rw [eb,cC HU.out,<- aAI]
       exact M7.out.fr ((Fr.refl (fun k=>k=bs) w6).setCell (p:=⟨bs,8,none⟩) rfl _) (fun e=>by
        obtain⟨es,cl,hb⟩:=M7.out.block
        rw [e,C7.out] at hb
        cases hb)
     clear k7 fz
     go_wp2
     go_roundw
     case rel=>exact⟨j+1,_,by omega,by go_num,LQ.out⟩
     case measure=>simp only [intOf];omega
    ·go_simp
     go_at_call 81
     refine IHU.out.mono ?_
     rintro e w5 ⟨rfl,hm5,hf5⟩
     have M5:=aD hm5
     have F5:=aD hf5
     clear hm5 hf5
     have S5:Hid (Fr (Wr2 bb bs) W0 w5/\BoxN w5 wr.heap.size u.f):=⟨SK.out.1.trans (F5.out.mono (fun k e=>.inl e)),(F5.out.block _ (aB SK.out.2) (fun e=>NE.out.1 e)).trans SK.out.2⟩
     refine hK.out _ _ S5.out (fun hHeld1=>?_)
     clear hK K
     refine wpAnyH_ready (rs:=[1,5]) (by kernel_rfl) (by simp) ?_
     refine AllReadyH.cons rfl (fun K hK=>?_) (AllReadyH.cons rfl (fun K hK=>?_) AllReadyH.nil)
     ·have k9:w5.cell? ⟨bs,8,none⟩=some (.slice qv j cv):=aA ((F5.out.block _ (aB CB.out) (fun e=>NE.out.2 e.symm)).trans CB.out) (i:=8) rfl
      go_simp
      refine hK.out _ _ S5.out (fun hHeld2=>?_)
      clear hK K
      refine wpAnyH_ready (rs:=[5]) (by kernel_rfl) (by simp) ?_
      refine AllReadyH.cons rfl (fun K hK=>?_) AllReadyH.nil
      go_simp
      have S6:Hid (Fr (Wr2 bb bs) W0 (w5.alloc (.cells #[.bool x5.1,.bool x5.2] 72))/\BoxN (w5.alloc (.cells #[.bool x5.1,.bool x5.2] 72)) wr.heap.size u.f):=⟨S5.out.1.alloc _,(Below.heap_alloc _ _ _ (aB S5.out.2)).trans S5.out.2⟩
      refine hK.out _ _ S6.out (fun hHeld3=>?_)
      clear hK K
      refine wpAnyH_ready (rs:=[6]) (by kernel_rfl) (by simp) ?_
      refine AllReadyH.cons rfl (fun K hK=>?_) AllReadyH.nil
      have O6:Hid ((w5.alloc (.cells #[.bool x5.1,.bool x5.2] 72)).ownsRow W0.heap.size 72 2 (.slice qv j cv) j (ceA (evs ρ g (t.ks.take j)).1)):=l9 (aM OK.out F5.out (fun k e z=>bS OK.out MK.out.block (z ▸ e))) _
      refine bF rfl _ _ 130 rfl W0.heap.size 72 t0 (.agg #[.bool false,.bool false]) 2 2 aC7 TI.out.1 TI.out.2.1 TI.out.2.2.1 TI.out.2.2.2 rfl (by decide) (.slice qv j cv) j (ceA (evs ρ g (t.ks.take j)).1) (by simp [Act.eval]) O6.out ⟨w5.heap.size,0,none⟩ 1 1 [.bool x5.1,.bool x5.2] (by simp [Act.eval]) rfl (cR w5 [.bool x5.1,.bool x5.2] _) (by simp [Value.oneCell']) (by have:=LJ.out;unfold maxLen;omega) (by have:=LJ.out;omega) (i8 S5.out.1.size (by simp only [a7];omega)) ?_
      intro v' w6 hown' hgrow hblk
      obtain⟨g6,cap6,rfl⟩:=aL hown' (aAC _)
      have O7:=aD hown'
      have G6:=aD hgrow
      clear hown' hgrow hblk
      have S7:Hid (Fr (Wr2 bb bs) W0 w6/\BoxN w6 wr.heap.size u.f):=⟨S6.out.1.grownNew G6.out (fun k e=>(aH O6.out e).1),(G6.out.block _ (aB S6.out.2) (fun e=>by
       have:=(aH LP.out.own e.symm).2.1
       omega)).trans S6.out.2⟩
      have C7:Hid (w6.heap[bs]?=some (.cells (dE t.f c o (.slice qv j cv) (.func (.func 80) #[] #[bx bp])) 132 (0,0))):=(by
       have e5:=(F5.out.block _ (aB CB.out) (fun e=>NE.out.2 e.symm)).trans CB.out
       have e6:=(Below.heap_alloc w5 (.cells #[.bool x5.1,.bool x5.2] 72) _ (aB e5)).trans e5
       exact(G6.out.block _ (aB e6) (fun e=>aP O6.out e6 (by decide) e.symm)).trans e6)
      have M7:Hid (MapV w6 (.agg #[.bool false,.bool false]) bb (n+szs (t.ks.take j)+u.sz) (fun i=>enA ((ev ρ (evs ρ g (t.ks.take j)).2 u).2 i))):=(by
       have m6:=M5.out.kept ((Below.refl _ _).alloc lz9 (.cells #[.bool x5.1,.bool x5.2] 72))
       exact m6.same (G6.out.block _ m6.lt (fun e=>bS O6.out m6.block e.symm)))
      refine hK.out _ _ S7.out (fun hHeld4=>?_)
      clear hK K
      refine aCD (v:=?_) 7 ?_ ?_
      rotate_left
      ·intro wz hSw;obtain⟨q0,q1,q2,q3,q4,q5,q6⟩:=QC.out wz hSw;clear hSw;go_simp;try with_reducible rfl
      dsimp only [Act.put,f4,b6,b7]
      simp only [a8,g4,g3]
      refine wpAnyH_ready (rs:=[8]) (by kernel_rfl) (by simp) ?_
      refine AllReadyH.cons rfl (fun K hK=>?_) AllReadyH.nil
      have k7:w6.cell? ⟨bs,8,none⟩=some (.slice qv j cv):=aA C7.out (i:=8) rfl
      have fz:=aG C7.out 8
      go_simp
      have S8:Hid (Fr (Wr2 bb bs) W0 (w6.setCell ⟨bs,8,none⟩ (.slice (some ⟨g6,0,none⟩) (j+1) cap6))/\BoxN (w6.setCell ⟨bs,8,none⟩ (.slice (some ⟨g6,0,none⟩) (j+1) cap6)) wr.heap.size u.f):=⟨S7.out.1.setCell (p:=⟨bs,8,none⟩) (.inr rfl) _,(Below.heap_setCell _ _ _ _ (fun e=>NE3.out e)).trans S7.out.2⟩
      refine hK.out _ _ S8.out (fun hHeld5=>?_)
      clear hK K
      refine wpAnyH_done (by kernel_rfl) ?_ _
      have LQ:Hid (LpA ρ W0 (w6.setCell ⟨bs,8,none⟩ (.slice (some ⟨g6,0,none⟩) (j+1) cap6)) bb bs n t c o g (j+1) (.slice (some ⟨g6,0,none⟩) (j+1) cap6) (.func (.func 80) #[] #[bx bp])):=by
       obtain⟨ea,eb⟩:=dJ (ρ:=ρ) HU.out g
       refine⟨aO C7.out 8 _,?_,?_,S8.out.1⟩
       ·rw [ea,xA,HX5.out]
        exact aM O7.out ((Fr.refl (fun k=>k=bs) w6).setCell (p:=⟨bs,8,none⟩) rfl _) (fun k e z=>aP O7.out C7.out (by decide) (z ▸ e))
       ·rw [eb,cC HU.out,<- aAI]
        exact M7.out.fr ((Fr.refl (fun k=>k=bs) w6).setCell (p:=⟨bs,8,none⟩) rfl _) (fun e=>by
         obtain⟨es,cl,hb⟩:=M7.out.block
         rw [e,C7.out] at hb
         cases hb)
      clear k7 fz
      go_wp2
      go_roundw
      case rel=>exact⟨j+1,_,by omega,by go_num,LQ.out⟩
      case measure=>simp only [intOf];omega
     ·go_simp
      have S6:Hid (Fr (Wr2 bb bs) W0 (w5.alloc (.cells #[.bool x5.1,.bool x5.2] 72))/\BoxN (w5.alloc (.cells #[.bool x5.1,.bool x5.2] 72)) wr.heap.size u.f):=⟨S5.out.1.alloc _,(Below.heap_alloc _ _ _ (aB S5.out.2)).trans S5.out.2⟩
      refine hK.out _ _ S6.out (fun hHeld2=>?_)
      clear hK K
      refine wpAnyH_ready (rs:=[1]) (by kernel_rfl) (by simp) ?_
      refine AllReadyH.cons rfl (fun K hK=>?_) AllReadyH.nil
      have k9:(w5.alloc (.cells #[.bool x5.1,.bool x5.2] 72)).cell? ⟨bs,8,none⟩=some (.slice qv j cv):=(by have e5:=(F5.out.block _ (aB CB.out) (fun e=>NE.out.2 e.symm)).trans CB.out;exact aA ((Below.heap_alloc w5 (.cells #[.bool x5.1,.bool x5.2] 72) _ (aB e5)).trans e5) (i:=8) rfl)
      go_simp
      refine hK.out _ _ S6.out (fun hHeld3=>?_)
      clear hK K
      refine wpAnyH_ready (rs:=[6]) (by kernel_rfl) (by simp) ?_
      refine AllReadyH.cons rfl (fun K hK=>?_) AllReadyH.nil
      have O6:Hid ((w5.alloc (.cells #[.bool x5.1,.bool x5.2] 72)).ownsRow W0.heap.size 72 2 (.slice qv j cv) j (ceA (evs ρ g (t.ks.take j)).1)):=l9 (aM OK.out F5.out (fun k e z=>bS OK.out MK.out.block (z ▸ e))) _
      refine bF rfl _ _ 130 rfl W0.heap.size 72 t0 (.agg #[.bool false,.bool false]) 2 2 aC7 TI.out.1 TI.out.2.1 TI.out.2.2.1 TI.out.2.2.2 rfl (by decide) (.slice qv j cv) j (ceA (evs ρ g (t.ks.take j)).1) (by simp [Act.eval]) O6.out ⟨w5.heap.size,0,none⟩ 1 1 [.bool x5.1,.bool x5.2] (by simp [Act.eval]) rfl (cR w5 [.bool x5.1,.bool x5.2] _) (by simp [Value.oneCell']) (by have:=LJ.out;unfold maxLen;omega) (by have:=LJ.out;omega) (i8 S5.out.1.size (by simp only [a7];omega)) ?_
      intro v' w6 hown' hgrow hblk
      obtain⟨g6,cap6,rfl⟩:=aL hown' (aAC _)
      have O7:=aD hown'
      have G6:=aD hgrow
      clear hown' hgrow hblk
      have S7:Hid (Fr (Wr2 bb bs) W0 w6/\BoxN w6 wr.heap.size u.f):=⟨S6.out.1.grownNew G6.out (fun k e=>(aH O6.out e).1),(G6.out.block _ (aB S6.out.2) (fun e=>by
       have:=(aH LP.out.own e.symm).2.1
       omega)).trans S6.out.2⟩
      have C7:Hid (w6.heap[bs]?=some (.cells (dE t.f c o (.slice qv j cv) (.func (.func 80) #[] #[bx bp])) 132 (0,0))):=(by
       have e5:=(F5.out.block _ (aB CB.out) (fun e=>NE.out.2 e.symm)).trans CB.out
       have e6:=(Below.heap_alloc w5 (.cells #[.bool x5.1,.bool x5.2] 72) _ (aB e5)).trans e5
       exact(G6.out.block _ (aB e6) (fun e=>aP O6.out e6 (by decide) e.symm)).trans e6)
      have M7:Hid (MapV w6 (.agg #[.bool false,.bool false]) bb (n+szs (t.ks.take j)+u.sz) (fun i=>enA ((ev ρ (evs ρ g (t.ks.take j)).2 u).2 i))):=(by
       have m6:=M5.out.kept ((Below.refl _ _).alloc lz9 (.cells #[.bool x5.1,.bool x5.2] 72))
       exact m6.same (G6.out.block _ m6.lt (fun e=>bS O6.out m6.block e.symm)))
      refine hK.out _ _ S7.out (fun hHeld4=>?_)
      clear hK K
      refine aCD (v:=?_) 7 ?_ ?_
      rotate_left
      ·intro wz hSw;obtain⟨q0,q1,q2,q3,q4,q5,q6⟩:=QC.out wz hSw;clear hSw;go_simp;try with_reducible rfl
      dsimp only [Act.put,f4,b6,b7]
      simp only [a8,g4,g3]
      refine wpAnyH_ready (rs:=[8]) (by kernel_rfl) (by simp) ?_
      refine AllReadyH.cons rfl (fun K hK=>?_) AllReadyH.nil
      have k7:w6.cell? ⟨bs,8,none⟩=some (.slice qv j cv):=aA C7.out (i:=8) rfl
      have fz:=aG C7.out 8
      go_simp
      have S8:Hid (Fr (Wr2 bb bs) W0 (w6.setCell ⟨bs,8,none⟩ (.slice (some ⟨g6,0,none⟩) (j+1) cap6))/\BoxN (w6.setCell ⟨bs,8,none⟩ (.slice (some ⟨g6,0,none⟩) (j+1) cap6)) wr.heap.size u.f):=⟨S7.out.1.setCell (p:=⟨bs,8,none⟩) (.inr rfl) _,(Below.heap_setCell _ _ _ _ (fun e=>NE3.out e)).trans S7.out.2⟩
      refine hK.out _ _ S8.out (fun hHeld5=>?_)
      clear hK K
      refine wpAnyH_done (by kernel_rfl) ?_ _
      have LQ:Hid (LpA ρ W0 (w6.setCell ⟨bs,8,none⟩ (.slice (some ⟨g6,0,none⟩) (j+1) cap6)) bb bs n t c o g (j+1) (.slice (some ⟨g6,0,none⟩) (j+1) cap6) (.func (.func 80) #[] #[bx bp])):=by
       obtain⟨ea,eb⟩:=dJ (ρ:=ρ) HU.out g
       refine⟨aO C7.out 8 _,?_,?_,S8.out.1⟩
       ·rw [ea,xA,HX5.out]
        exact aM O7.out ((Fr.refl (fun k=>k=bs) w6).setCell (p:=⟨bs,8,none⟩) rfl _) (fun k e z=>aP O7.out C7.out (by decide) (z ▸ e))
       ·rw [eb,cC HU.out,<- aAI]
        exact M7.out.fr ((Fr.refl (fun k=>k=bs) w6).setCell (p:=⟨bs,8,none⟩) rfl _) (fun e=>by
         obtain⟨es,cl,hb⟩:=M7.out.block
         rw [e,C7.out] at hb
         cases hb)
      clear k7 fz
      go_wp2
      go_roundw
      case rel=>exact⟨j+1,_,by omega,by go_num,LQ.out⟩
      case measure=>simp only [intOf];omega
   ·have e0:¬ (j:Int) < (t.f.kl:Int):=by rw [HKL.out];omega
    obtain rfl:j=t.ks.length:=by omega
    have hk:t.ks.take t.ks.length=t.ks:=aAQ
    have XO:=aD (hk ▸ LP.out.own)
    have XM:=aD (hk ▸ LP.out.mp)
    have r0:wr.cell? ⟨br,0,none⟩=some (.func (.func 43) #[] #[]):=aA (HTW.out.ck CW.out).r (i:=0) rfl
    have s0:wr.cell? ⟨bs,0,none⟩=some (.int .i64 t.f.k):=aA LP.out.sc (i:=0) rfl
    have s1:wr.cell? ⟨bs,1,none⟩=some (.int .i64 t.f.n):=aA LP.out.sc (i:=1) rfl
    have s2:wr.cell? ⟨bs,2,none⟩=some (.int .i64 t.f.mn):=aA LP.out.sc (i:=2) rfl
    have s3:wr.cell? ⟨bs,3,none⟩=some (.int .i64 t.f.mx):=aA LP.out.sc (i:=3) rfl
    have s4:wr.cell? ⟨bs,4,none⟩=some (.slice t.f.rq t.f.rs.length t.f.rc):=aA LP.out.sc (i:=4) rfl
    have s5:wr.cell? ⟨bs,5,none⟩=some (.slice t.f.kq t.f.kl t.f.kc):=aA LP.out.sc (i:=5) rfl
    have s6:wr.cell? ⟨bs,6,none⟩=some (.bool c):=aA LP.out.sc (i:=6) rfl
    have s7:wr.cell? ⟨bs,7,none⟩=some (.bool o):=aA LP.out.sc (i:=7) rfl
    have s8:wr.cell? ⟨bs,8,none⟩=some (.slice qv t.ks.length cv):=aA LP.out.sc (i:=8) rfl
    have s9:wr.cell? ⟨bs,9,none⟩=some (.func (.func 80) #[] #[bx bp]):=aA LP.out.sc (i:=9) rfl
    clear hk
    obtain⟨gx,gy⟩:=eY HG.out t.ks g (fun u hu=>bI HNP.out hu) HGD.out
    have hC:=HR.out t (evs ρ g t.ks).1 (evs ρ g t.ks).2 wr (.slice qv t.ks.length cv) bp bb (n+szs t.ks) W0.heap.size (hglo CW.out HGW.out) ((bE t).1 HNP.out).1 (by have:=eM t.ks;have:=hkz.out;have:=HN.out;omega) ((HTA.out.ck CW.out).node) (gJ _ _) gx gy (by rw [gJ];exact XO.out) (HTW.out.ck CW.out).p XM.out
    simp only [dE,enA] at hC
    have HC:=aD hC
    clear hC gx gy
    have BN:Hid (BoxN wr w.heap.size t.f):=(LP.out.fr.block _ (aB N0.out) (fun z=>by
     rcases z with e | e
     ·obtain⟨es,cl,hb⟩:=MB.out
      rw [<- e,show W0.heap[w.heap.size]?=_ from N0.out] at hb
      cases hb
     ·have:=HBS.out.2.2;omega)).trans N0.out
    have BR:Hid (wr.heap[w.heap.size+1]?=some (.cells #[.bool false,.bool false] 72 (0,0))):=(LP.out.fr.block _ (aB R0.out) (fun z=>by
     rcases z with e | e
     ·obtain⟨es,cl,hb⟩:=MB.out
      rw [<- e,R0.out] at hb
      cases hb
     ·have:=HBS.out.2.2;omega)).trans R0.out
    have hx:(ev ρ g t).1=ρ t.f t.ks (evs ρ g t.ks).1 (evs ρ g t.ks).2:=iV g t
    rw [<- hx] at HC
    have HS:=aD (jN (ρ:=ρ) g t)
    obtain⟨x,hxx⟩:∃ x,(ev ρ g t).1=x:=⟨_,rfl⟩
    rw [hxx] at HC HS
    have HX:=aD hxx
    clear hx hxx
    have FW:Hid (Fr (fun k=>k=bb) w wr):=sT HBS.out.1 B0.out LP.out.fr
    by_cases h7:t.f.k=7
    ·have h7b:(t.f.k==7)=true:=by simp [h7]
     have WF:Hid ((Lit.int .i64 t.f.n).wf=true):=HWF.out t ((bE t).1 HNP.out).1 h7
     rw [if_pos h7] at HS
     clear h7
     go_wp2_with first
      |(go_at_call 43;refine HC.out.mono ?_;rintro e w5 ⟨rfl,h5⟩;have B5:=aD h5;clear h5 s0 s1 s2 s3 s4 s5 s6 s7 s8 s9 r0;have N5:Hid (BoxN w5 w.heap.size t.f):=(B5.out.block _ (aB BN.out)).trans BN.out;have A5:Hid (Below w5.heap.size w5 (w5.alloc (.cells #[.bool x.1,.bool x.2] 72))):=bz9;have N6:Hid (BoxN (w5.alloc (.cells #[.bool x.1,.bool x.2] 72)) w.heap.size t.f):=(A5.out.block _ (aB N5.out)).trans N5.out;have R5:Hid ((w5.alloc (.cells #[.bool x.1,.bool x.2] 72)).heap[w.heap.size+1]?=some (.cells #[.bool false,.bool false] 72 (0,0))):=(A5.out.block _ (aB ((B5.out.block _ (aB BR.out)).trans BR.out))).trans ((B5.out.block _ (aB BR.out)).trans BR.out);have k0:(w5.alloc (.cells #[.bool x.1,.bool x.2] 72)).cell? ⟨w.heap.size,0,none⟩=some (.int .i64 t.f.k):=N6.out.six.1;have k1:(w5.alloc (.cells #[.bool x.1,.bool x.2] 72)).cell? ⟨w.heap.size,1,none⟩=some (.int .i64 t.f.n):=N6.out.six.2.1;have p0:(w5.alloc (.cells #[.bool x.1,.bool x.2] 72)).cell? ⟨bp,0,none⟩=some (.map (some bb)):=aA (((HTW.out.ck CW.out).ck (CK.of_below B5.out)).ck (CK.of_below A5.out)).p (i:=0) rfl;have z0:=aA R5.out (i:=0) rfl;have z1:=aA R5.out (i:=1) rfl;have fz:=fun z=>aG R5.out z)
      |(at_mapUpdate;refine eU _ rfl _ _ _ 127 rfl 72 bI8 (.agg #[.bool false,.bool false]) bb (n+szs t.ks) (fun i=>enA ((evs ρ g t.ks).2 i)) rfl ((XM.out.kept B5.out).kept (bz9)) (by have:=HN.out;have:=hkz.out;unfold maxLen;omega) t.f.n rfl WF.out (enA x) rfl ?_;intro w6 hm6 hg6;have M6:=aD hm6;have G6:=aD hg6;clear hm6 hg6;have C6:Hid (CK (w5.alloc (.cells #[.bool x.1,.bool x.2] 72)) w6):=wV ((XM.out.kept B5.out).kept A5.out).block ((Fr.refl _ _).grown G6.out (fun k e=>by injection e with e;exact e.symm));have R6:Hid (w6.heap[w.heap.size+1]?=some (.cells #[.bool false,.bool false] 72 (0,0))):=C6.out.same _ _ _ _ (aB R5.out) R5.out;have X6:Hid (w6.heap[w5.heap.size]?=some (.cells #[.bool x.1,.bool x.2] 72 (0,0))):=C6.out.same _ _ _ _ (aB (aE w5 _)) (aE w5 _);clear fz z0 z1;have z0:=aA R6.out (i:=0) rfl;have x0:=aA X6.out (i:=0) rfl;have z1:=aA R6.out (i:=1) rfl;have x1:=aA X6.out (i:=1) rfl;have fz:=fun z=>aG R6.out z)
     refine aI2 (b:=w.heap.size+1) (x:=x) (bA R6.out [.bool x.1,.bool x.2] rfl) rfl rfl ?_
     have F7:=aV (w.heap.size+1) [.bool x.1,.bool x.2] 0 w6
     refine⟨by rw [HX.out],?_,?_⟩
     ·rw [HS.out,<- rS,show n+t.sz=n+szs t.ks+1 by have:=hkz.out;omega]
      exact M6.out.fr F7 (fun e=>by
       obtain⟨es,cl,hb⟩:=M6.out.block
       rw [e,R6.out] at hb
       cases hb)
     ·exact lY (((FW.out.then B5.out).then (bz9)).grown G6.out (fun k e=>by injection e with e;exact e.symm)) F7 (by omega)
    ·have h7b:(t.f.k==7)=false:=by simp [h7]
     rw [if_neg h7] at HS
     clear h7
     go_wp2_with first
      |(go_at_call 43;refine HC.out.mono ?_;rintro e w5 ⟨rfl,h5⟩;have B5:=aD h5;clear h5 s0 s1 s2 s3 s4 s5 s6 s7 s8 s9 r0;have N5:Hid (BoxN w5 w.heap.size t.f):=(B5.out.block _ (aB BN.out)).trans BN.out;have A5:Hid (Below w5.heap.size w5 (w5.alloc (.cells #[.bool x.1,.bool x.2] 72))):=bz9;have N6:Hid (BoxN (w5.alloc (.cells #[.bool x.1,.bool x.2] 72)) w.heap.size t.f):=(A5.out.block _ (aB N5.out)).trans N5.out;have R5:Hid ((w5.alloc (.cells #[.bool x.1,.bool x.2] 72)).heap[w.heap.size+1]?=some (.cells #[.bool false,.bool false] 72 (0,0))):=(A5.out.block _ (aB ((B5.out.block _ (aB BR.out)).trans BR.out))).trans ((B5.out.block _ (aB BR.out)).trans BR.out);have k0:(w5.alloc (.cells #[.bool x.1,.bool x.2] 72)).cell? ⟨w.heap.size,0,none⟩=some (.int .i64 t.f.k):=N6.out.six.1;have k1:(w5.alloc (.cells #[.bool x.1,.bool x.2] 72)).cell? ⟨w.heap.size,1,none⟩=some (.int .i64 t.f.n):=N6.out.six.2.1;have p0:(w5.alloc (.cells #[.bool x.1,.bool x.2] 72)).cell? ⟨bp,0,none⟩=some (.map (some bb)):=aA (((HTW.out.ck CW.out).ck (CK.of_below B5.out)).ck (CK.of_below A5.out)).p (i:=0) rfl;have z0:=aA R5.out (i:=0) rfl;have z1:=aA R5.out (i:=1) rfl;have fz:=fun z=>aG R5.out z)
     refine aI2 (b:=w.heap.size+1) (x:=x) (bA R5.out [.bool x.1,.bool x.2] rfl) rfl rfl ?_
     have F7:=aV (w.heap.size+1) [.bool x.1,.bool x.2] 0 (w5.alloc (.cells #[.bool x.1,.bool x.2] 72))
     refine⟨by rw [HX.out],?_,?_⟩
     ·rw [HS.out]
      have M6:=((XM.out.kept B5.out).kept ((Below.refl _ _).alloc lz9 (.cells #[.bool x.1,.bool x.2] 72)))
      exact(M6.fr F7 (fun e=>by
       obtain⟨es,cl,hb⟩:=M6.block
       rw [e,R5.out] at hb
       cases hb)).mono (by have:=hkz.out;omega)
     ·exact lY ((FW.out.then B5.out).then (bz9)) F7 (by omega)
end
end Go.Proofs.YtlaimbkenbijeaaGreatDoor
