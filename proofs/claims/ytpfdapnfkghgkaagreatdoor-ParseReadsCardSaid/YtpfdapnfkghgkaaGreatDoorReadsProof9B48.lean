/-
  Parts of the proof.
-/
import Derived.Test.YtpfdapnfkghgkaaGreatDoorReadsProof9B45
import Derived.Test.YtpfdapnfkghgkaaGreatDoorReadsProof9B47
import Derived.Test.YtpfdapnfkghgkaaGreatDoorReadsProof9B46
import Derived.Test.YtpfdapnfkghgkaaGreatDoorReadsProof9B13
set_option maxRecDepth 100000
set_option maxHeartbeats 8000000
namespace Go.Proofs.YtpfdapnfkghgkaaGreatDoor
open Go Go.RowKit
section
attribute [local go_sem] aR
section
variable {base:Nat} {w:World} {b:Nat} {s:ByteArray} {m:Md} {p:Nat} {v:Value} {D:List Dt} {last:Nat}
theorem aK4(h:Room base w b s m p v D)(hk:LK w b v last){n:Nat}(hu:un m s p=(91,n)) :
  Calls Tryz.prog 71 #[.pointer (some ⟨b,0,none⟩)] w (Puts base w b s m p D (brk m s p)):=by
 have hs:=h.len
 have hp:=h.at_
 have c0:=h.sx.c0
 have c1:=h.sx.c1
 have c3:=h.sx.c3
 have lb:=h.sx.lt
 have bs:=h.size
 obtain⟨P1,hP1⟩:∃ P1,P1=p+1:=⟨_,rfl⟩
 have hw1:IntKind.wrap .i64 ((p:Int)+1)=(P1:Int):=by rw [wrap_small _ (by omega) (by omega)];omega
 obtain⟨CL,hCL⟩:∃ CL,CL=aJ s P1 [92,41]:=⟨_,rfl⟩
 obtain⟨OR,hOR⟩:∃ OR,OR=aJ s P1 [92,124]:=⟨_,rfl⟩
 obtain⟨EN,hEN⟩:∃ EN,EN=decide (P1=s.size):=⟨_,rfl⟩
 have dEN:((P1:Int)==(s.size:Int))=EN:=by rw [hEN,Bool.eq_iff_iff];simp;omega
 have CC:Hid (∀ W,SX W b s m p v 0 0->_):=aC (fD hs P1 (by omega) 92 41 hCL)
 have CO:Hid (∀ W,SX W b s m p v 0 0->_):=aC (fD hs P1 (by omega) 92 124 hOR)
 have hU:∀ W,Calls Tryz.prog 93 #[.string s,.int .i64 (p:Int),.bool m.c] W fun e w'=>e=.returned (.tuple #[.int .i64 91,.int .i64 ((n:Nat):Int)])/\Below W.heap.size W w':=fun W=>by
  have:=dB s p m W hp hs
  rw [hu] at this
  exact this
 have H:Hid (Room base w b s m p v D/\LK w b v last):=⟨h,hk⟩
 clear h hk hP1 hCL hOR hEN hu
 go_enter Tryz.func71,Tryz.ntmps71
 go_wp2
 refine wx9 ?_
 repeat (go_big_quiet_step (first | exact rfl |(go_at_call 93;exact bI (hU _))))
 refine wpQuiet_nil ?_
 intro w5 hw5
 have X5:Hid (Room base w5 b s m p v D/\LK w5 b v last/\Below base w w5):=⟨H.out.1.kept (aD hw5),H.out.2.kept (aD hw5),(aD hw5).mono bs⟩
 clear hw5
 go_wp2_with first
  |(go_at_call 94;(with_reducible refine(bG X5.out.1.sx X5.out.2.1).mono ?_);rintro e w6 ⟨rfl,h6⟩;have X6:Hid (Room base w6 b s m p v D/\LK w6 b v last/\Below base w w6):=⟨X5.out.1.kept h6,X5.out.2.1.kept h6,X5.out.2.2.trans (h6.mono X5.out.1.size)⟩;clear h6)
  |(go_at_call 95;(with_reducible refine(dN X6.out.1.sx X6.out.2.1).mono ?_);rintro e w7 ⟨rfl,h6⟩;have X7:Hid (Room base w7 b s m p v D/\LK w7 b v last/\Below base w w7):=⟨X6.out.1.kept h6,X6.out.2.1.kept h6,X6.out.2.2.trans (h6.mono X6.out.1.size)⟩;have q0:=X7.out.1.sx.c0;have q3:=X7.out.1.sx.c3;have ql:=X7.out.1.sx.lt;clear h6)
 refine wx9 ?_
 repeat (go_big_quiet_step (first | exact rfl))
 refine wpQuiet_nil ?_
 intro w8 hw8
 have X8:Hid (Room base w8 b s m p v D/\LK w8 b v last/\Below base w w8):=⟨X7.out.1.kept (aD hw8),X7.out.2.1.kept (aD hw8),X7.out.2.2.trans ((aD hw8).mono X7.out.1.size)⟩
 have r3:=X8.out.1.sx.c3
 have rl:=X8.out.1.sx.lt
 clear hw8
 go_wp2_with first
  |(go_at_call 96;(with_reducible refine(CC.out _ X8.out.1.sx).mono ?_);rintro e w9 ⟨rfl,h6⟩;have X9:Hid (Room base w9 b s m p v D/\LK w9 b v last/\Below base w w9):=⟨X8.out.1.kept h6,X8.out.2.1.kept h6,X8.out.2.2.trans (h6.mono X8.out.1.size)⟩;have s3:=X9.out.1.sx.c3;have sl:=X9.out.1.sx.lt;clear h6)
  |(go_at_call 96;(with_reducible refine(CO.out _ X9.out.1.sx).mono ?_);rintro e w10 ⟨rfl,h6⟩;have X10:Hid (Room base w10 b s m p v D/\LK w10 b v last/\Below base w w10):=⟨X9.out.1.kept h6,X9.out.2.1.kept h6,X9.out.2.2.trans (h6.mono X9.out.1.size)⟩;have t3:=X10.out.1.sx.c3;have t1:=X10.out.1.sx.c1;have tl:=X10.out.1.sx.lt;clear h6)
  |(go_at_call 99;(with_reducible refine(xU X10.out.1).mono ?_);rintro e w11 h9;have hz:=h9.1;subst hz;have X11:Hid (Puts base w b s m p D (brk m s p) (.returned (.tuple #[])) w11):=h9.from X10.out.2.2;clear h9)
 go_end0
 exact X11.out
theorem aK0(h:Room base w b s m p v D)(hk:LK w b v last)(h0:last=0 ↔ p=0) :
  Calls Tryz.prog 71 #[.pointer (some ⟨b,0,none⟩)] w (Puts base w b s m p D (tok m s p last)):=by
 have hp:=h.at_
 cases hu:un m s p with
 | mk c n=>
  have hop:(p==0 || last==3 || last==5)=opn last:=by
   unfold opn
   congr 2
   rw [Bool.eq_iff_iff]
   simp only [beq_iff_eq]
   exact h0.symm
  rw [bC7 hp hu,hop]
  by_cases e92:c=92
  ·subst e92
   rw [if_pos rfl]
   exact aK2 h hk hu
  rw [if_neg e92]
  by_cases e42:c=42
  ·subst e42
   cases hbg:cS last with
   | false=>
    rw [if_pos ⟨rfl,rfl⟩]
    exact aD2 h hk hu hbg
   | true=>
    simp only [Int.reduceEq,false_and,and_false,if_false,Bool.true_eq_false,Int.reduceLT]
    exact xI h hk hu hbg
  rw [if_neg (fun q=>e42 q.1)]
  by_cases e94:c=94
  ·subst e94
   cases hbg:opn last with
   | true=>
    rw [if_pos ⟨rfl,rfl⟩]
    exact aK5 h hk hu hbg
   | false=>
    simp only [Int.reduceEq,false_and,and_false,if_false,Bool.false_eq_true,Int.reduceLT]
    exact xH h hk hu hbg
  rw [if_neg (fun q=>e94 q.1)]
  by_cases e36:c=36
  ·subst e36
   cases hbg:iU s p with
   | true=>
    rw [if_pos ⟨rfl,rfl⟩]
    unfold iU at hbg
    by_cases g1:p+1=s.size
    ·exact aD5 h hk hu g1
    ·cases g2:aJ s (p+1) [92,41] with
     | true=>exact aD4 h hk hu g1 g2
     | false=>exact aD3 h hk hu g1 g2 (by rw [g2] at hbg;simpa [g1] using hbg)
   | false=>
    simp only [Int.reduceEq,and_false,if_false,Bool.false_eq_true,Int.reduceLT]
    exact xJ h hk hu hbg
  rw [if_neg (fun q=>e36 q.1)]
  by_cases e46:c=46
  ·subst e46
   rw [if_pos rfl]
   exact aK6 h hk hu
  rw [if_neg e46]
  by_cases e91:c=91
  ·subst e91
   rw [if_pos rfl]
   exact aK4 h hk hu
  rw [if_neg e91]
  by_cases hc:c < 0
  ·rw [if_pos hc]
   exact aK1 h hk hu hc
  ·rw [if_neg hc]
   exact aK3 h hk hu hc ⟨e92,e91,e46,e42,e94,e36⟩
end
end
section
attribute [local go_sem] aR
theorem xL{w:World}(s:ByteArray)(m:Md)(hs:s.size<=2000) :
  Calls Tryz.prog 39 #[.string s,.agg #[.bool m.c,.bool m.f]] w (zE w (lx m s (s.size+1) 0 [])):=by
 have d0:¬ (2000:Int) < (s.size:Int):=by omega
 obtain⟨RES,hRES⟩:∃ RES,lx m s (s.size+1) 0 []=RES:=⟨_,rfl⟩
 rw [hRES]
 have HRES:Hid (lx m s (s.size+1) 0 []=RES):=hRES
 clear hRES
 go_enter Tryz.func39,Tryz.ntmps39
 go_wp2
 go_loopw [29] (fun _ wr=>LxR w (w.heap.size+1) s m RES wr) (fun _ wr=>lxM s (w.heap.size+1) wr)
 case atStart=>
  have hz:(w.alloc (.cells #[.bool m.c,.bool m.f] 23)).heap.size=w.heap.size+1:=by simp
  have h1:=aG (w.alloc (.cells #[.bool m.c,.bool m.f] 23)) (.cells #[.string s,.bool m.c,.bool m.f,.int .i64 0,.slice none 0 0,.int .i64 0,.int .i64 0] 139)
  rw [hz] at h1
  exact⟨(bz9).alloc (by simp) _,.inl ⟨0,.slice none 0 0,[],[],h1,TL.nil _ _,rfl,fun _=>rfl,Stands.nil s,by omega,⟨fun _=>rfl,fun _=>rfl⟩,s.size+1,by omega,HRES.out⟩⟩
 case round=>
  obtain⟨hb,hrel⟩:=hrel
  have HB:Hid (Below w.heap.size w wr):=hb
  clear hb
  rcases hrel with⟨p,v,D,T,hli⟩ | ⟨p,v,c,a,hsx,hc,hre⟩
  ·have L:Hid (LxI w.heap.size (w.heap.size+1) s m RES p v D T wr):=hli
   have g5:wr.cell? ⟨w.heap.size+1,5,none⟩=some (.int .i64 0):=hli.sx.c5
   have g3:=hli.sx.c3
   have g4:=hli.sx.c4
   have gl:=hli.sx.lt
   have GM:Hid (lxM s (w.heap.size+1) wr=s.size+1 - p):=aC (by unfold lxM;rw [hli.sx.er,hli.sx.ps,if_pos rfl])
   have hle:=hli.le
   clear hli
   by_cases hlt:p < s.size
   ·have j1:(p:Int) < (s.size:Int):=by omega
    have hR:=L.out.room hlt hs (by omega)
    have hT:=aK0 hR.1 hR.2 L.out.zero
    clear hR
    cases ht:tok m s p (cH T) with
    | error x=>
     obtain⟨c,a⟩:=x
     rw [ht] at hT
     have E:=aC (L.out.err hlt ht)
     clear ht
     go_wp2_with (go_at_call 71;(with_reducible refine hT.mono ?_);rintro e w8 ⟨rfl,h1,v8,h2⟩;have X8:Hid (SX w8 (w.heap.size+1) s m p v8 c a/\Below w.heap.size w w8):=⟨h2,HB.out.trans h1⟩;clear h1 h2)
     go_roundw
     case rel=>exact⟨X8.out.2,.inr ⟨p,v8,c,a,X8.out.1,E.out.1,E.out.2⟩⟩
     case measure=>
      rw [GM.out]
      unfold lxM
      rw [X8.out.1.er,if_neg E.out.1]
      omega
    | ok x=>
     obtain⟨t,q⟩:=x
     rw [ht] at hT
     have HT:Hid (tok m s p (cH T)=.ok (t,q)):=ht
     clear ht
     go_wp2_with (go_at_call 71;(with_reducible refine hT.mono ?_);rintro e w8 ⟨rfl,h1,v8,rv,C,h2,h3⟩;have X8:Hid (SX w8 (w.heap.size+1) s m q v8 0 0/\TL w.heap.size w8 v8 (D ++ [((t,p,q),rv,C)])/\Below w.heap.size w w8):=⟨h2,h3,HB.out.trans h1⟩;clear h1 h2 h3)
     have N:=L.out.next hlt HT.out X8.out.1 X8.out.2.1
     go_roundw
     case rel=>exact⟨X8.out.2.2,.inl ⟨q,v8,_,_,N.1⟩⟩
     case measure=>
      rw [GM.out]
      unfold lxM
      rw [X8.out.1.er,X8.out.1.ps,if_pos rfl]
      have:=N.2
      omega
   ·have j1:¬ (p:Int) < (s.size:Int):=by omega
    have E:=aC (L.out.ends hlt)
    obtain⟨qv,kv,rfl⟩:=aL L.out.tl.own
    go_wp2
    go_ret3
    rw [E.out]
    exact⟨HB.out,_,D,rfl,L.out.tl,L.out.map⟩
  ·have G:Hid (SX wr (w.heap.size+1) s m p v c a/\RES=.error (c,a)):=⟨hsx,hre⟩
   have g5:=hsx.c5
   have g6:=hsx.c6
   have gl:=hsx.lt
   have d1:((c:Int)==0)=false:=by simp;omega
   have d2:((c:Int) != 0)=true:=by simp;omega
   clear hsx hre
   go_wp2
   refine wx9 ?_
   repeat (go_big_quiet_step (first | exact rfl))
   refine wpQuiet_nil ?_
   intro w8 hw8
   have X8:Hid (Below w.heap.size w w8):=aE HB.out (aD hw8) lz9
   clear hw8
   go_wp2
   go_ret3
   rw [G.out.2]
   exact⟨X8.out,rfl⟩
theorem aL6{w:World}(s:ByteArray)(m:Md) :
  Calls Tryz.prog 39 #[.string s,.agg #[.bool m.c,.bool m.f]] w (zE w (gB m s)):=by
 unfold gB
 by_cases hs:2000 < s.size
 ·rw [if_pos hs]
  exact aD7 s m hs
 ·rw [if_neg hs]
  exact xL s m (by omega)
end
abbrev Zl:=El × Nat
def arP:Way->Int | []=>0 |(par,_) :: _=>par.f.k
def fiP:Way->Bool | []=>true |(_,i) :: _=>(i:Int)==0
def laP:Way->Bool | []=>true |(par,i) :: _=>(i:Int)==(par.ks.length:Int) - 1
def brP:Way->Bool | []=>true |(par,_) :: r=>if par.f.k=7\/par.f.k=6 then true else if par.f.k=5 then brP r else false
def zc(z:Zl):List Value:=z.1.2.f.cells ++ [.int .i64 ((z.1.1.length:Int)+1),.int .i64 (arP z.1.1),.bool (fiP z.1.1),.bool (laP z.1.1),.bool (brP z.1.1),.int .i64 (z.2:Int)]
theorem jK(z:Zl):(zc z).length=12:=by simp [zc,Fl.cells]
def dT(l:List Zl):List Value:=l.flatMap zc
theorem fC(z:Zl)(l:List Zl):dT (z :: l)=zc z ++ dT l:=by simp [dT]
theorem qY(a b:List Zl):dT (a ++ b)=dT a ++ dT b:=by simp [dT]
theorem jG:∀ (l:List Zl) (i j:Nat) (z:Zl),l[i]?=some z->j < 12->(dT l)[i * 12+j]?=(zc z)[j]?
 | y :: l,0,j,z,h,hj=>by
  simp at h
  subst h
  rw [fC,Nat.zero_mul,Nat.zero_add,List.getElem?_append_left (by rw [jK];exact hj)]
 | y :: l,i+1,j,z,h,hj=>by
  have ih:=jG l i j z (by simpa using h) hj
  rw [fC,List.getElem?_append_right (by rw [jK];omega),<- ih,jK]
  congr 1
  omega
theorem lV:∀ (l:List Zl) (i:Nat) (x:El) (a b:Nat),l[i]?=some (x,a)->(dT l).set (i * 12+11) (.int .i64 (b:Int))=dT (l.set i (x,b))
 | y :: l,0,x,a,b,h=>by
  simp at h
  subst h
  rw [List.set_cons_zero,fC,fC,Nat.zero_mul,Nat.zero_add,List.set_append_left _ _ (by rw [jK];omega)]
  congr 1
 | y :: l,i+1,x,a,b,h=>by
  have ih:=lV l i x a b (by simpa using h)
  rw [List.set_cons_succ,fC,fC,List.set_append_right _ _ (by rw [jK];omega),<- ih,jK]
  congr 2
  omega
def tl(most:Nat):Nat->List El->List Zl
 | _,[]=>[]
 | k,x :: r=>(x,min (k+x.2.sz) most) :: tl most (k+1) r
theorem nE(most:Nat):∀ (a b:List El) (k:Nat),tl most k (a ++ b)=tl most k a ++ tl most (k+a.length) b
 | [],b,k=>rfl
 | x :: a,b,k=>by
  rw [List.cons_append,tl,tl,nE most a b (k+1),List.cons_append,List.length_cons]
  congr 3
  omega
theorem iC(most:Nat):∀ (a:List El) (k:Nat),(tl most k a).length=a.length
 | [],k=>rfl
 | x :: a,k=>by rw [tl,List.length_cons,iC most a,List.length_cons]
theorem aI5(most:Nat):∀ (a:List El) (k:Nat),(tl most k a).map (·.1)=a
 | [],k=>rfl
 | x :: a,k=>by rw [tl,List.map_cons,aI5 most a]
def lQ(most:Nat)(E:List Zl)(x:El):List Zl:=E ++ (tl most E.length (pp x.1 x.2)).take (most - E.length)
def cV(most:Nat)(E:List Zl)(p:Way)(t:Tr)(j:Nat):List Zl:=E ++ (((p,t),0) :: tl most (E.length+1) (pps t p 0 (t.ks.take j))).take (most - E.length)
theorem vU{most:Nat}{E:List Zl}{p:Way}{t:Tr}(h:E.length < most):cV most E p t 0=E ++ [((p,t),0)]:=by
 unfold cV
 rw [List.take_zero,eP]
 congr 1
 rw [show most - E.length=(most - E.length - 1)+1 by omega,List.take_succ_cons]
 simp [tl]
theorem mR{most:Nat}{E:List Zl}{p:Way}{t:Tr}{j:Nat}(h:E.length < most):E.length < (cV most E p t j).length/\(cV most E p t j).length<=most/\(cV most E p t j).length=E.length+min (most - E.length) (1+(pps t p 0 (t.ks.take j)).length):=by
 have:(cV most E p t j).length=E.length+min (most - E.length) (1+(pps t p 0 (t.ks.take j)).length):=by
  unfold cV
  rw [List.length_append,List.length_take,List.length_cons,iC]
  congr 2
  omega
 refine⟨?_,?_,this⟩
 ·rw [this];omega
 ·rw [this];omega
theorem kV{most:Nat}{E:List Zl}{p:Way}{t:Tr}{j:Nat}(h:E.length < most):(cV most E p t j)[E.length]?=some ((p,t),0):=by
 unfold cV
 rw [List.getElem?_append_right lz9,Nat.sub_self,show most - E.length=(most - E.length - 1)+1 by omega,List.take_succ_cons]
 rfl
theorem xC(most:Nat)(E:List Zl)(z:Zl)(A B:List El)(hf:E.length+(1+A.length) < most) :
  (E ++ (z :: tl most (E.length+1) A)) ++ (tl most (E.length+(1+A.length)) B).take (most - (E.length+(1+A.length)))=E ++ (z :: tl most (E.length+1) (A ++ B)).take (most - E.length):=by
 rw [nE,List.append_assoc,<- List.cons_append]
 congr 1
 have hl:(z :: tl most (E.length+1) A).length=1+A.length:=by rw [List.length_cons,iC];omega
 have h1:((z :: tl most (E.length+1) A) ++ tl most (E.length+1+A.length) B).take (most - E.length)=(z :: tl most (E.length+1) A) ++ (tl most (E.length+1+A.length) B).take (most - E.length - (1+A.length)):=by
  rw [List.take_append,List.take_of_length_le (by rw [hl];omega),hl]
 rw [h1,show E.length+1+A.length=E.length+(1+A.length) by omega,show most - E.length - (1+A.length)=most - (E.length+(1+A.length)) by omega]
theorem kU{most:Nat}{E:List Zl}{p:Way}{t u:Tr}{j:Nat}(h:E.length < most)(hu:t.ks[j]?=some u)(hl:(cV most E p t j).length < most):lQ most (cV most E p t j) ((t,j) :: p,u)=cV most E p t (j+1):=by
 have hlen:=(mR (p:=p) (t:=t) (j:=j) h).2.2
 have e1:cV most E p t j=E ++ (((p,t),0) :: tl most (E.length+1) (pps t p 0 (t.ks.take j))):=by
  unfold cV
  rw [List.take_of_length_le (by rw [List.length_cons,iC];omega)]
 have hfull:(cV most E p t j).length=E.length+(1+(pps t p 0 (t.ks.take j)).length):=by omega
 have e2:cV most E p t (j+1)=E ++ (((p,t),0) :: tl most (E.length+1) (pps t p 0 (t.ks.take j) ++ pp ((t,j) :: p) u)).take (most - E.length):=by
  unfold cV
  rw [aM6 hu]
 rw [e2]
 unfold lQ
 rw [hfull,<- xC most E _ _ _ (by omega),<- e1]
theorem aG1{most:Nat}{E:List Zl}{p:Way}{t:Tr}{j:Nat}(h:E.length < most)(hl:¬ (cV most E p t j).length < most):cV most E p t j=cV most E p t t.ks.length:=by
 have hlen:=mR (p:=p) (t:=t) (j:=j) h
 have hbig:most - E.length<=1+(pps t p 0 (t.ks.take j)).length:=by omega
 unfold cV
 congr 1
 have hp:pps t p 0 (t.ks.take j) <+: pps t p 0 (t.ks.take t.ks.length):=by
  rw [List.take_length]
  exact aW2 j
 obtain⟨r,hr⟩:=hp
 rw [<- hr,nE,<- List.cons_append,List.take_append_of_le_length (by rw [List.length_cons,iC];omega)]
theorem mS{most:Nat}{E:List Zl}{p:Way}{t:Tr}(h:E.length < most):(cV most E p t t.ks.length).set E.length ((p,t),(cV most E p t t.ks.length).length)=lQ most E (p,t):=by
 have hlen:=(mR (p:=p) (t:=t) (j:=t.ks.length) h).2.2
 have hsz:1+(pps t p 0 (t.ks.take t.ks.length)).length=t.sz:=by
  have:=tD t p
  rw [mH,List.length_cons] at this
  rw [List.take_length]
  omega
 rw [hlen,hsz]
 unfold cV lQ
 rw [List.set_append_right _ _ lz9,Nat.sub_self,show most - E.length=(most - E.length - 1)+1 by omega,List.take_succ_cons,List.set_cons_zero]
 congr 1
 show _=(tl most E.length (pp p t)).take _
 rw [mH,tl,List.take_succ_cons,List.take_length]
 congr 2
 show _=min (E.length+t.sz) most
 omega
end Go.Proofs.YtpfdapnfkghgkaaGreatDoor
