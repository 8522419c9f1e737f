/-
  Parts of the proof.
-/
import Derived.Test.YtpfdapnfkghgkaaGreatDoorReadsProof9B42
set_option maxRecDepth 100000
set_option maxHeartbeats 8000000
namespace Go.Proofs.YtpfdapnfkghgkaaGreatDoor
open Go Go.RowKit
attribute [local go_sem] aR
def ItV(w:World)(b:Nat)(s:ByteArray)(m:Md)(p:Nat)(v:Value)(r:Rs It)(ev:Bool)(cv:Int)(lv:Value)(tv:Int)(w':World):Prop:=
 Fr (At b) w w'/\match r with
 | .error (c,a)=>SX w' b s m p v c a
 | .ok (e0,c0,L,q)=>ev=e0/\cv=c0/\tv=(q:Int)/\RR w.heap.size w' lv L/\SX w' b s m p v 0 0
theorem ItIs.val{w:World}{b:Nat}{s:ByteArray}{m:Md}{p:Nat}{v:Value}{r:Rs It}{e:Ending}{w':World}(h:ItIs w b s m p v r e w') :
  ∃ ev cv q n k tv,e=.returned (.agg #[.bool ev,.int .i64 cv,.slice q n k,.int .i64 tv])/\ItV w b s m p v r ev cv (.slice q n k) tv w':=by
 obtain⟨h1,h2⟩:=h
 cases r with
 | error x=>
  obtain⟨c,a⟩:=x
  obtain⟨ev,cv,q,n,k,tv,rfl,h3⟩:=h2
  exact⟨ev,cv,q,n,k,tv,rfl,h1,h3⟩
 | ok x=>
  obtain⟨e0,c0,L,q⟩:=x
  obtain⟨lv,rfl,h3,h4⟩:=h2
  obtain⟨q1,k1,rfl⟩:=h3.shape
  exact⟨e0,c0,q1,_,k1,_,rfl,h1,rfl,rfl,rfl,h3,h4⟩
theorem ItV.put{w w7 w8:World}{b:Nat}{s:ByteArray}{m:Md}{p:Nat}{v:Value}{r:Rs It}{ev:Bool}{cv tv:Int}{q:Option Addr}{n k g:Nat}(h:ItV w7 b s m p v r ev cv (.slice q n k) tv w8)(hB:Below w.heap.size w w7)(hz:IZ w8 g)(hg:w.heap.size<=g)(hb:b < w.heap.size)(x0 x1 x2 x3:Value) :
  ItIs w b s m p v r (.returned (.agg #[.bool ev,.int .i64 cv,.slice q n k,.int .i64 tv])) (uY w8 g x0 x1 x2 x3):=by
 obtain⟨h1,h2⟩:=h
 have hbg:¬ b=g:=by omega
 refine⟨fr4 ((Fr.of_below hB).trans h1) hg _ _ _ _,?_⟩
 cases r with
 | error x=>
  obtain⟨c,a⟩:=x
  exact⟨ev,cv,q,n,k,tv,rfl,SX.fr h2 (iA _ _ _ _) hbg⟩
 | ok x=>
  obtain⟨e0,c0,L,q0⟩:=x
  obtain⟨rfl,rfl,rfl,h3,h4⟩:=h2
  exact⟨_,rfl,(RR.mono h3 hB.size).fr (S:=fun k=>k=g) (iA _ _ _ _) (fun j hj e=>aN h3 hz (by decide) (by rw [hj,show j=g from e])),h4.fr (iA _ _ _ _) hbg⟩
theorem jP{w:World}{b:Nat}{s:ByteArray}{m:Md}{p:Nat}{v:Value}(h:SX w b s m p v 0 0)(o k:Nat){A B C:Bool}(hA:Hid (∀ W,SX W b s m p v 0 0->Calls Tryz.prog 96 #[.pointer (some ⟨b,0,none⟩),.int .i64 (k:Int),.string ⟨#[91,58]⟩] W fun e w'=>e=.returned (.bool A)/\Below W.heap.size W w'))
  (hB:Hid (∀ W,SX W b s m p v 0 0->Calls Tryz.prog 96 #[.pointer (some ⟨b,0,none⟩),.int .i64 (k:Int),.string ⟨#[91,61]⟩] W fun e w'=>e=.returned (.bool B)/\Below W.heap.size W w'))
  (hC:Hid (∀ W,SX W b s m p v 0 0->Calls Tryz.prog 96 #[.pointer (some ⟨b,0,none⟩),.int .i64 (k:Int),.string ⟨#[91,46]⟩] W fun e w'=>e=.returned (.bool C)/\Below W.heap.size W w'))
  (hor:A=true\/(A=false/\B=true)\/(A=false/\B=false/\C=true)) {r:Rs It} (hN:Hid (∀ W,SX W b s m p v 0 0->Calls Tryz.prog 142 #[.pointer (some ⟨b,0,none⟩),.int .i64 (k:Int),.int .i64 (o:Int)] W (ItIs W b s m p v r))) :
  Calls Tryz.prog 122 #[.pointer (some ⟨b,0,none⟩),.int .i64 (k:Int),.int .i64 (o:Int)] w (ItIs w b s m p v r):=by
 have W1:Below w.heap.size w (w.alloc itZ):=bz9
 have lb:=h.lt
 have H:Hid (SX w b s m p v 0 0/\Below w.heap.size w (w.alloc itZ)):=⟨h,W1⟩
 clear h W1
 rcases hor with rfl | ⟨rfl,rfl⟩ | ⟨rfl,rfl,rfl⟩
 ·skip
  go_enter Tryz.func122,Tryz.ntmps122
  go_wp2_with first
   |(go_at_call 96;(with_reducible refine(hA.out _ (H.out.1.kept H.out.2)).mono ?_);rintro e w5 ⟨rfl,h5⟩;have XA:Hid (SX w5 b s m p v 0 0/\Below w.heap.size w w5/\IZ w5 w.heap.size):=⟨(H.out.1.kept H.out.2).kept h5,aE H.out.2 h5 lz9,(IZ.new w).fr (Fr.of_below h5) (S:=fun _=>False) (fun q=>q)⟩;clear h5)
   |(go_at_call 96;(with_reducible refine(hB.out _ XA.out.1).mono ?_);rintro e w6 ⟨rfl,h5⟩;have XB:Hid (SX w6 b s m p v 0 0/\Below w.heap.size w w6/\IZ w6 w.heap.size):=⟨XA.out.1.kept h5,aE XA.out.2.1 h5 lz9,XA.out.2.2.fr (Fr.of_below h5) (S:=fun _=>False) (fun q=>q)⟩;clear h5)
   |(go_at_call 96;(with_reducible refine(hC.out _ XB.out.1).mono ?_);rintro e w7 ⟨rfl,h5⟩;have XC:Hid (SX w7 b s m p v 0 0/\Below w.heap.size w w7/\IZ w7 w.heap.size):=⟨XB.out.1.kept h5,aE XB.out.2.1 h5 lz9,XB.out.2.2.fr (Fr.of_below h5) (S:=fun _=>False) (fun q=>q)⟩;have q0:=XC.out.1.c0;have q1:=XC.out.1.c1;have ql:=XC.out.1.lt;clear h5)
   |(go_at_call 142;(with_reducible refine(hN.out _ XC.out.1).mono ?_);rintro e w8 h8;obtain⟨ev,cv,q8,n8,k8,tv,rfl,g8⟩:=h8.val;have X8:Hid (ItV w7 b s m p v r ev cv (.slice q8 n8 k8) tv w8/\IZ w8 w.heap.size):=⟨g8,XC.out.2.2.fr g8.1 (by intro q;have:w.heap.size=b:=q;omega)⟩;obtain⟨z0,z1,z2,z3,y0,y1,y2,y3⟩:=X8.out.2.all;clear h8 g8)
  refine bodyPost_ret (v:=.agg #[.bool ev,.int .i64 cv,.slice q8 n8 k8,.int .i64 tv]) (by obtain⟨e0,e1,e2,e3⟩:=bO X8.out.2 (.bool ev) (.int .i64 cv) (.slice q8 n8 k8) (.int .i64 tv);simp [results,Tryz.results122,go_sem,e0,e1,e2,e3]) rfl (X8.out.1.put XC.out.2.1 X8.out.2 lz9 lb _ _ _ _)
 ·skip
  go_enter Tryz.func122,Tryz.ntmps122
  go_wp2_with first
   |(go_at_call 96;(with_reducible refine(hA.out _ (H.out.1.kept H.out.2)).mono ?_);rintro e w5 ⟨rfl,h5⟩;have XA:Hid (SX w5 b s m p v 0 0/\Below w.heap.size w w5/\IZ w5 w.heap.size):=⟨(H.out.1.kept H.out.2).kept h5,aE H.out.2 h5 lz9,(IZ.new w).fr (Fr.of_below h5) (S:=fun _=>False) (fun q=>q)⟩;clear h5)
   |(go_at_call 96;(with_reducible refine(hB.out _ XA.out.1).mono ?_);rintro e w6 ⟨rfl,h5⟩;have XB:Hid (SX w6 b s m p v 0 0/\Below w.heap.size w w6/\IZ w6 w.heap.size):=⟨XA.out.1.kept h5,aE XA.out.2.1 h5 lz9,XA.out.2.2.fr (Fr.of_below h5) (S:=fun _=>False) (fun q=>q)⟩;clear h5)
   |(go_at_call 96;(with_reducible refine(hC.out _ XB.out.1).mono ?_);rintro e w7 ⟨rfl,h5⟩;have XC:Hid (SX w7 b s m p v 0 0/\Below w.heap.size w w7/\IZ w7 w.heap.size):=⟨XB.out.1.kept h5,aE XB.out.2.1 h5 lz9,XB.out.2.2.fr (Fr.of_below h5) (S:=fun _=>False) (fun q=>q)⟩;have q0:=XC.out.1.c0;have q1:=XC.out.1.c1;have ql:=XC.out.1.lt;clear h5)
   |(go_at_call 142;(with_reducible refine(hN.out _ XC.out.1).mono ?_);rintro e w8 h8;obtain⟨ev,cv,q8,n8,k8,tv,rfl,g8⟩:=h8.val;have X8:Hid (ItV w7 b s m p v r ev cv (.slice q8 n8 k8) tv w8/\IZ w8 w.heap.size):=⟨g8,XC.out.2.2.fr g8.1 (by intro q;have:w.heap.size=b:=q;omega)⟩;obtain⟨z0,z1,z2,z3,y0,y1,y2,y3⟩:=X8.out.2.all;clear h8 g8)
  refine bodyPost_ret (v:=.agg #[.bool ev,.int .i64 cv,.slice q8 n8 k8,.int .i64 tv]) (by obtain⟨e0,e1,e2,e3⟩:=bO X8.out.2 (.bool ev) (.int .i64 cv) (.slice q8 n8 k8) (.int .i64 tv);simp [results,Tryz.results122,go_sem,e0,e1,e2,e3]) rfl (X8.out.1.put XC.out.2.1 X8.out.2 lz9 lb _ _ _ _)
 ·skip
  go_enter Tryz.func122,Tryz.ntmps122
  go_wp2_with first
   |(go_at_call 96;(with_reducible refine(hA.out _ (H.out.1.kept H.out.2)).mono ?_);rintro e w5 ⟨rfl,h5⟩;have XA:Hid (SX w5 b s m p v 0 0/\Below w.heap.size w w5/\IZ w5 w.heap.size):=⟨(H.out.1.kept H.out.2).kept h5,aE H.out.2 h5 lz9,(IZ.new w).fr (Fr.of_below h5) (S:=fun _=>False) (fun q=>q)⟩;clear h5)
   |(go_at_call 96;(with_reducible refine(hB.out _ XA.out.1).mono ?_);rintro e w6 ⟨rfl,h5⟩;have XB:Hid (SX w6 b s m p v 0 0/\Below w.heap.size w w6/\IZ w6 w.heap.size):=⟨XA.out.1.kept h5,aE XA.out.2.1 h5 lz9,XA.out.2.2.fr (Fr.of_below h5) (S:=fun _=>False) (fun q=>q)⟩;clear h5)
   |(go_at_call 96;(with_reducible refine(hC.out _ XB.out.1).mono ?_);rintro e w7 ⟨rfl,h5⟩;have XC:Hid (SX w7 b s m p v 0 0/\Below w.heap.size w w7/\IZ w7 w.heap.size):=⟨XB.out.1.kept h5,aE XB.out.2.1 h5 lz9,XB.out.2.2.fr (Fr.of_below h5) (S:=fun _=>False) (fun q=>q)⟩;have q0:=XC.out.1.c0;have q1:=XC.out.1.c1;have ql:=XC.out.1.lt;clear h5)
   |(go_at_call 142;(with_reducible refine(hN.out _ XC.out.1).mono ?_);rintro e w8 h8;obtain⟨ev,cv,q8,n8,k8,tv,rfl,g8⟩:=h8.val;have X8:Hid (ItV w7 b s m p v r ev cv (.slice q8 n8 k8) tv w8/\IZ w8 w.heap.size):=⟨g8,XC.out.2.2.fr g8.1 (by intro q;have:w.heap.size=b:=q;omega)⟩;obtain⟨z0,z1,z2,z3,y0,y1,y2,y3⟩:=X8.out.2.all;clear h8 g8)
  refine bodyPost_ret (v:=.agg #[.bool ev,.int .i64 cv,.slice q8 n8 k8,.int .i64 tv]) (by obtain⟨e0,e1,e2,e3⟩:=bO X8.out.2 (.bool ev) (.int .i64 cv) (.slice q8 n8 k8) (.int .i64 tv);simp [results,Tryz.results122,go_sem,e0,e1,e2,e3]) rfl (X8.out.1.put XC.out.2.1 X8.out.2 lz9 lb _ _ _ _)
theorem aD9{w:World}{b:Nat}{s:ByteArray}{m:Md}{p:Nat}{v:Value}(h:SX w b s m p v 0 0)(o k:Nat)(hA:Hid (∀ W,SX W b s m p v 0 0->Calls Tryz.prog 96 #[.pointer (some ⟨b,0,none⟩),.int .i64 (k:Int),.string ⟨#[91,58]⟩] W fun e w'=>e=.returned (.bool false)/\Below W.heap.size W w'))
  (hB:Hid (∀ W,SX W b s m p v 0 0->Calls Tryz.prog 96 #[.pointer (some ⟨b,0,none⟩),.int .i64 (k:Int),.string ⟨#[91,61]⟩] W fun e w'=>e=.returned (.bool false)/\Below W.heap.size W w'))
  (hC:Hid (∀ W,SX W b s m p v 0 0->Calls Tryz.prog 96 #[.pointer (some ⟨b,0,none⟩),.int .i64 (k:Int),.string ⟨#[91,46]⟩] W fun e w'=>e=.returned (.bool false)/\Below W.heap.size W w'))
  {c:Int} {n:Nat} (hU:∀ W,Calls Tryz.prog 93 #[.string s,.int .i64 (k:Int),.bool m.c] W fun e w'=>e=.returned (.tuple #[.int .i64 c,.int .i64 (n:Int)])/\Below W.heap.size W w') (hn:n=0) (T:Nat) (hT:T=k+n) (hT2:T<=10000) :
  Calls Tryz.prog 122 #[.pointer (some ⟨b,0,none⟩),.int .i64 (k:Int),.int .i64 (o:Int)] w (ItIs w b s m p v (.error (33,o))):=by
 have W1:Below w.heap.size w (w.alloc itZ):=bz9
 have lb:=h.lt
 have H:Hid (SX w b s m p v 0 0/\Below w.heap.size w (w.alloc itZ)):=⟨h,W1⟩
 clear h W1
 have hw1:IntKind.wrap .i64 ((k:Int)+(n:Int))=(T:Int):=by rw [wrap_small _ (by omega) (by omega)];omega
 have d0:((n:Int)==0)=true:=by simp [hn]
 clear hn
 clear hT
 go_enter Tryz.func122,Tryz.ntmps122
 go_upto_region 6 with first
  |(go_at_call 96;(with_reducible refine(hA.out _ (H.out.1.kept H.out.2)).mono ?_);rintro e w5 ⟨rfl,h5⟩;have XA:Hid (SX w5 b s m p v 0 0/\Below w.heap.size w w5/\IZ w5 w.heap.size):=⟨(H.out.1.kept H.out.2).kept h5,aE H.out.2 h5 lz9,(IZ.new w).fr (Fr.of_below h5) (S:=fun _=>False) (fun q=>q)⟩;clear h5)
  |(go_at_call 96;(with_reducible refine(hB.out _ XA.out.1).mono ?_);rintro e w6 ⟨rfl,h5⟩;have XB:Hid (SX w6 b s m p v 0 0/\Below w.heap.size w w6/\IZ w6 w.heap.size):=⟨XA.out.1.kept h5,aE XA.out.2.1 h5 lz9,XA.out.2.2.fr (Fr.of_below h5) (S:=fun _=>False) (fun q=>q)⟩;clear h5)
  |(go_at_call 96;(with_reducible refine(hC.out _ XB.out.1).mono ?_);rintro e w7 ⟨rfl,h5⟩;have XC:Hid (SX w7 b s m p v 0 0/\Below w.heap.size w w7/\IZ w7 w.heap.size):=⟨XB.out.1.kept h5,aE XB.out.2.1 h5 lz9,XB.out.2.2.fr (Fr.of_below h5) (S:=fun _=>False) (fun q=>q)⟩;have q0:=XC.out.1.c0;have q1:=XC.out.1.c1;have ql:=XC.out.1.lt;clear h5)
 refine wx9 ?_
 repeat (go_big_quiet_step (first | exact rfl |(go_at_call 93;exact bI (hU _))))
 refine wpQuiet_nil ?_
 intro w9 hw9
 have X9:Hid (SX w9 b s m p v 0 0/\Below w.heap.size w w9/\IZ w9 w.heap.size):=⟨XC.out.1.kept (aD hw9),aE XC.out.2.1 (aD hw9) lz9,XC.out.2.2.fr (Fr.of_below (aD hw9)) (S:=fun _=>False) (fun q=>q)⟩
 have r9:=X9.out.1.lt
 clear hw9
 go_wp2_with (go_at_call 97;refine(dR X9.out.1 33 o).mono ?_;rintro e wn ⟨rfl,h6,g6⟩;have X6:Hid (SX wn b s m p v 33 o/\Fr (At b) w wn/\IZ wn w.heap.size):=⟨h6,(Fr.of_below X9.out.2.1).trans g6,X9.out.2.2.fr g6 (by intro q;have:w.heap.size=b:=q;omega)⟩;have rl:=X6.out.1.lt;have X8:Hid (SX (wn.alloc (.cells #[.int .i64 c,.int .i64 c] 99)) b s m p v 33 o/\Fr (At b) w (wn.alloc (.cells #[.int .i64 c,.int .i64 c] 99))/\IZ (wn.alloc (.cells #[.int .i64 c,.int .i64 c] 99)) w.heap.size):=⟨X6.out.1.kept (bz9),X6.out.2.1.alloc _,X6.out.2.2.fr (S:=fun _=>False) (Fr.of_below (bz9)) (fun q=>q)⟩;obtain⟨z0,z1,z2,z3,y0,y1,y2,y3⟩:=X8.out.2.2.all;clear h6 g6)
 refine bodyPost_ret (v:=.agg #[.bool true,.int .i64 c,.slice (some ⟨wn.heap.size,0,none⟩) 1 1,.int .i64 (T:Int)]) (by obtain⟨e0,e1,e2,e3⟩:=bO X8.out.2.2 (.bool true) (.int .i64 c) (.slice (some ⟨wn.heap.size,0,none⟩) 1 1) (.int .i64 (T:Int));simp [results,Tryz.results122,go_sem,e0,e1,e2,e3]) rfl ⟨fr4 X8.out.2.1 lz9 _ _ _ _,_,_,_,_,_,_,rfl,X8.out.1.fr (iA _ _ _ _) (by intro q;have:b=w.heap.size:=q;omega)⟩
theorem aD8{w:World}{b:Nat}{s:ByteArray}{m:Md}{p:Nat}{v:Value}(h:SX w b s m p v 0 0)(o k:Nat)(hA:Hid (∀ W,SX W b s m p v 0 0->Calls Tryz.prog 96 #[.pointer (some ⟨b,0,none⟩),.int .i64 (k:Int),.string ⟨#[91,58]⟩] W fun e w'=>e=.returned (.bool false)/\Below W.heap.size W w'))
  (hB:Hid (∀ W,SX W b s m p v 0 0->Calls Tryz.prog 96 #[.pointer (some ⟨b,0,none⟩),.int .i64 (k:Int),.string ⟨#[91,61]⟩] W fun e w'=>e=.returned (.bool false)/\Below W.heap.size W w'))
  (hC:Hid (∀ W,SX W b s m p v 0 0->Calls Tryz.prog 96 #[.pointer (some ⟨b,0,none⟩),.int .i64 (k:Int),.string ⟨#[91,46]⟩] W fun e w'=>e=.returned (.bool false)/\Below W.heap.size W w'))
  {c:Int} {n:Nat} (hU:∀ W,Calls Tryz.prog 93 #[.string s,.int .i64 (k:Int),.bool m.c] W fun e w'=>e=.returned (.tuple #[.int .i64 c,.int .i64 (n:Int)])/\Below W.heap.size W w') (hn:0 < n) (hc:c < 0) (T:Nat) (hT:T=k+n) (hT2:T<=10000) :
  Calls Tryz.prog 122 #[.pointer (some ⟨b,0,none⟩),.int .i64 (k:Int),.int .i64 (o:Int)] w (ItIs w b s m p v (.error (20,k))):=by
 have W1:Below w.heap.size w (w.alloc itZ):=bz9
 have lb:=h.lt
 have H:Hid (SX w b s m p v 0 0/\Below w.heap.size w (w.alloc itZ)):=⟨h,W1⟩
 clear h W1
 have hw1:IntKind.wrap .i64 ((k:Int)+(n:Int))=(T:Int):=by rw [wrap_small _ (by omega) (by omega)];omega
 have d0:((n:Int)==0)=false:=by simp;omega
 clear hT
 go_enter Tryz.func122,Tryz.ntmps122
 go_upto_region 6 with first
  |(go_at_call 96;(with_reducible refine(hA.out _ (H.out.1.kept H.out.2)).mono ?_);rintro e w5 ⟨rfl,h5⟩;have XA:Hid (SX w5 b s m p v 0 0/\Below w.heap.size w w5/\IZ w5 w.heap.size):=⟨(H.out.1.kept H.out.2).kept h5,aE H.out.2 h5 lz9,(IZ.new w).fr (Fr.of_below h5) (S:=fun _=>False) (fun q=>q)⟩;clear h5)
  |(go_at_call 96;(with_reducible refine(hB.out _ XA.out.1).mono ?_);rintro e w6 ⟨rfl,h5⟩;have XB:Hid (SX w6 b s m p v 0 0/\Below w.heap.size w w6/\IZ w6 w.heap.size):=⟨XA.out.1.kept h5,aE XA.out.2.1 h5 lz9,XA.out.2.2.fr (Fr.of_below h5) (S:=fun _=>False) (fun q=>q)⟩;clear h5)
  |(go_at_call 96;(with_reducible refine(hC.out _ XB.out.1).mono ?_);rintro e w7 ⟨rfl,h5⟩;have XC:Hid (SX w7 b s m p v 0 0/\Below w.heap.size w w7/\IZ w7 w.heap.size):=⟨XB.out.1.kept h5,aE XB.out.2.1 h5 lz9,XB.out.2.2.fr (Fr.of_below h5) (S:=fun _=>False) (fun q=>q)⟩;have q0:=XC.out.1.c0;have q1:=XC.out.1.c1;have ql:=XC.out.1.lt;clear h5)
 refine wx9 ?_
 repeat (go_big_quiet_step (first | exact rfl |(go_at_call 93;exact bI (hU _))))
 refine wpQuiet_nil ?_
 intro w9 hw9
 have X9:Hid (SX w9 b s m p v 0 0/\Below w.heap.size w w9/\IZ w9 w.heap.size):=⟨XC.out.1.kept (aD hw9),aE XC.out.2.1 (aD hw9) lz9,XC.out.2.2.fr (Fr.of_below (aD hw9)) (S:=fun _=>False) (fun q=>q)⟩
 have r9:=X9.out.1.lt
 clear hw9
 go_wp2_with (go_at_call 97;refine(dR X9.out.1 20 k).mono ?_;rintro e wn ⟨rfl,h6,g6⟩;have X6:Hid (SX wn b s m p v 20 k/\Fr (At b) w wn/\IZ wn w.heap.size):=⟨h6,(Fr.of_below X9.out.2.1).trans g6,X9.out.2.2.fr g6 (by intro q;have:w.heap.size=b:=q;omega)⟩;have rl:=X6.out.1.lt;have X8:Hid (SX (wn.alloc (.cells #[.int .i64 c,.int .i64 c] 99)) b s m p v 20 k/\Fr (At b) w (wn.alloc (.cells #[.int .i64 c,.int .i64 c] 99))/\IZ (wn.alloc (.cells #[.int .i64 c,.int .i64 c] 99)) w.heap.size):=⟨X6.out.1.kept (bz9),X6.out.2.1.alloc _,X6.out.2.2.fr (S:=fun _=>False) (Fr.of_below (bz9)) (fun q=>q)⟩;obtain⟨z0,z1,z2,z3,y0,y1,y2,y3⟩:=X8.out.2.2.all;clear h6 g6)
 refine bodyPost_ret (v:=.agg #[.bool true,.int .i64 c,.slice (some ⟨wn.heap.size,0,none⟩) 1 1,.int .i64 (T:Int)]) (by obtain⟨e0,e1,e2,e3⟩:=bO X8.out.2.2 (.bool true) (.int .i64 c) (.slice (some ⟨wn.heap.size,0,none⟩) 1 1) (.int .i64 (T:Int));simp [results,Tryz.results122,go_sem,e0,e1,e2,e3]) rfl ⟨fr4 X8.out.2.1 lz9 _ _ _ _,_,_,_,_,_,_,rfl,X8.out.1.fr (iA _ _ _ _) (by intro q;have:b=w.heap.size:=q;omega)⟩
theorem aE0{w:World}{b:Nat}{s:ByteArray}{m:Md}{p:Nat}{v:Value}(h:SX w b s m p v 0 0)(o k:Nat)(hA:Hid (∀ W,SX W b s m p v 0 0->Calls Tryz.prog 96 #[.pointer (some ⟨b,0,none⟩),.int .i64 (k:Int),.string ⟨#[91,58]⟩] W fun e w'=>e=.returned (.bool false)/\Below W.heap.size W w'))
  (hB:Hid (∀ W,SX W b s m p v 0 0->Calls Tryz.prog 96 #[.pointer (some ⟨b,0,none⟩),.int .i64 (k:Int),.string ⟨#[91,61]⟩] W fun e w'=>e=.returned (.bool false)/\Below W.heap.size W w'))
  (hC:Hid (∀ W,SX W b s m p v 0 0->Calls Tryz.prog 96 #[.pointer (some ⟨b,0,none⟩),.int .i64 (k:Int),.string ⟨#[91,46]⟩] W fun e w'=>e=.returned (.bool false)/\Below W.heap.size W w'))
  {c:Int} {n:Nat} (hU:∀ W,Calls Tryz.prog 93 #[.string s,.int .i64 (k:Int),.bool m.c] W fun e w'=>e=.returned (.tuple #[.int .i64 c,.int .i64 (n:Int)])/\Below W.heap.size W w') (hn:0 < n) (hc:¬ c < 0) (T:Nat) (hT:T=k+n) (hT2:T<=10000) :
  Calls Tryz.prog 122 #[.pointer (some ⟨b,0,none⟩),.int .i64 (k:Int),.int .i64 (o:Int)] w (ItIs w b s m p v (.ok (true,c,[(c,c)],T))):=by
 have W1:Below w.heap.size w (w.alloc itZ):=bz9
 have lb:=h.lt
 have H:Hid (SX w b s m p v 0 0/\Below w.heap.size w (w.alloc itZ)):=⟨h,W1⟩
 clear h W1
 have hw1:IntKind.wrap .i64 ((k:Int)+(n:Int))=(T:Int):=by rw [wrap_small _ (by omega) (by omega)];omega
 have d0:((n:Int)==0)=false:=by simp;omega
 clear hT
 go_enter Tryz.func122,Tryz.ntmps122
 go_upto_region 6 with first
  |(go_at_call 96;(with_reducible refine(hA.out _ (H.out.1.kept H.out.2)).mono ?_);rintro e w5 ⟨rfl,h5⟩;have XA:Hid (SX w5 b s m p v 0 0/\Below w.heap.size w w5/\IZ w5 w.heap.size):=⟨(H.out.1.kept H.out.2).kept h5,aE H.out.2 h5 lz9,(IZ.new w).fr (Fr.of_below h5) (S:=fun _=>False) (fun q=>q)⟩;clear h5)
  |(go_at_call 96;(with_reducible refine(hB.out _ XA.out.1).mono ?_);rintro e w6 ⟨rfl,h5⟩;have XB:Hid (SX w6 b s m p v 0 0/\Below w.heap.size w w6/\IZ w6 w.heap.size):=⟨XA.out.1.kept h5,aE XA.out.2.1 h5 lz9,XA.out.2.2.fr (Fr.of_below h5) (S:=fun _=>False) (fun q=>q)⟩;clear h5)
  |(go_at_call 96;(with_reducible refine(hC.out _ XB.out.1).mono ?_);rintro e w7 ⟨rfl,h5⟩;have XC:Hid (SX w7 b s m p v 0 0/\Below w.heap.size w w7/\IZ w7 w.heap.size):=⟨XB.out.1.kept h5,aE XB.out.2.1 h5 lz9,XB.out.2.2.fr (Fr.of_below h5) (S:=fun _=>False) (fun q=>q)⟩;have q0:=XC.out.1.c0;have q1:=XC.out.1.c1;have ql:=XC.out.1.lt;clear h5)
 refine wx9 ?_
 repeat (go_big_quiet_step (first | exact rfl |(go_at_call 93;exact bI (hU _))))
 refine wpQuiet_nil ?_
 intro w9 hw9
 have X9:Hid (SX w9 b s m p v 0 0/\Below w.heap.size w w9/\IZ w9 w.heap.size):=⟨XC.out.1.kept (aD hw9),aE XC.out.2.1 (aD hw9) lz9,XC.out.2.2.fr (Fr.of_below (aD hw9)) (S:=fun _=>False) (fun q=>q)⟩
 have r9:=X9.out.1.lt
 clear hw9
 have X8:Hid (SX (w9.alloc (.cells #[.int .i64 c,.int .i64 c] 99)) b s m p v 0 0/\Below w.heap.size w (w9.alloc (.cells #[.int .i64 c,.int .i64 c] 99))/\IZ (w9.alloc (.cells #[.int .i64 c,.int .i64 c] 99)) w.heap.size/\RR w.heap.size (w9.alloc (.cells #[.int .i64 c,.int .i64 c] 99)) (.slice (some ⟨w9.heap.size,0,none⟩) 1 1) [(c,c)]):=⟨X9.out.1.kept (bz9),X9.out.2.1.alloc X9.out.2.1.size _,X9.out.2.2.fr (S:=fun _=>False) (Fr.of_below (bz9)) (fun q=>q),RR.mono (World.ownsRow_lit w9 #[.int .i64 c,.int .i64 c] 1 lz9 (by unfold maxLen;omega) rfl) X9.out.2.1.size⟩
 obtain⟨z0,z1,z2,z3,y0,y1,y2,y3⟩:=X8.out.2.2.1.all
 go_wp2
 refine bodyPost_ret (v:=.agg #[.bool true,.int .i64 c,.slice (some ⟨w9.heap.size,0,none⟩) 1 1,.int .i64 (T:Int)]) (by obtain⟨e0,e1,e2,e3⟩:=bO X8.out.2.2.1 (.bool true) (.int .i64 c) (.slice (some ⟨w9.heap.size,0,none⟩) 1 1) (.int .i64 (T:Int));simp [results,Tryz.results122,go_sem,e0,e1,e2,e3]) rfl ⟨fr4 (Fr.of_below X8.out.2.1) lz9 _ _ _ _,_,rfl,(X8.out.2.2.2.fr (S:=fun k=>k=w.heap.size) (iA _ _ _ _) (fun k hk e=>aN X8.out.2.2.2 X8.out.2.2.1 (by decide) (by rw [hk,show k=_ from e]))),X8.out.1.fr (iA _ _ _ _) (by intro q;have:b=w.heap.size:=q;omega)⟩
theorem zP{w:World}{b:Nat}{s:ByteArray}{m:Md}{p:Nat}{v:Value}(h:SX w b s m p v 0 0)(hs:s.size<=2000)(o k:Nat)(hk:k<=5000) :
  Calls Tryz.prog 122 #[.pointer (some ⟨b,0,none⟩),.int .i64 (k:Int),.int .i64 (o:Int)] w (ItIs w b s m p v (hJ m s o k)):=by
 have HI:∀ (x:UInt8) (t:ByteArray),t=⟨#[91,x]⟩->∀ W,SX W b s m p v 0 0->Calls Tryz.prog 96 #[.pointer (some ⟨b,0,none⟩),.int .i64 (k:Int),.string t] W fun e w'=>e=.returned (.bool (aJ s k [91,x]))/\Below W.heap.size W w':=fun x t ht W hW=>by
  have:=rI hW hs k hk t (by rw [ht];exact Nat.zero_lt_succ 1) (by rw [ht];exact Nat.le_refl 2)
  rw [ht] at this ⊢
  exact this
 have hA:=aC (HI 58 ⟨#[91,58]⟩ rfl)
 have hB:=aC (HI 61 ⟨#[91,61]⟩ rfl)
 have hC:=aC (HI 46 ⟨#[91,46]⟩ rfl)
 unfold hJ
 cases h1:aJ s k [91,58] with
 | true=>exact jP h o k hA hB hC (.inl h1) (aC fun W hW=>bE1 hW hs o k h1)
 | false=>
  simp only [Bool.false_eq_true,if_false]
  cases h2:aJ s k [91,61] with
  | true=>exact jP h o k hA hB hC (.inr (.inl ⟨h1,h2⟩)) (aC fun W hW=>aM2 hW hs o k h2)
  | false=>
   simp only [Bool.false_eq_true,if_false]
   cases h3:aJ s k [91,46] with
   | true=>exact jP h o k hA hB hC (.inr (.inr ⟨h1,h2,h3⟩)) (aC fun W hW=>aM3 hW hs o k h3)
   | false=>
    simp only [Bool.false_eq_true,if_false]
    rw [h1] at hA
    rw [h2] at hB
    rw [h3] at hC
    unfold aQ2
    by_cases hz:s.size<=k
    ·rw [if_pos hz]
     exact aD9 h o k hA hB hC (c:=0) (n:=0) (fun W=>aD1 s k m W hz hk) rfl k rfl (by omega)
    ·rw [if_neg hz]
     have hu:=lH m s k (by omega)
     have hU:=fun W=>dB s k m W (by omega) hs
     unfold chr
     by_cases hc:(un m s k).1 < 0
     ·rw [if_pos hc]
      exact aD8 h o k hA hB hC hU (by omega) hc _ rfl (by omega)
     ·rw [if_neg hc]
      exact aE0 h o k hA hB hC hU (by omega) hc _ rfl (by omega)
end Go.Proofs.YtpfdapnfkghgkaaGreatDoor
