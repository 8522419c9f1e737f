/-
  Parts of the proof.
-/
import Derived.Test.YtpfdapnfkghgkaaGreatDoorReadsProof9B44
import Derived.Test.YtpfdapnfkghgkaaGreatDoorReadsProof9B27
set_option maxRecDepth 100000
set_option maxHeartbeats 8000000
namespace Go.Proofs.YtpfdapnfkghgkaaGreatDoor
open Go Go.RowKit
attribute [local go_sem] aR
theorem aS3(m:Md){s:ByteArray}{p:Nat}(h:128<=bt s p):(un m s p).1 < 0\/128<=(un m s p).1:=by
 unfold un
 split
 ·simp only [ch]
  split
  ·exact .inl (by omega)
  ·refine .inr ?_
   rw [gD]
   rcases fQ (s.size - p) (bt s p) (bt s (p+1)) (bt s (p+2)) (bt s (p+3)) with k | ⟨_,k⟩ | ⟨_,_,_,_,k⟩ | ⟨_,_,_,_,_,_,k⟩ | ⟨_,_,_,_,_,_,_,k⟩
   all_goals rw [k]
   all_goals simp only
   all_goals omega
 ·exact .inr (by simp only;omega)
theorem oO(m:Md){s:ByteArray}{p:Nat}(h:¬ (un m s p).1 < 0):bK m.c (un m s p).1:=by
 obtain⟨mc,mf⟩:=m
 cases mc with
 | false=>
  have:=fW s p
  show bK false (bt s p:Int)
  refine⟨by omega,?_,fun q=>by cases q⟩
  show (bt s p:Int)<=255
  omega
 | true=>
  have e:(un ⟨true,mf⟩ s p).1=ch s p:=rfl
  rw [e] at h ⊢
  unfold ch at h ⊢
  split at h
  ·exact absurd (by omega) h
  ·rename_i hb
   rw [if_neg hb]
   rw [gD]
   have b0:=fW s p
   show bK true _
   unfold bK
   rw [show top true=1114111 from rfl]
   rcases fQ (s.size - p) (bt s p) (bt s (p+1)) (bt s (p+2)) (bt s (p+3)) with k | ⟨_,k⟩ | ⟨_,_,_,_,k⟩ | ⟨_,_,_,_,_,_,k⟩ | ⟨_,_,_,_,_,_,_,k⟩
   all_goals rw [k]
   all_goals simp only
   all_goals omega
theorem aT7(m:Md){s:ByteArray}{p:Nat}(hp:p < s.size)(y:UInt8)(hy:y.toNat < 128):aJ s p [y]=decide ((un m s p).1=(y.toNat:Int)):=by
 rw [aU hp]
 by_cases h:bt s p < 128
 ·rw [tY m h]
  exact decide_eq_decide.2 (by simp only;omega)
 ·have:=aS3 m (s:=s) (p:=p) (by omega)
  rw [decide_eq_false (by omega),decide_eq_false (by omega)]
theorem bC7{m:Md}{s:ByteArray}{p last:Nat}{c:Int}{n:Nat}(hp:p < s.size)(hu:un m s p=(c,n)):tok m s p last =
  if c=92 then esc m s p last
  else if c=42/\cS last=false then .ok (cQ 0 (-1),p+1)
  else if c=94/\(p==0 || last==3 || last==5)=true then .ok (kT 7,p+1)
  else if c=36/\iU s p=true then .ok (kT 8,p+1)
  else if c=46 then .ok (bB m [] true,p+1)
  else if c=91 then brk m s p
  else if c < 0 then .error (20,p) else .ok (bB m [(c,c)] false,p+n):=by
 have e:∀ y:UInt8,y.toNat < 128->aJ s p [y]=decide (c=(y.toNat:Int)):=fun y hy=>by rw [aT7 m hp y hy,hu]
 unfold tok
 rw [e 92 (by decide),e 42 (by decide),e 94 (by decide),e 36 (by decide),e 46 (by decide),e 91 (by decide)]
 simp only [Bool.and_eq_true,decide_eq_true_eq,Bool.not_eq_true']
 unfold chr
 rw [hu]
 simp only
 repeat' split
 all_goals first
  | rfl
  |(rename_i h1 h2;exact absurd h2 h1)
  | simp_all
theorem bA5(m:Md):IsC (bS m.c) (cP m [] true):=(dP m.c).to fun c=>by
 unfold cP rU
 simp only [if_true]
 constructor
 ·intro h
  refine⟨h,?_⟩
  split
  ·rintro (q | q | q)
   ·exact eA _ q
   ·exact eA _ q.1
   ·exact eA _ q.1
  ·exact eA _
 ·exact fun h=>h.1
section
variable {base:Nat} {w:World} {b:Nat} {s:ByteArray} {m:Md} {p:Nat} {v:Value} {D:List Dt} {last:Nat}
theorem aK1(h:Room base w b s m p v D)(hk:LK w b v last){c:Int}{n:Nat}(hu:un m s p=(c,n))(hc:c < 0) :
  Calls Tryz.prog 71 #[.pointer (some ⟨b,0,none⟩)] w (Puts base w b s m p D (.error (20,p))):=by
 have hs:=h.len
 have hp:=h.at_
 have c0:=h.sx.c0
 have c1:=h.sx.c1
 have c3:=h.sx.c3
 have lb:=h.sx.lt
 have bs:=h.size
 obtain⟨P1,hP1⟩:∃ P1,P1=p+1:=⟨_,rfl⟩
 have hw1:IntKind.wrap .i64 ((p:Int)+1)=(P1:Int):=by rw [wrap_small _ (by omega) (by omega)];omega
 obtain⟨CL,hCL⟩:∃ CL,CL=aJ s P1 [92,41]:=⟨_,rfl⟩
 obtain⟨OR,hOR⟩:∃ OR,OR=aJ s P1 [92,124]:=⟨_,rfl⟩
 obtain⟨EN,hEN⟩:∃ EN,EN=decide (P1=s.size):=⟨_,rfl⟩
 have dEN:((P1:Int)==(s.size:Int))=EN:=by rw [hEN,Bool.eq_iff_iff];simp;omega
 have CC:Hid (∀ W,SX W b s m p v 0 0->_):=aC (fD hs P1 (by omega) 92 41 hCL)
 have CO:Hid (∀ W,SX W b s m p v 0 0->_):=aC (fD hs P1 (by omega) 92 124 hOR)
 have hU:∀ W,Calls Tryz.prog 93 #[.string s,.int .i64 (p:Int),.bool m.c] W fun e w'=>e=.returned (.tuple #[.int .i64 c,.int .i64 ((n:Nat):Int)])/\Below W.heap.size W w':=fun W=>by
  have:=dB s p m W hp hs
  rw [hu] at this
  exact this
 have H:Hid (Room base w b s m p v D/\LK w b v last):=⟨h,hk⟩
 clear h hk hP1 hCL hOR hEN hu
 go_enter Tryz.func71,Tryz.ntmps71
 go_wp2
 refine wx9 ?_
 repeat (go_big_quiet_step (first | exact rfl |(go_at_call 93;exact bI (hU _))))
 refine wpQuiet_nil ?_
 intro w5 hw5
 have X5:Hid (Room base w5 b s m p v D/\LK w5 b v last/\Below base w w5):=⟨H.out.1.kept (aD hw5),H.out.2.kept (aD hw5),(aD hw5).mono bs⟩
 clear hw5
 go_wp2_with first
  |(go_at_call 94;(with_reducible refine(bG X5.out.1.sx X5.out.2.1).mono ?_);rintro e w6 ⟨rfl,h6⟩;have X6:Hid (Room base w6 b s m p v D/\LK w6 b v last/\Below base w w6):=⟨X5.out.1.kept h6,X5.out.2.1.kept h6,X5.out.2.2.trans (h6.mono X5.out.1.size)⟩;clear h6)
  |(go_at_call 95;(with_reducible refine(dN X6.out.1.sx X6.out.2.1).mono ?_);rintro e w7 ⟨rfl,h6⟩;have X7:Hid (Room base w7 b s m p v D/\LK w7 b v last/\Below base w w7):=⟨X6.out.1.kept h6,X6.out.2.1.kept h6,X6.out.2.2.trans (h6.mono X6.out.1.size)⟩;have q0:=X7.out.1.sx.c0;have q3:=X7.out.1.sx.c3;have ql:=X7.out.1.sx.lt;clear h6)
 refine wx9 ?_
 repeat (go_big_quiet_step (first | exact rfl))
 refine wpQuiet_nil ?_
 intro w8 hw8
 have X8:Hid (Room base w8 b s m p v D/\LK w8 b v last/\Below base w w8):=⟨X7.out.1.kept (aD hw8),X7.out.2.1.kept (aD hw8),X7.out.2.2.trans ((aD hw8).mono X7.out.1.size)⟩
 have r3:=X8.out.1.sx.c3
 have rl:=X8.out.1.sx.lt
 clear hw8
 go_wp2_with first
  |(go_at_call 96;(with_reducible refine(CC.out _ X8.out.1.sx).mono ?_);rintro e w9 ⟨rfl,h6⟩;have X9:Hid (Room base w9 b s m p v D/\LK w9 b v last/\Below base w w9):=⟨X8.out.1.kept h6,X8.out.2.1.kept h6,X8.out.2.2.trans (h6.mono X8.out.1.size)⟩;have s3:=X9.out.1.sx.c3;have sl:=X9.out.1.sx.lt;clear h6)
  |(go_at_call 96;(with_reducible refine(CO.out _ X9.out.1.sx).mono ?_);rintro e w10 ⟨rfl,h6⟩;have X10:Hid (Room base w10 b s m p v D/\LK w10 b v last/\Below base w w10):=⟨X9.out.1.kept h6,X9.out.2.1.kept h6,X9.out.2.2.trans (h6.mono X9.out.1.size)⟩;have t3:=X10.out.1.sx.c3;have t1:=X10.out.1.sx.c1;have tl:=X10.out.1.sx.lt;clear h6)
  |(go_at_call 97;refine(X10.out.1.no 20 p).mono ?_;rintro e w11 ⟨rfl,h9,g9⟩;have X11:Hid (SX w11 b s m p v 20 p/\Below base w w11):=⟨h9,X10.out.2.2.trans g9⟩;clear h9 g9)
 go_end0
 exact⟨rfl,X11.out.2,v,X11.out.1⟩
theorem aK2(h:Room base w b s m p v D)(hk:LK w b v last){n:Nat}(hu:un m s p=(92,n)) :
  Calls Tryz.prog 71 #[.pointer (some ⟨b,0,none⟩)] w (Puts base w b s m p D (esc m s p last)):=by
 have hs:=h.len
 have hp:=h.at_
 have c0:=h.sx.c0
 have c1:=h.sx.c1
 have c3:=h.sx.c3
 have lb:=h.sx.lt
 have bs:=h.size
 obtain⟨P1,hP1⟩:∃ P1,P1=p+1:=⟨_,rfl⟩
 have hw1:IntKind.wrap .i64 ((p:Int)+1)=(P1:Int):=by rw [wrap_small _ (by omega) (by omega)];omega
 obtain⟨CL,hCL⟩:∃ CL,CL=aJ s P1 [92,41]:=⟨_,rfl⟩
 obtain⟨OR,hOR⟩:∃ OR,OR=aJ s P1 [92,124]:=⟨_,rfl⟩
 obtain⟨EN,hEN⟩:∃ EN,EN=decide (P1=s.size):=⟨_,rfl⟩
 have dEN:((P1:Int)==(s.size:Int))=EN:=by rw [hEN,Bool.eq_iff_iff];simp;omega
 have CC:Hid (∀ W,SX W b s m p v 0 0->_):=aC (fD hs P1 (by omega) 92 41 hCL)
 have CO:Hid (∀ W,SX W b s m p v 0 0->_):=aC (fD hs P1 (by omega) 92 124 hOR)
 have hU:∀ W,Calls Tryz.prog 93 #[.string s,.int .i64 (p:Int),.bool m.c] W fun e w'=>e=.returned (.tuple #[.int .i64 92,.int .i64 ((n:Nat):Int)])/\Below W.heap.size W w':=fun W=>by
  have:=dB s p m W hp hs
  rw [hu] at this
  exact this
 have H:Hid (Room base w b s m p v D/\LK w b v last):=⟨h,hk⟩
 clear h hk hP1 hCL hOR hEN hu
 go_enter Tryz.func71,Tryz.ntmps71
 go_wp2
 refine wx9 ?_
 repeat (go_big_quiet_step (first | exact rfl |(go_at_call 93;exact bI (hU _))))
 refine wpQuiet_nil ?_
 intro w5 hw5
 have X5:Hid (Room base w5 b s m p v D/\LK w5 b v last/\Below base w w5):=⟨H.out.1.kept (aD hw5),H.out.2.kept (aD hw5),(aD hw5).mono bs⟩
 clear hw5
 go_wp2_with first
  |(go_at_call 94;(with_reducible refine(bG X5.out.1.sx X5.out.2.1).mono ?_);rintro e w6 ⟨rfl,h6⟩;have X6:Hid (Room base w6 b s m p v D/\LK w6 b v last/\Below base w w6):=⟨X5.out.1.kept h6,X5.out.2.1.kept h6,X5.out.2.2.trans (h6.mono X5.out.1.size)⟩;clear h6)
  |(go_at_call 95;(with_reducible refine(dN X6.out.1.sx X6.out.2.1).mono ?_);rintro e w7 ⟨rfl,h6⟩;have X7:Hid (Room base w7 b s m p v D/\LK w7 b v last/\Below base w w7):=⟨X6.out.1.kept h6,X6.out.2.1.kept h6,X6.out.2.2.trans (h6.mono X6.out.1.size)⟩;have q0:=X7.out.1.sx.c0;have q3:=X7.out.1.sx.c3;have ql:=X7.out.1.sx.lt;clear h6)
 refine wx9 ?_
 repeat (go_big_quiet_step (first | exact rfl))
 refine wpQuiet_nil ?_
 intro w8 hw8
 have X8:Hid (Room base w8 b s m p v D/\LK w8 b v last/\Below base w w8):=⟨X7.out.1.kept (aD hw8),X7.out.2.1.kept (aD hw8),X7.out.2.2.trans ((aD hw8).mono X7.out.1.size)⟩
 have r3:=X8.out.1.sx.c3
 have rl:=X8.out.1.sx.lt
 clear hw8
 go_wp2_with first
  |(go_at_call 96;(with_reducible refine(CC.out _ X8.out.1.sx).mono ?_);rintro e w9 ⟨rfl,h6⟩;have X9:Hid (Room base w9 b s m p v D/\LK w9 b v last/\Below base w w9):=⟨X8.out.1.kept h6,X8.out.2.1.kept h6,X8.out.2.2.trans (h6.mono X8.out.1.size)⟩;have s3:=X9.out.1.sx.c3;have sl:=X9.out.1.sx.lt;clear h6)
  |(go_at_call 96;(with_reducible refine(CO.out _ X9.out.1.sx).mono ?_);rintro e w10 ⟨rfl,h6⟩;have X10:Hid (Room base w10 b s m p v D/\LK w10 b v last/\Below base w w10):=⟨X9.out.1.kept h6,X9.out.2.1.kept h6,X9.out.2.2.trans (h6.mono X9.out.1.size)⟩;have t3:=X10.out.1.sx.c3;have t1:=X10.out.1.sx.c1;have tl:=X10.out.1.sx.lt;clear h6)
  |(go_at_call 98;(with_reducible refine(aE1 X10.out.1 X10.out.2.1).mono ?_);rintro e w11 h9;have hz:=h9.1;subst hz;have X11:Hid (Puts base w b s m p D (esc m s p last) (.returned (.tuple #[])) w11):=h9.from X10.out.2.2;clear h9)
 go_end0
 exact X11.out
theorem aK6(h:Room base w b s m p v D)(hk:LK w b v last){n:Nat}(hu:un m s p=(46,n)) :
  Calls Tryz.prog 71 #[.pointer (some ⟨b,0,none⟩)] w (Puts base w b s m p D (.ok (bB m [] true,p+1))):=by
 have hs:=h.len
 have hp:=h.at_
 have c0:=h.sx.c0
 have c1:=h.sx.c1
 have c3:=h.sx.c3
 have lb:=h.sx.lt
 have bs:=h.size
 obtain⟨P1,hP1⟩:∃ P1,P1=p+1:=⟨_,rfl⟩
 have hw1:IntKind.wrap .i64 ((p:Int)+1)=(P1:Int):=by rw [wrap_small _ (by omega) (by omega)];omega
 obtain⟨CL,hCL⟩:∃ CL,CL=aJ s P1 [92,41]:=⟨_,rfl⟩
 obtain⟨OR,hOR⟩:∃ OR,OR=aJ s P1 [92,124]:=⟨_,rfl⟩
 obtain⟨EN,hEN⟩:∃ EN,EN=decide (P1=s.size):=⟨_,rfl⟩
 have dEN:((P1:Int)==(s.size:Int))=EN:=by rw [hEN,Bool.eq_iff_iff];simp;omega
 have CC:Hid (∀ W,SX W b s m p v 0 0->_):=aC (fD hs P1 (by omega) 92 41 hCL)
 have CO:Hid (∀ W,SX W b s m p v 0 0->_):=aC (fD hs P1 (by omega) 92 124 hOR)
 have hU:∀ W,Calls Tryz.prog 93 #[.string s,.int .i64 (p:Int),.bool m.c] W fun e w'=>e=.returned (.tuple #[.int .i64 46,.int .i64 ((n:Nat):Int)])/\Below W.heap.size W w':=fun W=>by
  have:=dB s p m W hp hs
  rw [hu] at this
  exact this
 have H:Hid (Room base w b s m p v D/\LK w b v last):=⟨h,hk⟩
 clear h hk hP1 hCL hOR hEN hu
 go_enter Tryz.func71,Tryz.ntmps71
 go_wp2
 refine wx9 ?_
 repeat (go_big_quiet_step (first | exact rfl |(go_at_call 93;exact bI (hU _))))
 refine wpQuiet_nil ?_
 intro w5 hw5
 have X5:Hid (Room base w5 b s m p v D/\LK w5 b v last/\Below base w w5):=⟨H.out.1.kept (aD hw5),H.out.2.kept (aD hw5),(aD hw5).mono bs⟩
 clear hw5
 go_wp2_with first
  |(go_at_call 94;(with_reducible refine(bG X5.out.1.sx X5.out.2.1).mono ?_);rintro e w6 ⟨rfl,h6⟩;have X6:Hid (Room base w6 b s m p v D/\LK w6 b v last/\Below base w w6):=⟨X5.out.1.kept h6,X5.out.2.1.kept h6,X5.out.2.2.trans (h6.mono X5.out.1.size)⟩;clear h6)
  |(go_at_call 95;(with_reducible refine(dN X6.out.1.sx X6.out.2.1).mono ?_);rintro e w7 ⟨rfl,h6⟩;have X7:Hid (Room base w7 b s m p v D/\LK w7 b v last/\Below base w w7):=⟨X6.out.1.kept h6,X6.out.2.1.kept h6,X6.out.2.2.trans (h6.mono X6.out.1.size)⟩;have q0:=X7.out.1.sx.c0;have q3:=X7.out.1.sx.c3;have ql:=X7.out.1.sx.lt;clear h6)
 refine wx9 ?_
 repeat (go_big_quiet_step (first | exact rfl))
 refine wpQuiet_nil ?_
 intro w8 hw8
 have X8:Hid (Room base w8 b s m p v D/\LK w8 b v last/\Below base w w8):=⟨X7.out.1.kept (aD hw8),X7.out.2.1.kept (aD hw8),X7.out.2.2.trans ((aD hw8).mono X7.out.1.size)⟩
 have r3:=X8.out.1.sx.c3
 have rl:=X8.out.1.sx.lt
 clear hw8
 go_wp2_with first
  |(go_at_call 96;(with_reducible refine(CC.out _ X8.out.1.sx).mono ?_);rintro e w9 ⟨rfl,h6⟩;have X9:Hid (Room base w9 b s m p v D/\LK w9 b v last/\Below base w w9):=⟨X8.out.1.kept h6,X8.out.2.1.kept h6,X8.out.2.2.trans (h6.mono X8.out.1.size)⟩;have s3:=X9.out.1.sx.c3;have sl:=X9.out.1.sx.lt;clear h6)
  |(go_at_call 96;(with_reducible refine(CO.out _ X9.out.1.sx).mono ?_);rintro e w10 ⟨rfl,h6⟩;have X10:Hid (Room base w10 b s m p v D/\LK w10 b v last/\Below base w w10):=⟨X9.out.1.kept h6,X9.out.2.1.kept h6,X9.out.2.2.trans (h6.mono X9.out.1.size)⟩;have t3:=X10.out.1.sx.c3;have t1:=X10.out.1.sx.c1;have tl:=X10.out.1.sx.lt;clear h6)
  |(go_at_call 101;(with_reducible refine(xW m.c _).mono ?_);rintro e w12 ⟨v12,rfl,h1,h4⟩;obtain⟨q12,k12,rfl⟩:=h1.shape;have X12:Hid (Room base w12 b s m p v D/\Below base w w12/\RR w10.heap.size w12 (.slice q12 (bS m.c).length k12) (bS m.c)):=⟨X10.out.1.kept h4,X10.out.2.2.trans (h4.mono X10.out.1.size),h1⟩;clear h1 h4)
  |(go_at_call 100;refine(X12.out.1.put (t:=bB m [] true) (rv:=.slice q12 (bS m.c).length k12) (C:=bS m.c) (RR.mono X12.out.2.2 X10.out.1.size) (bA5 m) (X10.out.1.new X12.out.2.2) (n:=1) (q:=p+1) rfl (by omega)).mono ?_;rintro e w11 h9;have hz:=h9.1;subst hz;have X11:Hid (Puts base w b s m p D (.ok (bB m [] true,p+1)) (.returned (.tuple #[])) w11):=h9.from X12.out.2.1;clear h9)
 go_end0
 exact X11.out
theorem aD2(h:Room base w b s m p v D)(hk:LK w b v last){n:Nat}(hu:un m s p=(42,n))(hbg:cS last=false) :
  Calls Tryz.prog 71 #[.pointer (some ⟨b,0,none⟩)] w (Puts base w b s m p D (.ok (cQ 0 (-1),p+1))):=by
 have hs:=h.len
 have hp:=h.at_
 have c0:=h.sx.c0
 have c1:=h.sx.c1
 have c3:=h.sx.c3
 have lb:=h.sx.lt
 have bs:=h.size
 obtain⟨P1,hP1⟩:∃ P1,P1=p+1:=⟨_,rfl⟩
 have hw1:IntKind.wrap .i64 ((p:Int)+1)=(P1:Int):=by rw [wrap_small _ (by omega) (by omega)];omega
 obtain⟨CL,hCL⟩:∃ CL,CL=aJ s P1 [92,41]:=⟨_,rfl⟩
 obtain⟨OR,hOR⟩:∃ OR,OR=aJ s P1 [92,124]:=⟨_,rfl⟩
 obtain⟨EN,hEN⟩:∃ EN,EN=decide (P1=s.size):=⟨_,rfl⟩
 have dEN:((P1:Int)==(s.size:Int))=EN:=by rw [hEN,Bool.eq_iff_iff];simp;omega
 have CC:Hid (∀ W,SX W b s m p v 0 0->_):=aC (fD hs P1 (by omega) 92 41 hCL)
 have CO:Hid (∀ W,SX W b s m p v 0 0->_):=aC (fD hs P1 (by omega) 92 124 hOR)
 have hU:∀ W,Calls Tryz.prog 93 #[.string s,.int .i64 (p:Int),.bool m.c] W fun e w'=>e=.returned (.tuple #[.int .i64 42,.int .i64 ((n:Nat):Int)])/\Below W.heap.size W w':=fun W=>by
  have:=dB s p m W hp hs
  rw [hu] at this
  exact this
 have H:Hid (Room base w b s m p v D/\LK w b v last):=⟨h,hk⟩
 clear h hk hP1 hCL hOR hEN hu
 go_enter Tryz.func71,Tryz.ntmps71
 go_wp2
 refine wx9 ?_
 repeat (go_big_quiet_step (first | exact rfl |(go_at_call 93;exact bI (hU _))))
 refine wpQuiet_nil ?_
 intro w5 hw5
 have X5:Hid (Room base w5 b s m p v D/\LK w5 b v last/\Below base w w5):=⟨H.out.1.kept (aD hw5),H.out.2.kept (aD hw5),(aD hw5).mono bs⟩
 clear hw5
 go_wp2_with first
  |(go_at_call 94;(with_reducible refine(bG X5.out.1.sx X5.out.2.1).mono ?_);rintro e w6 ⟨rfl,h6⟩;have X6:Hid (Room base w6 b s m p v D/\LK w6 b v last/\Below base w w6):=⟨X5.out.1.kept h6,X5.out.2.1.kept h6,X5.out.2.2.trans (h6.mono X5.out.1.size)⟩;clear h6)
  |(go_at_call 95;(with_reducible refine(dN X6.out.1.sx X6.out.2.1).mono ?_);rintro e w7 ⟨rfl,h6⟩;have X7:Hid (Room base w7 b s m p v D/\LK w7 b v last/\Below base w w7):=⟨X6.out.1.kept h6,X6.out.2.1.kept h6,X6.out.2.2.trans (h6.mono X6.out.1.size)⟩;have q0:=X7.out.1.sx.c0;have q3:=X7.out.1.sx.c3;have ql:=X7.out.1.sx.lt;clear h6)
 refine wx9 ?_
 repeat (go_big_quiet_step (first | exact rfl))
 refine wpQuiet_nil ?_
 intro w8 hw8
 have X8:Hid (Room base w8 b s m p v D/\LK w8 b v last/\Below base w w8):=⟨X7.out.1.kept (aD hw8),X7.out.2.1.kept (aD hw8),X7.out.2.2.trans ((aD hw8).mono X7.out.1.size)⟩
 have r3:=X8.out.1.sx.c3
 have rl:=X8.out.1.sx.lt
 clear hw8
 go_wp2_with first
  |(go_at_call 96;(with_reducible refine(CC.out _ X8.out.1.sx).mono ?_);rintro e w9 ⟨rfl,h6⟩;have X9:Hid (Room base w9 b s m p v D/\LK w9 b v last/\Below base w w9):=⟨X8.out.1.kept h6,X8.out.2.1.kept h6,X8.out.2.2.trans (h6.mono X8.out.1.size)⟩;have s3:=X9.out.1.sx.c3;have sl:=X9.out.1.sx.lt;clear h6)
  |(go_at_call 96;(with_reducible refine(CO.out _ X9.out.1.sx).mono ?_);rintro e w10 ⟨rfl,h6⟩;have X10:Hid (Room base w10 b s m p v D/\LK w10 b v last/\Below base w w10):=⟨X9.out.1.kept h6,X9.out.2.1.kept h6,X9.out.2.2.trans (h6.mono X9.out.1.size)⟩;have t3:=X10.out.1.sx.c3;have t1:=X10.out.1.sx.c1;have tl:=X10.out.1.sx.lt;clear h6)
  |(go_at_call 100;refine(X10.out.1.put0 (t:=cQ 0 (-1)) rfl (n:=1) (q:=p+1) rfl (by omega)).mono ?_;rintro e w11 h9;have hz:=h9.1;subst hz;have X11:Hid (Puts base w b s m p D (.ok (cQ 0 (-1),p+1)) (.returned (.tuple #[])) w11):=h9.from X10.out.2.2;clear h9)
 go_end0
 exact X11.out
theorem aK5(h:Room base w b s m p v D)(hk:LK w b v last){n:Nat}(hu:un m s p=(94,n))(hop:opn last=true) :
  Calls Tryz.prog 71 #[.pointer (some ⟨b,0,none⟩)] w (Puts base w b s m p D (.ok (kT 7,p+1))):=by
 have hs:=h.len
 have hp:=h.at_
 have c0:=h.sx.c0
 have c1:=h.sx.c1
 have c3:=h.sx.c3
 have lb:=h.sx.lt
 have bs:=h.size
 obtain⟨P1,hP1⟩:∃ P1,P1=p+1:=⟨_,rfl⟩
 have hw1:IntKind.wrap .i64 ((p:Int)+1)=(P1:Int):=by rw [wrap_small _ (by omega) (by omega)];omega
 obtain⟨CL,hCL⟩:∃ CL,CL=aJ s P1 [92,41]:=⟨_,rfl⟩
 obtain⟨OR,hOR⟩:∃ OR,OR=aJ s P1 [92,124]:=⟨_,rfl⟩
 obtain⟨EN,hEN⟩:∃ EN,EN=decide (P1=s.size):=⟨_,rfl⟩
 have dEN:((P1:Int)==(s.size:Int))=EN:=by rw [hEN,Bool.eq_iff_iff];simp;omega
 have CC:Hid (∀ W,SX W b s m p v 0 0->_):=aC (fD hs P1 (by omega) 92 41 hCL)
 have CO:Hid (∀ W,SX W b s m p v 0 0->_):=aC (fD hs P1 (by omega) 92 124 hOR)
 have hU:∀ W,Calls Tryz.prog 93 #[.string s,.int .i64 (p:Int),.bool m.c] W fun e w'=>e=.returned (.tuple #[.int .i64 94,.int .i64 ((n:Nat):Int)])/\Below W.heap.size W w':=fun W=>by
  have:=dB s p m W hp hs
  rw [hu] at this
  exact this
 have H:Hid (Room base w b s m p v D/\LK w b v last):=⟨h,hk⟩
 clear h hk hP1 hCL hOR hEN hu
 go_enter Tryz.func71,Tryz.ntmps71
 go_wp2
 refine wx9 ?_
 repeat (go_big_quiet_step (first | exact rfl |(go_at_call 93;exact bI (hU _))))
 refine wpQuiet_nil ?_
 intro w5 hw5
 have X5:Hid (Room base w5 b s m p v D/\LK w5 b v last/\Below base w w5):=⟨H.out.1.kept (aD hw5),H.out.2.kept (aD hw5),(aD hw5).mono bs⟩
 clear hw5
 go_wp2_with first
  |(go_at_call 94;(with_reducible refine(bG X5.out.1.sx X5.out.2.1).mono ?_);rintro e w6 ⟨rfl,h6⟩;have X6:Hid (Room base w6 b s m p v D/\LK w6 b v last/\Below base w w6):=⟨X5.out.1.kept h6,X5.out.2.1.kept h6,X5.out.2.2.trans (h6.mono X5.out.1.size)⟩;clear h6)
  |(go_at_call 95;(with_reducible refine(dN X6.out.1.sx X6.out.2.1).mono ?_);rintro e w7 ⟨rfl,h6⟩;have X7:Hid (Room base w7 b s m p v D/\LK w7 b v last/\Below base w w7):=⟨X6.out.1.kept h6,X6.out.2.1.kept h6,X6.out.2.2.trans (h6.mono X6.out.1.size)⟩;have q0:=X7.out.1.sx.c0;have q3:=X7.out.1.sx.c3;have ql:=X7.out.1.sx.lt;clear h6)
 refine wx9 ?_
 repeat (go_big_quiet_step (first | exact rfl))
 refine wpQuiet_nil ?_
 intro w8 hw8
 have X8:Hid (Room base w8 b s m p v D/\LK w8 b v last/\Below base w w8):=⟨X7.out.1.kept (aD hw8),X7.out.2.1.kept (aD hw8),X7.out.2.2.trans ((aD hw8).mono X7.out.1.size)⟩
 have r3:=X8.out.1.sx.c3
 have rl:=X8.out.1.sx.lt
 clear hw8
 go_wp2_with first
  |(go_at_call 96;(with_reducible refine(CC.out _ X8.out.1.sx).mono ?_);rintro e w9 ⟨rfl,h6⟩;have X9:Hid (Room base w9 b s m p v D/\LK w9 b v last/\Below base w w9):=⟨X8.out.1.kept h6,X8.out.2.1.kept h6,X8.out.2.2.trans (h6.mono X8.out.1.size)⟩;have s3:=X9.out.1.sx.c3;have sl:=X9.out.1.sx.lt;clear h6)
  |(go_at_call 96;(with_reducible refine(CO.out _ X9.out.1.sx).mono ?_);rintro e w10 ⟨rfl,h6⟩;have X10:Hid (Room base w10 b s m p v D/\LK w10 b v last/\Below base w w10):=⟨X9.out.1.kept h6,X9.out.2.1.kept h6,X9.out.2.2.trans (h6.mono X9.out.1.size)⟩;have t3:=X10.out.1.sx.c3;have t1:=X10.out.1.sx.c1;have tl:=X10.out.1.sx.lt;clear h6)
  |(go_at_call 100;refine(X10.out.1.put0 (t:=kT 7) rfl (n:=1) (q:=p+1) rfl (by omega)).mono ?_;rintro e w11 h9;have hz:=h9.1;subst hz;have X11:Hid (Puts base w b s m p D (.ok (kT 7,p+1)) (.returned (.tuple #[])) w11):=h9.from X10.out.2.2;clear h9)
 go_end0
 exact X11.out
theorem aD5(h:Room base w b s m p v D)(hk:LK w b v last){n:Nat}(hu:un m s p=(36,n))(he:p+1=s.size) :
  Calls Tryz.prog 71 #[.pointer (some ⟨b,0,none⟩)] w (Puts base w b s m p D (.ok (kT 8,p+1))):=by
 have hs:=h.len
 have hp:=h.at_
 have c0:=h.sx.c0
 have c1:=h.sx.c1
 have c3:=h.sx.c3
 have lb:=h.sx.lt
 have bs:=h.size
 obtain⟨P1,hP1⟩:∃ P1,P1=p+1:=⟨_,rfl⟩
 have hw1:IntKind.wrap .i64 ((p:Int)+1)=(P1:Int):=by rw [wrap_small _ (by omega) (by omega)];omega
 obtain⟨CL,hCL⟩:∃ CL,CL=aJ s P1 [92,41]:=⟨_,rfl⟩
 obtain⟨OR,hOR⟩:∃ OR,OR=aJ s P1 [92,124]:=⟨_,rfl⟩
 obtain⟨EN,hEN⟩:∃ EN,EN=decide (P1=s.size):=⟨_,rfl⟩
 have dEN:((P1:Int)==(s.size:Int))=EN:=by rw [hEN,Bool.eq_iff_iff];simp;omega
 have CC:Hid (∀ W,SX W b s m p v 0 0->_):=aC (fD hs P1 (by omega) 92 41 hCL)
 have CO:Hid (∀ W,SX W b s m p v 0 0->_):=aC (fD hs P1 (by omega) 92 124 hOR)
 have hU:∀ W,Calls Tryz.prog 93 #[.string s,.int .i64 (p:Int),.bool m.c] W fun e w'=>e=.returned (.tuple #[.int .i64 36,.int .i64 ((n:Nat):Int)])/\Below W.heap.size W w':=fun W=>by
  have:=dB s p m W hp hs
  rw [hu] at this
  exact this
 have kE:EN=true:=by rw [hEN,decide_eq_true_eq];omega
 subst kE
 have H:Hid (Room base w b s m p v D/\LK w b v last):=⟨h,hk⟩
 clear h hk hP1 hCL hOR hEN hu
 go_enter Tryz.func71,Tryz.ntmps71
 go_wp2
 refine wx9 ?_
 repeat (go_big_quiet_step (first | exact rfl |(go_at_call 93;exact bI (hU _))))
 refine wpQuiet_nil ?_
 intro w5 hw5
 have X5:Hid (Room base w5 b s m p v D/\LK w5 b v last/\Below base w w5):=⟨H.out.1.kept (aD hw5),H.out.2.kept (aD hw5),(aD hw5).mono bs⟩
 clear hw5
 go_wp2_with first
  |(go_at_call 94;(with_reducible refine(bG X5.out.1.sx X5.out.2.1).mono ?_);rintro e w6 ⟨rfl,h6⟩;have X6:Hid (Room base w6 b s m p v D/\LK w6 b v last/\Below base w w6):=⟨X5.out.1.kept h6,X5.out.2.1.kept h6,X5.out.2.2.trans (h6.mono X5.out.1.size)⟩;clear h6)
  |(go_at_call 95;(with_reducible refine(dN X6.out.1.sx X6.out.2.1).mono ?_);rintro e w7 ⟨rfl,h6⟩;have X7:Hid (Room base w7 b s m p v D/\LK w7 b v last/\Below base w w7):=⟨X6.out.1.kept h6,X6.out.2.1.kept h6,X6.out.2.2.trans (h6.mono X6.out.1.size)⟩;have q0:=X7.out.1.sx.c0;have q3:=X7.out.1.sx.c3;have ql:=X7.out.1.sx.lt;clear h6)
 refine wx9 ?_
 repeat (go_big_quiet_step (first | exact rfl))
 refine wpQuiet_nil ?_
 intro w8 hw8
 have X8:Hid (Room base w8 b s m p v D/\LK w8 b v last/\Below base w w8):=⟨X7.out.1.kept (aD hw8),X7.out.2.1.kept (aD hw8),X7.out.2.2.trans ((aD hw8).mono X7.out.1.size)⟩
 have r3:=X8.out.1.sx.c3
 have rl:=X8.out.1.sx.lt
 clear hw8
 go_wp2_with first
  |(go_at_call 96;(with_reducible refine(CC.out _ X8.out.1.sx).mono ?_);rintro e w9 ⟨rfl,h6⟩;have X9:Hid (Room base w9 b s m p v D/\LK w9 b v last/\Below base w w9):=⟨X8.out.1.kept h6,X8.out.2.1.kept h6,X8.out.2.2.trans (h6.mono X8.out.1.size)⟩;have s3:=X9.out.1.sx.c3;have sl:=X9.out.1.sx.lt;clear h6)
  |(go_at_call 96;(with_reducible refine(CO.out _ X9.out.1.sx).mono ?_);rintro e w10 ⟨rfl,h6⟩;have X10:Hid (Room base w10 b s m p v D/\LK w10 b v last/\Below base w w10):=⟨X9.out.1.kept h6,X9.out.2.1.kept h6,X9.out.2.2.trans (h6.mono X9.out.1.size)⟩;have t3:=X10.out.1.sx.c3;have t1:=X10.out.1.sx.c1;have tl:=X10.out.1.sx.lt;clear h6)
  |(go_at_call 100;refine(X10.out.1.put0 (t:=kT 8) rfl (n:=1) (q:=p+1) rfl (by omega)).mono ?_;rintro e w11 h9;have hz:=h9.1;subst hz;have X11:Hid (Puts base w b s m p D (.ok (kT 8,p+1)) (.returned (.tuple #[])) w11):=h9.from X10.out.2.2;clear h9)
 go_end0
 exact X11.out
theorem aD4(h:Room base w b s m p v D)(hk:LK w b v last){n:Nat}(hu:un m s p=(36,n))(he:¬ p+1=s.size)(hc:aJ s (p+1) [92,41]=true) :
  Calls Tryz.prog 71 #[.pointer (some ⟨b,0,none⟩)] w (Puts base w b s m p D (.ok (kT 8,p+1))):=by
 have hs:=h.len
 have hp:=h.at_
 have c0:=h.sx.c0
 have c1:=h.sx.c1
 have c3:=h.sx.c3
 have lb:=h.sx.lt
 have bs:=h.size
 obtain⟨P1,hP1⟩:∃ P1,P1=p+1:=⟨_,rfl⟩
 have hw1:IntKind.wrap .i64 ((p:Int)+1)=(P1:Int):=by rw [wrap_small _ (by omega) (by omega)];omega
 obtain⟨CL,hCL⟩:∃ CL,CL=aJ s P1 [92,41]:=⟨_,rfl⟩
 obtain⟨OR,hOR⟩:∃ OR,OR=aJ s P1 [92,124]:=⟨_,rfl⟩
 obtain⟨EN,hEN⟩:∃ EN,EN=decide (P1=s.size):=⟨_,rfl⟩
 have dEN:((P1:Int)==(s.size:Int))=EN:=by rw [hEN,Bool.eq_iff_iff];simp;omega
 have CC:Hid (∀ W,SX W b s m p v 0 0->_):=aC (fD hs P1 (by omega) 92 41 hCL)
 have CO:Hid (∀ W,SX W b s m p v 0 0->_):=aC (fD hs P1 (by omega) 92 124 hOR)
 have hU:∀ W,Calls Tryz.prog 93 #[.string s,.int .i64 (p:Int),.bool m.c] W fun e w'=>e=.returned (.tuple #[.int .i64 36,.int .i64 ((n:Nat):Int)])/\Below W.heap.size W w':=fun W=>by
  have:=dB s p m W hp hs
  rw [hu] at this
  exact this
 have kE:EN=false:=by rw [hEN,decide_eq_false_iff_not];omega
 subst kE
 have kC:CL=true:=by rw [hCL,hP1];exact hc
 subst kC
 have H:Hid (Room base w b s m p v D/\LK w b v last):=⟨h,hk⟩
 clear h hk hP1 hCL hOR hEN hu
 go_enter Tryz.func71,Tryz.ntmps71
 go_wp2
 refine wx9 ?_
 repeat (go_big_quiet_step (first | exact rfl |(go_at_call 93;exact bI (hU _))))
 refine wpQuiet_nil ?_
 intro w5 hw5
 have X5:Hid (Room base w5 b s m p v D/\LK w5 b v last/\Below base w w5):=⟨H.out.1.kept (aD hw5),H.out.2.kept (aD hw5),(aD hw5).mono bs⟩
 clear hw5
 go_wp2_with first
  |(go_at_call 94;(with_reducible refine(bG X5.out.1.sx X5.out.2.1).mono ?_);rintro e w6 ⟨rfl,h6⟩;have X6:Hid (Room base w6 b s m p v D/\LK w6 b v last/\Below base w w6):=⟨X5.out.1.kept h6,X5.out.2.1.kept h6,X5.out.2.2.trans (h6.mono X5.out.1.size)⟩;clear h6)
  |(go_at_call 95;(with_reducible refine(dN X6.out.1.sx X6.out.2.1).mono ?_);rintro e w7 ⟨rfl,h6⟩;have X7:Hid (Room base w7 b s m p v D/\LK w7 b v last/\Below base w w7):=⟨X6.out.1.kept h6,X6.out.2.1.kept h6,X6.out.2.2.trans (h6.mono X6.out.1.size)⟩;have q0:=X7.out.1.sx.c0;have q3:=X7.out.1.sx.c3;have ql:=X7.out.1.sx.lt;clear h6)
 refine wx9 ?_
 repeat (go_big_quiet_step (first | exact rfl))
 refine wpQuiet_nil ?_
 intro w8 hw8
 have X8:Hid (Room base w8 b s m p v D/\LK w8 b v last/\Below base w w8):=⟨X7.out.1.kept (aD hw8),X7.out.2.1.kept (aD hw8),X7.out.2.2.trans ((aD hw8).mono X7.out.1.size)⟩
 have r3:=X8.out.1.sx.c3
 have rl:=X8.out.1.sx.lt
 clear hw8
 go_wp2_with first
  |(go_at_call 96;(with_reducible refine(CC.out _ X8.out.1.sx).mono ?_);rintro e w9 ⟨rfl,h6⟩;have X9:Hid (Room base w9 b s m p v D/\LK w9 b v last/\Below base w w9):=⟨X8.out.1.kept h6,X8.out.2.1.kept h6,X8.out.2.2.trans (h6.mono X8.out.1.size)⟩;have s3:=X9.out.1.sx.c3;have sl:=X9.out.1.sx.lt;clear h6)
  |(go_at_call 96;(with_reducible refine(CO.out _ X9.out.1.sx).mono ?_);rintro e w10 ⟨rfl,h6⟩;have X10:Hid (Room base w10 b s m p v D/\LK w10 b v last/\Below base w w10):=⟨X9.out.1.kept h6,X9.out.2.1.kept h6,X9.out.2.2.trans (h6.mono X9.out.1.size)⟩;have t3:=X10.out.1.sx.c3;have t1:=X10.out.1.sx.c1;have tl:=X10.out.1.sx.lt;clear h6)
  |(go_at_call 100;refine(X10.out.1.put0 (t:=kT 8) rfl (n:=1) (q:=p+1) rfl (by omega)).mono ?_;rintro e w11 h9;have hz:=h9.1;subst hz;have X11:Hid (Puts base w b s m p D (.ok (kT 8,p+1)) (.returned (.tuple #[])) w11):=h9.from X10.out.2.2;clear h9)
 go_end0
 exact X11.out
theorem aD3(h:Room base w b s m p v D)(hk:LK w b v last){n:Nat}(hu:un m s p=(36,n))(he:¬ p+1=s.size)(hc:aJ s (p+1) [92,41]=false)(ho:aJ s (p+1) [92,124]=true) :
  Calls Tryz.prog 71 #[.pointer (some ⟨b,0,none⟩)] w (Puts base w b s m p D (.ok (kT 8,p+1))):=by
 have hs:=h.len
 have hp:=h.at_
 have c0:=h.sx.c0
 have c1:=h.sx.c1
 have c3:=h.sx.c3
 have lb:=h.sx.lt
 have bs:=h.size
 obtain⟨P1,hP1⟩:∃ P1,P1=p+1:=⟨_,rfl⟩
 have hw1:IntKind.wrap .i64 ((p:Int)+1)=(P1:Int):=by rw [wrap_small _ (by omega) (by omega)];omega
 obtain⟨CL,hCL⟩:∃ CL,CL=aJ s P1 [92,41]:=⟨_,rfl⟩
 obtain⟨OR,hOR⟩:∃ OR,OR=aJ s P1 [92,124]:=⟨_,rfl⟩
 obtain⟨EN,hEN⟩:∃ EN,EN=decide (P1=s.size):=⟨_,rfl⟩
 have dEN:((P1:Int)==(s.size:Int))=EN:=by rw [hEN,Bool.eq_iff_iff];simp;omega
 have CC:Hid (∀ W,SX W b s m p v 0 0->_):=aC (fD hs P1 (by omega) 92 41 hCL)
 have CO:Hid (∀ W,SX W b s m p v 0 0->_):=aC (fD hs P1 (by omega) 92 124 hOR)
 have hU:∀ W,Calls Tryz.prog 93 #[.string s,.int .i64 (p:Int),.bool m.c] W fun e w'=>e=.returned (.tuple #[.int .i64 36,.int .i64 ((n:Nat):Int)])/\Below W.heap.size W w':=fun W=>by
  have:=dB s p m W hp hs
  rw [hu] at this
  exact this
 have kE:EN=false:=by rw [hEN,decide_eq_false_iff_not];omega
 subst kE
 have kC:CL=false:=by rw [hCL,hP1];exact hc
 subst kC
 have kO:OR=true:=by rw [hOR,hP1];exact ho
 subst kO
 have H:Hid (Room base w b s m p v D/\LK w b v last):=⟨h,hk⟩
 clear h hk hP1 hCL hOR hEN hu
 go_enter Tryz.func71,Tryz.ntmps71
 go_wp2
 refine wx9 ?_
 repeat (go_big_quiet_step (first | exact rfl |(go_at_call 93;exact bI (hU _))))
 refine wpQuiet_nil ?_
 intro w5 hw5
 have X5:Hid (Room base w5 b s m p v D/\LK w5 b v last/\Below base w w5):=⟨H.out.1.kept (aD hw5),H.out.2.kept (aD hw5),(aD hw5).mono bs⟩
 clear hw5
 go_wp2_with first
  |(go_at_call 94;(with_reducible refine(bG X5.out.1.sx X5.out.2.1).mono ?_);rintro e w6 ⟨rfl,h6⟩;have X6:Hid (Room base w6 b s m p v D/\LK w6 b v last/\Below base w w6):=⟨X5.out.1.kept h6,X5.out.2.1.kept h6,X5.out.2.2.trans (h6.mono X5.out.1.size)⟩;clear h6)
  |(go_at_call 95;(with_reducible refine(dN X6.out.1.sx X6.out.2.1).mono ?_);rintro e w7 ⟨rfl,h6⟩;have X7:Hid (Room base w7 b s m p v D/\LK w7 b v last/\Below base w w7):=⟨X6.out.1.kept h6,X6.out.2.1.kept h6,X6.out.2.2.trans (h6.mono X6.out.1.size)⟩;have q0:=X7.out.1.sx.c0;have q3:=X7.out.1.sx.c3;have ql:=X7.out.1.sx.lt;clear h6)
 refine wx9 ?_
 repeat (go_big_quiet_step (first | exact rfl))
 refine wpQuiet_nil ?_
 intro w8 hw8
 have X8:Hid (Room base w8 b s m p v D/\LK w8 b v last/\Below base w w8):=⟨X7.out.1.kept (aD hw8),X7.out.2.1.kept (aD hw8),X7.out.2.2.trans ((aD hw8).mono X7.out.1.size)⟩
 have r3:=X8.out.1.sx.c3
 have rl:=X8.out.1.sx.lt
 clear hw8
 go_wp2_with first
  |(go_at_call 96;(with_reducible refine(CC.out _ X8.out.1.sx).mono ?_);rintro e w9 ⟨rfl,h6⟩;have X9:Hid (Room base w9 b s m p v D/\LK w9 b v last/\Below base w w9):=⟨X8.out.1.kept h6,X8.out.2.1.kept h6,X8.out.2.2.trans (h6.mono X8.out.1.size)⟩;have s3:=X9.out.1.sx.c3;have sl:=X9.out.1.sx.lt;clear h6)
  |(go_at_call 96;(with_reducible refine(CO.out _ X9.out.1.sx).mono ?_);rintro e w10 ⟨rfl,h6⟩;have X10:Hid (Room base w10 b s m p v D/\LK w10 b v last/\Below base w w10):=⟨X9.out.1.kept h6,X9.out.2.1.kept h6,X9.out.2.2.trans (h6.mono X9.out.1.size)⟩;have t3:=X10.out.1.sx.c3;have t1:=X10.out.1.sx.c1;have tl:=X10.out.1.sx.lt;clear h6)
  |(go_at_call 100;refine(X10.out.1.put0 (t:=kT 8) rfl (n:=1) (q:=p+1) rfl (by omega)).mono ?_;rintro e w11 h9;have hz:=h9.1;subst hz;have X11:Hid (Puts base w b s m p D (.ok (kT 8,p+1)) (.returned (.tuple #[])) w11):=h9.from X10.out.2.2;clear h9)
 go_end0
 exact X11.out
theorem xI(h:Room base w b s m p v D)(hk:LK w b v last){n:Nat}(hu:un m s p=(42,n))(hbg:cS last=true) :
  Calls Tryz.prog 71 #[.pointer (some ⟨b,0,none⟩)] w (Puts base w b s m p D (.ok (bB m [(42,42)] false,p+n))):=by
 have hs:=h.len
 have hp:=h.at_
 have c0:=h.sx.c0
 have c1:=h.sx.c1
 have c3:=h.sx.c3
 have lb:=h.sx.lt
 have bs:=h.size
 obtain⟨P1,hP1⟩:∃ P1,P1=p+1:=⟨_,rfl⟩
 have hw1:IntKind.wrap .i64 ((p:Int)+1)=(P1:Int):=by rw [wrap_small _ (by omega) (by omega)];omega
 obtain⟨CL,hCL⟩:∃ CL,CL=aJ s P1 [92,41]:=⟨_,rfl⟩
 obtain⟨OR,hOR⟩:∃ OR,OR=aJ s P1 [92,124]:=⟨_,rfl⟩
 obtain⟨EN,hEN⟩:∃ EN,EN=decide (P1=s.size):=⟨_,rfl⟩
 have dEN:((P1:Int)==(s.size:Int))=EN:=by rw [hEN,Bool.eq_iff_iff];simp;omega
 have CC:Hid (∀ W,SX W b s m p v 0 0->_):=aC (fD hs P1 (by omega) 92 41 hCL)
 have CO:Hid (∀ W,SX W b s m p v 0 0->_):=aC (fD hs P1 (by omega) 92 124 hOR)
 have hU:∀ W,Calls Tryz.prog 93 #[.string s,.int .i64 (p:Int),.bool m.c] W fun e w'=>e=.returned (.tuple #[.int .i64 42,.int .i64 ((n:Nat):Int)])/\Below W.heap.size W w':=fun W=>by
  have:=dB s p m W hp hs
  rw [hu] at this
  exact this
 have hwd:=lH m s p hp
 rw [hu] at hwd
 simp only at hwd
 have HCH:Hid (bK m.c 42):=aC (by have:=oO m (s:=s) (p:=p);rw [hu] at this;exact this (by simp only;omega))
 have H:Hid (Room base w b s m p v D/\LK w b v last):=⟨h,hk⟩
 clear h hk hP1 hCL hOR hEN hu
 go_enter Tryz.func71,Tryz.ntmps71
 go_wp2
 refine wx9 ?_
 repeat (go_big_quiet_step (first | exact rfl |(go_at_call 93;exact bI (hU _))))
 refine wpQuiet_nil ?_
 intro w5 hw5
 have X5:Hid (Room base w5 b s m p v D/\LK w5 b v last/\Below base w w5):=⟨H.out.1.kept (aD hw5),H.out.2.kept (aD hw5),(aD hw5).mono bs⟩
 clear hw5
 go_wp2_with first
  |(go_at_call 94;(with_reducible refine(bG X5.out.1.sx X5.out.2.1).mono ?_);rintro e w6 ⟨rfl,h6⟩;have X6:Hid (Room base w6 b s m p v D/\LK w6 b v last/\Below base w w6):=⟨X5.out.1.kept h6,X5.out.2.1.kept h6,X5.out.2.2.trans (h6.mono X5.out.1.size)⟩;clear h6)
  |(go_at_call 95;(with_reducible refine(dN X6.out.1.sx X6.out.2.1).mono ?_);rintro e w7 ⟨rfl,h6⟩;have X7:Hid (Room base w7 b s m p v D/\LK w7 b v last/\Below base w w7):=⟨X6.out.1.kept h6,X6.out.2.1.kept h6,X6.out.2.2.trans (h6.mono X6.out.1.size)⟩;have q0:=X7.out.1.sx.c0;have q3:=X7.out.1.sx.c3;have ql:=X7.out.1.sx.lt;clear h6)
 refine wx9 ?_
 repeat (go_big_quiet_step (first | exact rfl))
 refine wpQuiet_nil ?_
 intro w8 hw8
 have X8:Hid (Room base w8 b s m p v D/\LK w8 b v last/\Below base w w8):=⟨X7.out.1.kept (aD hw8),X7.out.2.1.kept (aD hw8),X7.out.2.2.trans ((aD hw8).mono X7.out.1.size)⟩
 have r3:=X8.out.1.sx.c3
 have rl:=X8.out.1.sx.lt
 clear hw8
 go_wp2_with first
  |(go_at_call 96;(with_reducible refine(CC.out _ X8.out.1.sx).mono ?_);rintro e w9 ⟨rfl,h6⟩;have X9:Hid (Room base w9 b s m p v D/\LK w9 b v last/\Below base w w9):=⟨X8.out.1.kept h6,X8.out.2.1.kept h6,X8.out.2.2.trans (h6.mono X8.out.1.size)⟩;have s3:=X9.out.1.sx.c3;have sl:=X9.out.1.sx.lt;clear h6)
  |(go_at_call 96;(with_reducible refine(CO.out _ X9.out.1.sx).mono ?_);rintro e w10 ⟨rfl,h6⟩;have X10:Hid (Room base w10 b s m p v D/\LK w10 b v last/\Below base w w10):=⟨X9.out.1.kept h6,X9.out.2.1.kept h6,X9.out.2.2.trans (h6.mono X9.out.1.size)⟩;have t3:=X10.out.1.sx.c3;have t1:=X10.out.1.sx.c1;have tl:=X10.out.1.sx.lt;clear h6)
  |(go_at_call 102;(with_reducible refine(fZ X10.out.1.sx (c:=42) HCH.out).mono ?_);rintro e w12 ⟨v12,C12,rfl,h1,h2,h4⟩;obtain⟨q12,k12,rfl⟩:=h1.shape;have X12:Hid (Room base w12 b s m p v D/\Below base w w12/\RR w10.heap.size w12 (.slice q12 C12.length k12) C12/\IsC C12 (cP m [(42,42)] false)):=⟨X10.out.1.kept h4,X10.out.2.2.trans (h4.mono X10.out.1.size),h1,h2⟩;clear h1 h2 h4)
  |(go_at_call 100;refine(X12.out.1.put (t:=bB m [(42,42)] false) (rv:=.slice q12 C12.length k12) (C:=C12) (RR.mono X12.out.2.2.1 X10.out.1.size) X12.out.2.2.2 (X10.out.1.new X12.out.2.2.1) (n:=n) (q:=p+n) rfl (by omega)).mono ?_;rintro e w11 h9;have hz:=h9.1;subst hz;have X11:Hid (Puts base w b s m p D (.ok (bB m [(42,42)] false,p+n)) (.returned (.tuple #[])) w11):=h9.from X12.out.2.1;clear h9)
 go_end0
 exact X11.out
theorem xH(h:Room base w b s m p v D)(hk:LK w b v last){n:Nat}(hu:un m s p=(94,n))(hop:opn last=false) :
  Calls Tryz.prog 71 #[.pointer (some ⟨b,0,none⟩)] w (Puts base w b s m p D (.ok (bB m [(94,94)] false,p+n))):=by
 have hs:=h.len
 have hp:=h.at_
 have c0:=h.sx.c0
 have c1:=h.sx.c1
 have c3:=h.sx.c3
 have lb:=h.sx.lt
 have bs:=h.size
 obtain⟨P1,hP1⟩:∃ P1,P1=p+1:=⟨_,rfl⟩
 have hw1:IntKind.wrap .i64 ((p:Int)+1)=(P1:Int):=by rw [wrap_small _ (by omega) (by omega)];omega
 obtain⟨CL,hCL⟩:∃ CL,CL=aJ s P1 [92,41]:=⟨_,rfl⟩
 obtain⟨OR,hOR⟩:∃ OR,OR=aJ s P1 [92,124]:=⟨_,rfl⟩
 obtain⟨EN,hEN⟩:∃ EN,EN=decide (P1=s.size):=⟨_,rfl⟩
 have dEN:((P1:Int)==(s.size:Int))=EN:=by rw [hEN,Bool.eq_iff_iff];simp;omega
 have CC:Hid (∀ W,SX W b s m p v 0 0->_):=aC (fD hs P1 (by omega) 92 41 hCL)
 have CO:Hid (∀ W,SX W b s m p v 0 0->_):=aC (fD hs P1 (by omega) 92 124 hOR)
 have hU:∀ W,Calls Tryz.prog 93 #[.string s,.int .i64 (p:Int),.bool m.c] W fun e w'=>e=.returned (.tuple #[.int .i64 94,.int .i64 ((n:Nat):Int)])/\Below W.heap.size W w':=fun W=>by
  have:=dB s p m W hp hs
  rw [hu] at this
  exact this
 have hwd:=lH m s p hp
 rw [hu] at hwd
 simp only at hwd
 have HCH:Hid (bK m.c 94):=aC (by have:=oO m (s:=s) (p:=p);rw [hu] at this;exact this (by simp only;omega))
 have H:Hid (Room base w b s m p v D/\LK w b v last):=⟨h,hk⟩
 clear h hk hP1 hCL hOR hEN hu
 go_enter Tryz.func71,Tryz.ntmps71
 go_wp2
 refine wx9 ?_
 repeat (go_big_quiet_step (first | exact rfl |(go_at_call 93;exact bI (hU _))))
 refine wpQuiet_nil ?_
 intro w5 hw5
 have X5:Hid (Room base w5 b s m p v D/\LK w5 b v last/\Below base w w5):=⟨H.out.1.kept (aD hw5),H.out.2.kept (aD hw5),(aD hw5).mono bs⟩
 clear hw5
 go_wp2_with first
  |(go_at_call 94;(with_reducible refine(bG X5.out.1.sx X5.out.2.1).mono ?_);rintro e w6 ⟨rfl,h6⟩;have X6:Hid (Room base w6 b s m p v D/\LK w6 b v last/\Below base w w6):=⟨X5.out.1.kept h6,X5.out.2.1.kept h6,X5.out.2.2.trans (h6.mono X5.out.1.size)⟩;clear h6)
  |(go_at_call 95;(with_reducible refine(dN X6.out.1.sx X6.out.2.1).mono ?_);rintro e w7 ⟨rfl,h6⟩;have X7:Hid (Room base w7 b s m p v D/\LK w7 b v last/\Below base w w7):=⟨X6.out.1.kept h6,X6.out.2.1.kept h6,X6.out.2.2.trans (h6.mono X6.out.1.size)⟩;have q0:=X7.out.1.sx.c0;have q3:=X7.out.1.sx.c3;have ql:=X7.out.1.sx.lt;clear h6)
 refine wx9 ?_
 repeat (go_big_quiet_step (first | exact rfl))
 refine wpQuiet_nil ?_
 intro w8 hw8
 have X8:Hid (Room base w8 b s m p v D/\LK w8 b v last/\Below base w w8):=⟨X7.out.1.kept (aD hw8),X7.out.2.1.kept (aD hw8),X7.out.2.2.trans ((aD hw8).mono X7.out.1.size)⟩
 have r3:=X8.out.1.sx.c3
 have rl:=X8.out.1.sx.lt
 clear hw8
 go_wp2_with first
  |(go_at_call 96;(with_reducible refine(CC.out _ X8.out.1.sx).mono ?_);rintro e w9 ⟨rfl,h6⟩;have X9:Hid (Room base w9 b s m p v D/\LK w9 b v last/\Below base w w9):=⟨X8.out.1.kept h6,X8.out.2.1.kept h6,X8.out.2.2.trans (h6.mono X8.out.1.size)⟩;have s3:=X9.out.1.sx.c3;have sl:=X9.out.1.sx.lt;clear h6)
  |(go_at_call 96;(with_reducible refine(CO.out _ X9.out.1.sx).mono ?_);rintro e w10 ⟨rfl,h6⟩;have X10:Hid (Room base w10 b s m p v D/\LK w10 b v last/\Below base w w10):=⟨X9.out.1.kept h6,X9.out.2.1.kept h6,X9.out.2.2.trans (h6.mono X9.out.1.size)⟩;have t3:=X10.out.1.sx.c3;have t1:=X10.out.1.sx.c1;have tl:=X10.out.1.sx.lt;clear h6)
  |(go_at_call 102;(with_reducible refine(fZ X10.out.1.sx (c:=94) HCH.out).mono ?_);rintro e w12 ⟨v12,C12,rfl,h1,h2,h4⟩;obtain⟨q12,k12,rfl⟩:=h1.shape;have X12:Hid (Room base w12 b s m p v D/\Below base w w12/\RR w10.heap.size w12 (.slice q12 C12.length k12) C12/\IsC C12 (cP m [(94,94)] false)):=⟨X10.out.1.kept h4,X10.out.2.2.trans (h4.mono X10.out.1.size),h1,h2⟩;clear h1 h2 h4)
  |(go_at_call 100;refine(X12.out.1.put (t:=bB m [(94,94)] false) (rv:=.slice q12 C12.length k12) (C:=C12) (RR.mono X12.out.2.2.1 X10.out.1.size) X12.out.2.2.2 (X10.out.1.new X12.out.2.2.1) (n:=n) (q:=p+n) rfl (by omega)).mono ?_;rintro e w11 h9;have hz:=h9.1;subst hz;have X11:Hid (Puts base w b s m p D (.ok (bB m [(94,94)] false,p+n)) (.returned (.tuple #[])) w11):=h9.from X12.out.2.1;clear h9)
 go_end0
 exact X11.out
theorem xJ(h:Room base w b s m p v D)(hk:LK w b v last){n:Nat}(hu:un m s p=(36,n))(he:iU s p=false) :
  Calls Tryz.prog 71 #[.pointer (some ⟨b,0,none⟩)] w (Puts base w b s m p D (.ok (bB m [(36,36)] false,p+n))):=by
 have hs:=h.len
 have hp:=h.at_
 have c0:=h.sx.c0
 have c1:=h.sx.c1
 have c3:=h.sx.c3
 have lb:=h.sx.lt
 have bs:=h.size
 obtain⟨P1,hP1⟩:∃ P1,P1=p+1:=⟨_,rfl⟩
 have hw1:IntKind.wrap .i64 ((p:Int)+1)=(P1:Int):=by rw [wrap_small _ (by omega) (by omega)];omega
 obtain⟨CL,hCL⟩:∃ CL,CL=aJ s P1 [92,41]:=⟨_,rfl⟩
 obtain⟨OR,hOR⟩:∃ OR,OR=aJ s P1 [92,124]:=⟨_,rfl⟩
 obtain⟨EN,hEN⟩:∃ EN,EN=decide (P1=s.size):=⟨_,rfl⟩
 have dEN:((P1:Int)==(s.size:Int))=EN:=by rw [hEN,Bool.eq_iff_iff];simp;omega
 have CC:Hid (∀ W,SX W b s m p v 0 0->_):=aC (fD hs P1 (by omega) 92 41 hCL)
 have CO:Hid (∀ W,SX W b s m p v 0 0->_):=aC (fD hs P1 (by omega) 92 124 hOR)
 have hU:∀ W,Calls Tryz.prog 93 #[.string s,.int .i64 (p:Int),.bool m.c] W fun e w'=>e=.returned (.tuple #[.int .i64 36,.int .i64 ((n:Nat):Int)])/\Below W.heap.size W w':=fun W=>by
  have:=dB s p m W hp hs
  rw [hu] at this
  exact this
 have hwd:=lH m s p hp
 rw [hu] at hwd
 simp only at hwd
 have HCH:Hid (bK m.c 36):=aC (by have:=oO m (s:=s) (p:=p);rw [hu] at this;exact this (by simp only;omega))
 have kE:EN=false/\CL=false/\OR=false:=by rw [hEN,hCL,hOR,hP1];unfold iU at he;simp at he;simp [he]
 obtain⟨kE,kC,kO⟩:=kE
 subst kE
 subst kC
 subst kO
 have H:Hid (Room base w b s m p v D/\LK w b v last):=⟨h,hk⟩
 clear h hk hP1 hCL hOR hEN hu
 go_enter Tryz.func71,Tryz.ntmps71
 go_wp2
 refine wx9 ?_
 repeat (go_big_quiet_step (first | exact rfl |(go_at_call 93;exact bI (hU _))))
 refine wpQuiet_nil ?_
 intro w5 hw5
 have X5:Hid (Room base w5 b s m p v D/\LK w5 b v last/\Below base w w5):=⟨H.out.1.kept (aD hw5),H.out.2.kept (aD hw5),(aD hw5).mono bs⟩
 clear hw5
 go_wp2_with first
  |(go_at_call 94;(with_reducible refine(bG X5.out.1.sx X5.out.2.1).mono ?_);rintro e w6 ⟨rfl,h6⟩;have X6:Hid (Room base w6 b s m p v D/\LK w6 b v last/\Below base w w6):=⟨X5.out.1.kept h6,X5.out.2.1.kept h6,X5.out.2.2.trans (h6.mono X5.out.1.size)⟩;clear h6)
  |(go_at_call 95;(with_reducible refine(dN X6.out.1.sx X6.out.2.1).mono ?_);rintro e w7 ⟨rfl,h6⟩;have X7:Hid (Room base w7 b s m p v D/\LK w7 b v last/\Below base w w7):=⟨X6.out.1.kept h6,X6.out.2.1.kept h6,X6.out.2.2.trans (h6.mono X6.out.1.size)⟩;have q0:=X7.out.1.sx.c0;have q3:=X7.out.1.sx.c3;have ql:=X7.out.1.sx.lt;clear h6)
 refine wx9 ?_
 repeat (go_big_quiet_step (first | exact rfl))
 refine wpQuiet_nil ?_
 intro w8 hw8
 have X8:Hid (Room base w8 b s m p v D/\LK w8 b v last/\Below base w w8):=⟨X7.out.1.kept (aD hw8),X7.out.2.1.kept (aD hw8),X7.out.2.2.trans ((aD hw8).mono X7.out.1.size)⟩
 have r3:=X8.out.1.sx.c3
 have rl:=X8.out.1.sx.lt
 clear hw8
 go_wp2_with first
  |(go_at_call 96;(with_reducible refine(CC.out _ X8.out.1.sx).mono ?_);rintro e w9 ⟨rfl,h6⟩;have X9:Hid (Room base w9 b s m p v D/\LK w9 b v last/\Below base w w9):=⟨X8.out.1.kept h6,X8.out.2.1.kept h6,X8.out.2.2.trans (h6.mono X8.out.1.size)⟩;have s3:=X9.out.1.sx.c3;have sl:=X9.out.1.sx.lt;clear h6)
  |(go_at_call 96;(with_reducible refine(CO.out _ X9.out.1.sx).mono ?_);rintro e w10 ⟨rfl,h6⟩;have X10:Hid (Room base w10 b s m p v D/\LK w10 b v last/\Below base w w10):=⟨X9.out.1.kept h6,X9.out.2.1.kept h6,X9.out.2.2.trans (h6.mono X9.out.1.size)⟩;have t3:=X10.out.1.sx.c3;have t1:=X10.out.1.sx.c1;have tl:=X10.out.1.sx.lt;clear h6)
  |(go_at_call 102;(with_reducible refine(fZ X10.out.1.sx (c:=36) HCH.out).mono ?_);rintro e w12 ⟨v12,C12,rfl,h1,h2,h4⟩;obtain⟨q12,k12,rfl⟩:=h1.shape;have X12:Hid (Room base w12 b s m p v D/\Below base w w12/\RR w10.heap.size w12 (.slice q12 C12.length k12) C12/\IsC C12 (cP m [(36,36)] false)):=⟨X10.out.1.kept h4,X10.out.2.2.trans (h4.mono X10.out.1.size),h1,h2⟩;clear h1 h2 h4)
  |(go_at_call 100;refine(X12.out.1.put (t:=bB m [(36,36)] false) (rv:=.slice q12 C12.length k12) (C:=C12) (RR.mono X12.out.2.2.1 X10.out.1.size) X12.out.2.2.2 (X10.out.1.new X12.out.2.2.1) (n:=n) (q:=p+n) rfl (by omega)).mono ?_;rintro e w11 h9;have hz:=h9.1;subst hz;have X11:Hid (Puts base w b s m p D (.ok (bB m [(36,36)] false,p+n)) (.returned (.tuple #[])) w11):=h9.from X12.out.2.1;clear h9)
 go_end0
 exact X11.out
theorem aK3(h:Room base w b s m p v D)(hk:LK w b v last){c:Int}{n:Nat}(hu:un m s p=(c,n))(hc:¬ c < 0)(hne:c≠92/\c≠91/\c≠46/\c≠42/\c≠94/\c≠36) :
  Calls Tryz.prog 71 #[.pointer (some ⟨b,0,none⟩)] w (Puts base w b s m p D (.ok (bB m [(c,c)] false,p+n))):=by
 have hs:=h.len
 have hp:=h.at_
 have c0:=h.sx.c0
 have c1:=h.sx.c1
 have c3:=h.sx.c3
 have lb:=h.sx.lt
 have bs:=h.size
 obtain⟨P1,hP1⟩:∃ P1,P1=p+1:=⟨_,rfl⟩
 have hw1:IntKind.wrap .i64 ((p:Int)+1)=(P1:Int):=by rw [wrap_small _ (by omega) (by omega)];omega
 obtain⟨CL,hCL⟩:∃ CL,CL=aJ s P1 [92,41]:=⟨_,rfl⟩
 obtain⟨OR,hOR⟩:∃ OR,OR=aJ s P1 [92,124]:=⟨_,rfl⟩
 obtain⟨EN,hEN⟩:∃ EN,EN=decide (P1=s.size):=⟨_,rfl⟩
 have dEN:((P1:Int)==(s.size:Int))=EN:=by rw [hEN,Bool.eq_iff_iff];simp;omega
 have CC:Hid (∀ W,SX W b s m p v 0 0->_):=aC (fD hs P1 (by omega) 92 41 hCL)
 have CO:Hid (∀ W,SX W b s m p v 0 0->_):=aC (fD hs P1 (by omega) 92 124 hOR)
 have hU:∀ W,Calls Tryz.prog 93 #[.string s,.int .i64 (p:Int),.bool m.c] W fun e w'=>e=.returned (.tuple #[.int .i64 c,.int .i64 ((n:Nat):Int)])/\Below W.heap.size W w':=fun W=>by
  have:=dB s p m W hp hs
  rw [hu] at this
  exact this
 have hwd:=lH m s p hp
 rw [hu] at hwd
 simp only at hwd
 have HCH:Hid (bK m.c c):=aC (by have:=oO m (s:=s) (p:=p);rw [hu] at this;exact this (by simp only;omega))
 have d92:(c==92)=false:=by simp;omega
 have d91:(c==91)=false:=by simp;omega
 have d46:(c==46)=false:=by simp;omega
 have d42:(c==42)=false:=by simp;omega
 have d94:(c==94)=false:=by simp;omega
 have d36:(c==36)=false:=by simp;omega
 clear hne
 have H:Hid (Room base w b s m p v D/\LK w b v last):=⟨h,hk⟩
 clear h hk hP1 hCL hOR hEN hu
 go_enter Tryz.func71,Tryz.ntmps71
 go_wp2
 refine wx9 ?_
 repeat (go_big_quiet_step (first | exact rfl |(go_at_call 93;exact bI (hU _))))
 refine wpQuiet_nil ?_
 intro w5 hw5
 have X5:Hid (Room base w5 b s m p v D/\LK w5 b v last/\Below base w w5):=⟨H.out.1.kept (aD hw5),H.out.2.kept (aD hw5),(aD hw5).mono bs⟩
 clear hw5
 go_wp2_with first
  |(go_at_call 94;(with_reducible refine(bG X5.out.1.sx X5.out.2.1).mono ?_);rintro e w6 ⟨rfl,h6⟩;have X6:Hid (Room base w6 b s m p v D/\LK w6 b v last/\Below base w w6):=⟨X5.out.1.kept h6,X5.out.2.1.kept h6,X5.out.2.2.trans (h6.mono X5.out.1.size)⟩;clear h6)
  |(go_at_call 95;(with_reducible refine(dN X6.out.1.sx X6.out.2.1).mono ?_);rintro e w7 ⟨rfl,h6⟩;have X7:Hid (Room base w7 b s m p v D/\LK w7 b v last/\Below base w w7):=⟨X6.out.1.kept h6,X6.out.2.1.kept h6,X6.out.2.2.trans (h6.mono X6.out.1.size)⟩;have q0:=X7.out.1.sx.c0;have q3:=X7.out.1.sx.c3;have ql:=X7.out.1.sx.lt;clear h6)
 refine wx9 ?_
 repeat (go_big_quiet_step (first | exact rfl))
 refine wpQuiet_nil ?_
 intro w8 hw8
 have X8:Hid (Room base w8 b s m p v D/\LK w8 b v last/\Below base w w8):=⟨X7.out.1.kept (aD hw8),X7.out.2.1.kept (aD hw8),X7.out.2.2.trans ((aD hw8).mono X7.out.1.size)⟩
 have r3:=X8.out.1.sx.c3
 have rl:=X8.out.1.sx.lt
 clear hw8
 go_wp2_with first
  |(go_at_call 96;(with_reducible refine(CC.out _ X8.out.1.sx).mono ?_);rintro e w9 ⟨rfl,h6⟩;have X9:Hid (Room base w9 b s m p v D/\LK w9 b v last/\Below base w w9):=⟨X8.out.1.kept h6,X8.out.2.1.kept h6,X8.out.2.2.trans (h6.mono X8.out.1.size)⟩;have s3:=X9.out.1.sx.c3;have sl:=X9.out.1.sx.lt;clear h6)
  |(go_at_call 96;(with_reducible refine(CO.out _ X9.out.1.sx).mono ?_);rintro e w10 ⟨rfl,h6⟩;have X10:Hid (Room base w10 b s m p v D/\LK w10 b v last/\Below base w w10):=⟨X9.out.1.kept h6,X9.out.2.1.kept h6,X9.out.2.2.trans (h6.mono X9.out.1.size)⟩;have t3:=X10.out.1.sx.c3;have t1:=X10.out.1.sx.c1;have tl:=X10.out.1.sx.lt;clear h6)
  |(go_at_call 102;(with_reducible refine(fZ X10.out.1.sx (c:=c) HCH.out).mono ?_);rintro e w12 ⟨v12,C12,rfl,h1,h2,h4⟩;obtain⟨q12,k12,rfl⟩:=h1.shape;have X12:Hid (Room base w12 b s m p v D/\Below base w w12/\RR w10.heap.size w12 (.slice q12 C12.length k12) C12/\IsC C12 (cP m [(c,c)] false)):=⟨X10.out.1.kept h4,X10.out.2.2.trans (h4.mono X10.out.1.size),h1,h2⟩;clear h1 h2 h4)
  |(go_at_call 100;refine(X12.out.1.put (t:=bB m [(c,c)] false) (rv:=.slice q12 C12.length k12) (C:=C12) (RR.mono X12.out.2.2.1 X10.out.1.size) X12.out.2.2.2 (X10.out.1.new X12.out.2.2.1) (n:=n) (q:=p+n) rfl (by omega)).mono ?_;rintro e w11 h9;have hz:=h9.1;subst hz;have X11:Hid (Puts base w b s m p D (.ok (bB m [(c,c)] false,p+n)) (.returned (.tuple #[])) w11):=h9.from X12.out.2.1;clear h9)
 go_end0
 exact X11.out
end
end Go.Proofs.YtpfdapnfkghgkaaGreatDoor
