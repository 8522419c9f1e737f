/-
  Parts of the proof.
-/
import Derived.Test.YtpfdapnfkghgkaaGreatDoorReadsProof9B38
set_option maxRecDepth 100000
set_option maxHeartbeats 8000000
namespace Go.Proofs.YtpfdapnfkghgkaaGreatDoor
open Go Go.RowKit
attribute [local go_sem] aR
theorem Room.new{base:Nat}{w w':World}{b:Nat}{s:ByteArray}{m:Md}{p:Nat}{v:Value}{D:List Dt}{rv:Value}{C:List (Int × Int)}(h:Room base w b s m p v D)(hR:RR w.heap.size w' rv C):∀ a∈D,∀ k,a.2.1.ownBlock=some k->rv.ownBlock≠some k:=fun a ha k hk hk2=>by
 have h1:=(aH hR hk2).1
 have h2:=(h.tl.lt ha hk).2
 omega
section
variable {base:Nat} {w:World} {b:Nat} {s:ByteArray} {m:Md} {p:Nat} {v:Value} {D:List Dt} {last:Nat}
theorem aV5(h:Room base w b s m p v D)(hk:LK w b v last)(h1:p+1 < s.size)(hb:bt s (p+1)=40) :
  Calls Tryz.prog 98 #[.pointer (some ⟨b,0,none⟩)] w (Puts base w b s m p D (.ok (kT 3,p+2))):=by
 have hs:=h.len
 have c0:=h.sx.c0
 have c3:=h.sx.c3
 have lb:=h.sx.lt
 have bs:=h.size
 obtain⟨P1,hP1⟩:∃ P1,P1=p+1:=⟨_,rfl⟩
 have hw1:IntKind.wrap .i64 ((p:Int)+1)=(P1:Int):=by rw [wrap_small _ (by omega) (by omega)];omega
 have hpl:P1 < s.size:=by omega
 have hx:(s[P1]'hpl).toNat=40:=by rw [cI];rw [hP1];exact hb
 have i0:(0:Int)<=(P1:Int):=by omega
 have i1:¬ (s.size:Int)<=(P1:Int):=by omega
 have i2:(P1:Int) < (s.size:Int):=by omega
 have H:Hid (Room base w b s m p v D/\LK w b v last/\p+2<=s.size):=⟨h,hk,by omega⟩
 clear h hk hb hP1
 go_enter Tryz.func98,Tryz.ntmps98
 go_wp2
 refine wx9 ?_
 repeat (go_big_quiet_step (first | exact rfl))
 refine wpQuiet_nil ?_
 intro w5 hw5
 have X5:Hid (Room base w5 b s m p v D/\LK w5 b v last/\Below base w w5):=⟨H.out.1.kept (aD hw5),H.out.2.1.kept (aD hw5),(aD hw5).mono bs⟩
 clear hw5
 go_wp2_with (go_at_call 94;refine(bG X5.out.1.sx X5.out.2.1).mono ?_;rintro e w6 ⟨rfl,h6⟩;have X6:Hid (Room base w6 b s m p v D/\Below base w w6):=⟨X5.out.1.kept h6,X5.out.2.2.trans (h6.mono X5.out.1.size)⟩;have q0:=X6.out.1.sx.c0;have q3:=X6.out.1.sx.c3;have ql:=X6.out.1.sx.lt;clear h6)
 refine wx9 ?_
 repeat (go_big_quiet_step (first | exact rfl))
 refine wpQuiet_nil ?_
 intro w7 hw7
 have X7:Hid (Room base w7 b s m p v D/\Below base w w7):=⟨X6.out.1.kept (aD hw7),X6.out.2.trans ((aD hw7).mono X6.out.1.size)⟩
 have r3:=X7.out.1.sx.c3
 have rl:=X7.out.1.sx.lt
 clear hw7
 go_wp2_with (go_at_call 100;refine(X7.out.1.put0 (t:=kT 3) rfl (n:=2) (q:=p+2) rfl (by omega)).mono ?_;rintro e w9 h9;have hz:=h9.1;subst hz;have X9:Hid (Puts base w b s m p D (.ok (kT 3,p+2)) (.returned (.tuple #[])) w9):=h9.from X7.out.2;clear h9)
 go_end0
 exact X9.out
theorem aV4(h:Room base w b s m p v D)(hk:LK w b v last)(h1:p+1 < s.size)(hb:bt s (p+1)=41) :
  Calls Tryz.prog 98 #[.pointer (some ⟨b,0,none⟩)] w (Puts base w b s m p D (.ok (kT 4,p+2))):=by
 have hs:=h.len
 have c0:=h.sx.c0
 have c3:=h.sx.c3
 have lb:=h.sx.lt
 have bs:=h.size
 obtain⟨P1,hP1⟩:∃ P1,P1=p+1:=⟨_,rfl⟩
 have hw1:IntKind.wrap .i64 ((p:Int)+1)=(P1:Int):=by rw [wrap_small _ (by omega) (by omega)];omega
 have hpl:P1 < s.size:=by omega
 have hx:(s[P1]'hpl).toNat=41:=by rw [cI];rw [hP1];exact hb
 have i0:(0:Int)<=(P1:Int):=by omega
 have i1:¬ (s.size:Int)<=(P1:Int):=by omega
 have i2:(P1:Int) < (s.size:Int):=by omega
 have H:Hid (Room base w b s m p v D/\LK w b v last/\p+2<=s.size):=⟨h,hk,by omega⟩
 clear h hk hb hP1
 go_enter Tryz.func98,Tryz.ntmps98
 go_wp2
 refine wx9 ?_
 repeat (go_big_quiet_step (first | exact rfl))
 refine wpQuiet_nil ?_
 intro w5 hw5
 have X5:Hid (Room base w5 b s m p v D/\LK w5 b v last/\Below base w w5):=⟨H.out.1.kept (aD hw5),H.out.2.1.kept (aD hw5),(aD hw5).mono bs⟩
 clear hw5
 go_wp2_with (go_at_call 94;refine(bG X5.out.1.sx X5.out.2.1).mono ?_;rintro e w6 ⟨rfl,h6⟩;have X6:Hid (Room base w6 b s m p v D/\Below base w w6):=⟨X5.out.1.kept h6,X5.out.2.2.trans (h6.mono X5.out.1.size)⟩;have q0:=X6.out.1.sx.c0;have q3:=X6.out.1.sx.c3;have ql:=X6.out.1.sx.lt;clear h6)
 refine wx9 ?_
 repeat (go_big_quiet_step (first | exact rfl))
 refine wpQuiet_nil ?_
 intro w7 hw7
 have X7:Hid (Room base w7 b s m p v D/\Below base w w7):=⟨X6.out.1.kept (aD hw7),X6.out.2.trans ((aD hw7).mono X6.out.1.size)⟩
 have r3:=X7.out.1.sx.c3
 have rl:=X7.out.1.sx.lt
 clear hw7
 go_wp2_with (go_at_call 100;refine(X7.out.1.put0 (t:=kT 4) rfl (n:=2) (q:=p+2) rfl (by omega)).mono ?_;rintro e w9 h9;have hz:=h9.1;subst hz;have X9:Hid (Puts base w b s m p D (.ok (kT 4,p+2)) (.returned (.tuple #[])) w9):=h9.from X7.out.2;clear h9)
 go_end0
 exact X9.out
theorem aM0(h:Room base w b s m p v D)(hk:LK w b v last)(h1:p+1 < s.size)(hb:bt s (p+1)=124) :
  Calls Tryz.prog 98 #[.pointer (some ⟨b,0,none⟩)] w (Puts base w b s m p D (.ok (kT 5,p+2))):=by
 have hs:=h.len
 have c0:=h.sx.c0
 have c3:=h.sx.c3
 have lb:=h.sx.lt
 have bs:=h.size
 obtain⟨P1,hP1⟩:∃ P1,P1=p+1:=⟨_,rfl⟩
 have hw1:IntKind.wrap .i64 ((p:Int)+1)=(P1:Int):=by rw [wrap_small _ (by omega) (by omega)];omega
 have hpl:P1 < s.size:=by omega
 have hx:(s[P1]'hpl).toNat=124:=by rw [cI];rw [hP1];exact hb
 have i0:(0:Int)<=(P1:Int):=by omega
 have i1:¬ (s.size:Int)<=(P1:Int):=by omega
 have i2:(P1:Int) < (s.size:Int):=by omega
 have H:Hid (Room base w b s m p v D/\LK w b v last/\p+2<=s.size):=⟨h,hk,by omega⟩
 clear h hk hb hP1
 go_enter Tryz.func98,Tryz.ntmps98
 go_wp2
 refine wx9 ?_
 repeat (go_big_quiet_step (first | exact rfl))
 refine wpQuiet_nil ?_
 intro w5 hw5
 have X5:Hid (Room base w5 b s m p v D/\LK w5 b v last/\Below base w w5):=⟨H.out.1.kept (aD hw5),H.out.2.1.kept (aD hw5),(aD hw5).mono bs⟩
 clear hw5
 go_wp2_with (go_at_call 94;refine(bG X5.out.1.sx X5.out.2.1).mono ?_;rintro e w6 ⟨rfl,h6⟩;have X6:Hid (Room base w6 b s m p v D/\Below base w w6):=⟨X5.out.1.kept h6,X5.out.2.2.trans (h6.mono X5.out.1.size)⟩;have q0:=X6.out.1.sx.c0;have q3:=X6.out.1.sx.c3;have ql:=X6.out.1.sx.lt;clear h6)
 refine wx9 ?_
 repeat (go_big_quiet_step (first | exact rfl))
 refine wpQuiet_nil ?_
 intro w7 hw7
 have X7:Hid (Room base w7 b s m p v D/\Below base w w7):=⟨X6.out.1.kept (aD hw7),X6.out.2.trans ((aD hw7).mono X6.out.1.size)⟩
 have r3:=X7.out.1.sx.c3
 have rl:=X7.out.1.sx.lt
 clear hw7
 go_wp2_with (go_at_call 100;refine(X7.out.1.put0 (t:=kT 5) rfl (n:=2) (q:=p+2) rfl (by omega)).mono ?_;rintro e w9 h9;have hz:=h9.1;subst hz;have X9:Hid (Puts base w b s m p D (.ok (kT 5,p+2)) (.returned (.tuple #[])) w9):=h9.from X7.out.2;clear h9)
 go_end0
 exact X9.out
theorem aV1(h:Room base w b s m p v D)(hk:LK w b v last)(h1:p+1 < s.size)(hb:bt s (p+1)=46) :
  Calls Tryz.prog 98 #[.pointer (some ⟨b,0,none⟩)] w (Puts base w b s m p D (.ok (bB m [(46,46)] false,p+2))):=by
 have hs:=h.len
 have c0:=h.sx.c0
 have c3:=h.sx.c3
 have lb:=h.sx.lt
 have bs:=h.size
 obtain⟨P1,hP1⟩:∃ P1,P1=p+1:=⟨_,rfl⟩
 have hw1:IntKind.wrap .i64 ((p:Int)+1)=(P1:Int):=by rw [wrap_small _ (by omega) (by omega)];omega
 have hpl:P1 < s.size:=by omega
 have hx:(s[P1]'hpl).toNat=46:=by rw [cI];rw [hP1];exact hb
 have i0:(0:Int)<=(P1:Int):=by omega
 have i1:¬ (s.size:Int)<=(P1:Int):=by omega
 have i2:(P1:Int) < (s.size:Int):=by omega
 have H:Hid (Room base w b s m p v D/\LK w b v last/\p+2<=s.size):=⟨h,hk,by omega⟩
 clear h hk hb hP1
 go_enter Tryz.func98,Tryz.ntmps98
 go_wp2
 refine wx9 ?_
 repeat (go_big_quiet_step (first | exact rfl))
 refine wpQuiet_nil ?_
 intro w5 hw5
 have X5:Hid (Room base w5 b s m p v D/\LK w5 b v last/\Below base w w5):=⟨H.out.1.kept (aD hw5),H.out.2.1.kept (aD hw5),(aD hw5).mono bs⟩
 clear hw5
 go_wp2_with (go_at_call 94;refine(bG X5.out.1.sx X5.out.2.1).mono ?_;rintro e w6 ⟨rfl,h6⟩;have X6:Hid (Room base w6 b s m p v D/\Below base w w6):=⟨X5.out.1.kept h6,X5.out.2.2.trans (h6.mono X5.out.1.size)⟩;have q0:=X6.out.1.sx.c0;have q3:=X6.out.1.sx.c3;have ql:=X6.out.1.sx.lt;clear h6)
 refine wx9 ?_
 repeat (go_big_quiet_step (first | exact rfl))
 refine wpQuiet_nil ?_
 intro w7 hw7
 have X7:Hid (Room base w7 b s m p v D/\Below base w w7):=⟨X6.out.1.kept (aD hw7),X6.out.2.trans ((aD hw7).mono X6.out.1.size)⟩
 have r3:=X7.out.1.sx.c3
 have rl:=X7.out.1.sx.lt
 clear hw7
 go_wp2_with first
  |(go_at_call 102;refine(fZ X7.out.1.sx (c:=46) (bU _ _ (by omega) (by omega))).mono ?_;rintro e w8 ⟨v8,C,rfl,g1,g2,g3⟩;obtain⟨q8,k8,rfl⟩:=g1.shape;have X8:Hid (Room base w8 b s m p v D/\Below base w w8/\RR base w8 (.slice q8 C.length k8) C/\IsC C (cP m [(46,46)] false)/\∀ a∈D,∀ k,a.2.1.ownBlock=some k->(Value.slice q8 C.length k8).ownBlock≠some k):=⟨X7.out.1.kept g3,X7.out.2.trans (g3.mono X7.out.1.size),g1.mono X7.out.1.size,g2,X7.out.1.new g1⟩;clear g1 g2 g3)
  |(go_at_call 100;refine(X8.out.1.put (t:=bB m [(46,46)] false) X8.out.2.2.1 X8.out.2.2.2.1 X8.out.2.2.2.2 (n:=2) (q:=p+2) rfl (by omega)).mono ?_;rintro e w9 h9;have hz:=h9.1;subst hz;have X9:Hid (Puts base w b s m p D (.ok (bB m [(46,46)] false,p+2)) (.returned (.tuple #[])) w9):=h9.from X8.out.2.1;clear h9)
 go_end0
 exact X9.out
theorem aU8(h:Room base w b s m p v D)(hk:LK w b v last)(h1:p+1 < s.size)(hb:bt s (p+1)=91) :
  Calls Tryz.prog 98 #[.pointer (some ⟨b,0,none⟩)] w (Puts base w b s m p D (.ok (bB m [(91,91)] false,p+2))):=by
 have hs:=h.len
 have c0:=h.sx.c0
 have c3:=h.sx.c3
 have lb:=h.sx.lt
 have bs:=h.size
 obtain⟨P1,hP1⟩:∃ P1,P1=p+1:=⟨_,rfl⟩
 have hw1:IntKind.wrap .i64 ((p:Int)+1)=(P1:Int):=by rw [wrap_small _ (by omega) (by omega)];omega
 have hpl:P1 < s.size:=by omega
 have hx:(s[P1]'hpl).toNat=91:=by rw [cI];rw [hP1];exact hb
 have i0:(0:Int)<=(P1:Int):=by omega
 have i1:¬ (s.size:Int)<=(P1:Int):=by omega
 have i2:(P1:Int) < (s.size:Int):=by omega
 have H:Hid (Room base w b s m p v D/\LK w b v last/\p+2<=s.size):=⟨h,hk,by omega⟩
 clear h hk hb hP1
 go_enter Tryz.func98,Tryz.ntmps98
 go_wp2
 refine wx9 ?_
 repeat (go_big_quiet_step (first | exact rfl))
 refine wpQuiet_nil ?_
 intro w5 hw5
 have X5:Hid (Room base w5 b s m p v D/\LK w5 b v last/\Below base w w5):=⟨H.out.1.kept (aD hw5),H.out.2.1.kept (aD hw5),(aD hw5).mono bs⟩
 clear hw5
 go_wp2_with (go_at_call 94;refine(bG X5.out.1.sx X5.out.2.1).mono ?_;rintro e w6 ⟨rfl,h6⟩;have X6:Hid (Room base w6 b s m p v D/\Below base w w6):=⟨X5.out.1.kept h6,X5.out.2.2.trans (h6.mono X5.out.1.size)⟩;have q0:=X6.out.1.sx.c0;have q3:=X6.out.1.sx.c3;have ql:=X6.out.1.sx.lt;clear h6)
 refine wx9 ?_
 repeat (go_big_quiet_step (first | exact rfl))
 refine wpQuiet_nil ?_
 intro w7 hw7
 have X7:Hid (Room base w7 b s m p v D/\Below base w w7):=⟨X6.out.1.kept (aD hw7),X6.out.2.trans ((aD hw7).mono X6.out.1.size)⟩
 have r3:=X7.out.1.sx.c3
 have rl:=X7.out.1.sx.lt
 clear hw7
 go_wp2_with first
  |(go_at_call 102;refine(fZ X7.out.1.sx (c:=91) (bU _ _ (by omega) (by omega))).mono ?_;rintro e w8 ⟨v8,C,rfl,g1,g2,g3⟩;obtain⟨q8,k8,rfl⟩:=g1.shape;have X8:Hid (Room base w8 b s m p v D/\Below base w w8/\RR base w8 (.slice q8 C.length k8) C/\IsC C (cP m [(91,91)] false)/\∀ a∈D,∀ k,a.2.1.ownBlock=some k->(Value.slice q8 C.length k8).ownBlock≠some k):=⟨X7.out.1.kept g3,X7.out.2.trans (g3.mono X7.out.1.size),g1.mono X7.out.1.size,g2,X7.out.1.new g1⟩;clear g1 g2 g3)
  |(go_at_call 100;refine(X8.out.1.put (t:=bB m [(91,91)] false) X8.out.2.2.1 X8.out.2.2.2.1 X8.out.2.2.2.2 (n:=2) (q:=p+2) rfl (by omega)).mono ?_;rintro e w9 h9;have hz:=h9.1;subst hz;have X9:Hid (Puts base w b s m p D (.ok (bB m [(91,91)] false,p+2)) (.returned (.tuple #[])) w9):=h9.from X8.out.2.1;clear h9)
 go_end0
 exact X9.out
theorem aU6(h:Room base w b s m p v D)(hk:LK w b v last)(h1:p+1 < s.size)(hb:bt s (p+1)=93) :
  Calls Tryz.prog 98 #[.pointer (some ⟨b,0,none⟩)] w (Puts base w b s m p D (.ok (bB m [(93,93)] false,p+2))):=by
 have hs:=h.len
 have c0:=h.sx.c0
 have c3:=h.sx.c3
 have lb:=h.sx.lt
 have bs:=h.size
 obtain⟨P1,hP1⟩:∃ P1,P1=p+1:=⟨_,rfl⟩
 have hw1:IntKind.wrap .i64 ((p:Int)+1)=(P1:Int):=by rw [wrap_small _ (by omega) (by omega)];omega
 have hpl:P1 < s.size:=by omega
 have hx:(s[P1]'hpl).toNat=93:=by rw [cI];rw [hP1];exact hb
 have i0:(0:Int)<=(P1:Int):=by omega
 have i1:¬ (s.size:Int)<=(P1:Int):=by omega
 have i2:(P1:Int) < (s.size:Int):=by omega
 have H:Hid (Room base w b s m p v D/\LK w b v last/\p+2<=s.size):=⟨h,hk,by omega⟩
 clear h hk hb hP1
 go_enter Tryz.func98,Tryz.ntmps98
 go_wp2
 refine wx9 ?_
 repeat (go_big_quiet_step (first | exact rfl))
 refine wpQuiet_nil ?_
 intro w5 hw5
 have X5:Hid (Room base w5 b s m p v D/\LK w5 b v last/\Below base w w5):=⟨H.out.1.kept (aD hw5),H.out.2.1.kept (aD hw5),(aD hw5).mono bs⟩
 clear hw5
 go_wp2_with (go_at_call 94;refine(bG X5.out.1.sx X5.out.2.1).mono ?_;rintro e w6 ⟨rfl,h6⟩;have X6:Hid (Room base w6 b s m p v D/\Below base w w6):=⟨X5.out.1.kept h6,X5.out.2.2.trans (h6.mono X5.out.1.size)⟩;have q0:=X6.out.1.sx.c0;have q3:=X6.out.1.sx.c3;have ql:=X6.out.1.sx.lt;clear h6)
 refine wx9 ?_
 repeat (go_big_quiet_step (first | exact rfl))
 refine wpQuiet_nil ?_
 intro w7 hw7
 have X7:Hid (Room base w7 b s m p v D/\Below base w w7):=⟨X6.out.1.kept (aD hw7),X6.out.2.trans ((aD hw7).mono X6.out.1.size)⟩
 have r3:=X7.out.1.sx.c3
 have rl:=X7.out.1.sx.lt
 clear hw7
 go_wp2_with first
  |(go_at_call 102;refine(fZ X7.out.1.sx (c:=93) (bU _ _ (by omega) (by omega))).mono ?_;rintro e w8 ⟨v8,C,rfl,g1,g2,g3⟩;obtain⟨q8,k8,rfl⟩:=g1.shape;have X8:Hid (Room base w8 b s m p v D/\Below base w w8/\RR base w8 (.slice q8 C.length k8) C/\IsC C (cP m [(93,93)] false)/\∀ a∈D,∀ k,a.2.1.ownBlock=some k->(Value.slice q8 C.length k8).ownBlock≠some k):=⟨X7.out.1.kept g3,X7.out.2.trans (g3.mono X7.out.1.size),g1.mono X7.out.1.size,g2,X7.out.1.new g1⟩;clear g1 g2 g3)
  |(go_at_call 100;refine(X8.out.1.put (t:=bB m [(93,93)] false) X8.out.2.2.1 X8.out.2.2.2.1 X8.out.2.2.2.2 (n:=2) (q:=p+2) rfl (by omega)).mono ?_;rintro e w9 h9;have hz:=h9.1;subst hz;have X9:Hid (Puts base w b s m p D (.ok (bB m [(93,93)] false,p+2)) (.returned (.tuple #[])) w9):=h9.from X8.out.2.1;clear h9)
 go_end0
 exact X9.out
theorem aV3(h:Room base w b s m p v D)(hk:LK w b v last)(h1:p+1 < s.size)(hb:bt s (p+1)=42) :
  Calls Tryz.prog 98 #[.pointer (some ⟨b,0,none⟩)] w (Puts base w b s m p D (.ok (bB m [(42,42)] false,p+2))):=by
 have hs:=h.len
 have c0:=h.sx.c0
 have c3:=h.sx.c3
 have lb:=h.sx.lt
 have bs:=h.size
 obtain⟨P1,hP1⟩:∃ P1,P1=p+1:=⟨_,rfl⟩
 have hw1:IntKind.wrap .i64 ((p:Int)+1)=(P1:Int):=by rw [wrap_small _ (by omega) (by omega)];omega
 have hpl:P1 < s.size:=by omega
 have hx:(s[P1]'hpl).toNat=42:=by rw [cI];rw [hP1];exact hb
 have i0:(0:Int)<=(P1:Int):=by omega
 have i1:¬ (s.size:Int)<=(P1:Int):=by omega
 have i2:(P1:Int) < (s.size:Int):=by omega
 have H:Hid (Room base w b s m p v D/\LK w b v last/\p+2<=s.size):=⟨h,hk,by omega⟩
 clear h hk hb hP1
 go_enter Tryz.func98,Tryz.ntmps98
 go_wp2
 refine wx9 ?_
 repeat (go_big_quiet_step (first | exact rfl))
 refine wpQuiet_nil ?_
 intro w5 hw5
 have X5:Hid (Room base w5 b s m p v D/\LK w5 b v last/\Below base w w5):=⟨H.out.1.kept (aD hw5),H.out.2.1.kept (aD hw5),(aD hw5).mono bs⟩
 clear hw5
 go_wp2_with (go_at_call 94;refine(bG X5.out.1.sx X5.out.2.1).mono ?_;rintro e w6 ⟨rfl,h6⟩;have X6:Hid (Room base w6 b s m p v D/\Below base w w6):=⟨X5.out.1.kept h6,X5.out.2.2.trans (h6.mono X5.out.1.size)⟩;have q0:=X6.out.1.sx.c0;have q3:=X6.out.1.sx.c3;have ql:=X6.out.1.sx.lt;clear h6)
 refine wx9 ?_
 repeat (go_big_quiet_step (first | exact rfl))
 refine wpQuiet_nil ?_
 intro w7 hw7
 have X7:Hid (Room base w7 b s m p v D/\Below base w w7):=⟨X6.out.1.kept (aD hw7),X6.out.2.trans ((aD hw7).mono X6.out.1.size)⟩
 have r3:=X7.out.1.sx.c3
 have rl:=X7.out.1.sx.lt
 clear hw7
 go_wp2_with first
  |(go_at_call 102;refine(fZ X7.out.1.sx (c:=42) (bU _ _ (by omega) (by omega))).mono ?_;rintro e w8 ⟨v8,C,rfl,g1,g2,g3⟩;obtain⟨q8,k8,rfl⟩:=g1.shape;have X8:Hid (Room base w8 b s m p v D/\Below base w w8/\RR base w8 (.slice q8 C.length k8) C/\IsC C (cP m [(42,42)] false)/\∀ a∈D,∀ k,a.2.1.ownBlock=some k->(Value.slice q8 C.length k8).ownBlock≠some k):=⟨X7.out.1.kept g3,X7.out.2.trans (g3.mono X7.out.1.size),g1.mono X7.out.1.size,g2,X7.out.1.new g1⟩;clear g1 g2 g3)
  |(go_at_call 100;refine(X8.out.1.put (t:=bB m [(42,42)] false) X8.out.2.2.1 X8.out.2.2.2.1 X8.out.2.2.2.2 (n:=2) (q:=p+2) rfl (by omega)).mono ?_;rintro e w9 h9;have hz:=h9.1;subst hz;have X9:Hid (Puts base w b s m p D (.ok (bB m [(42,42)] false,p+2)) (.returned (.tuple #[])) w9):=h9.from X8.out.2.1;clear h9)
 go_end0
 exact X9.out
theorem aU5(h:Room base w b s m p v D)(hk:LK w b v last)(h1:p+1 < s.size)(hb:bt s (p+1)=94) :
  Calls Tryz.prog 98 #[.pointer (some ⟨b,0,none⟩)] w (Puts base w b s m p D (.ok (bB m [(94,94)] false,p+2))):=by
 have hs:=h.len
 have c0:=h.sx.c0
 have c3:=h.sx.c3
 have lb:=h.sx.lt
 have bs:=h.size
 obtain⟨P1,hP1⟩:∃ P1,P1=p+1:=⟨_,rfl⟩
 have hw1:IntKind.wrap .i64 ((p:Int)+1)=(P1:Int):=by rw [wrap_small _ (by omega) (by omega)];omega
 have hpl:P1 < s.size:=by omega
 have hx:(s[P1]'hpl).toNat=94:=by rw [cI];rw [hP1];exact hb
 have i0:(0:Int)<=(P1:Int):=by omega
 have i1:¬ (s.size:Int)<=(P1:Int):=by omega
 have i2:(P1:Int) < (s.size:Int):=by omega
 have H:Hid (Room base w b s m p v D/\LK w b v last/\p+2<=s.size):=⟨h,hk,by omega⟩
 clear h hk hb hP1
 go_enter Tryz.func98,Tryz.ntmps98
 go_wp2
 refine wx9 ?_
 repeat (go_big_quiet_step (first | exact rfl))
 refine wpQuiet_nil ?_
 intro w5 hw5
 have X5:Hid (Room base w5 b s m p v D/\LK w5 b v last/\Below base w w5):=⟨H.out.1.kept (aD hw5),H.out.2.1.kept (aD hw5),(aD hw5).mono bs⟩
 clear hw5
 go_wp2_with (go_at_call 94;refine(bG X5.out.1.sx X5.out.2.1).mono ?_;rintro e w6 ⟨rfl,h6⟩;have X6:Hid (Room base w6 b s m p v D/\Below base w w6):=⟨X5.out.1.kept h6,X5.out.2.2.trans (h6.mono X5.out.1.size)⟩;have q0:=X6.out.1.sx.c0;have q3:=X6.out.1.sx.c3;have ql:=X6.out.1.sx.lt;clear h6)
 refine wx9 ?_
 repeat (go_big_quiet_step (first | exact rfl))
 refine wpQuiet_nil ?_
 intro w7 hw7
 have X7:Hid (Room base w7 b s m p v D/\Below base w w7):=⟨X6.out.1.kept (aD hw7),X6.out.2.trans ((aD hw7).mono X6.out.1.size)⟩
 have r3:=X7.out.1.sx.c3
 have rl:=X7.out.1.sx.lt
 clear hw7
 go_wp2_with first
  |(go_at_call 102;refine(fZ X7.out.1.sx (c:=94) (bU _ _ (by omega) (by omega))).mono ?_;rintro e w8 ⟨v8,C,rfl,g1,g2,g3⟩;obtain⟨q8,k8,rfl⟩:=g1.shape;have X8:Hid (Room base w8 b s m p v D/\Below base w w8/\RR base w8 (.slice q8 C.length k8) C/\IsC C (cP m [(94,94)] false)/\∀ a∈D,∀ k,a.2.1.ownBlock=some k->(Value.slice q8 C.length k8).ownBlock≠some k):=⟨X7.out.1.kept g3,X7.out.2.trans (g3.mono X7.out.1.size),g1.mono X7.out.1.size,g2,X7.out.1.new g1⟩;clear g1 g2 g3)
  |(go_at_call 100;refine(X8.out.1.put (t:=bB m [(94,94)] false) X8.out.2.2.1 X8.out.2.2.2.1 X8.out.2.2.2.2 (n:=2) (q:=p+2) rfl (by omega)).mono ?_;rintro e w9 h9;have hz:=h9.1;subst hz;have X9:Hid (Puts base w b s m p D (.ok (bB m [(94,94)] false,p+2)) (.returned (.tuple #[])) w9):=h9.from X8.out.2.1;clear h9)
 go_end0
 exact X9.out
theorem aV6(h:Room base w b s m p v D)(hk:LK w b v last)(h1:p+1 < s.size)(hb:bt s (p+1)=36) :
  Calls Tryz.prog 98 #[.pointer (some ⟨b,0,none⟩)] w (Puts base w b s m p D (.ok (bB m [(36,36)] false,p+2))):=by
 have hs:=h.len
 have c0:=h.sx.c0
 have c3:=h.sx.c3
 have lb:=h.sx.lt
 have bs:=h.size
 obtain⟨P1,hP1⟩:∃ P1,P1=p+1:=⟨_,rfl⟩
 have hw1:IntKind.wrap .i64 ((p:Int)+1)=(P1:Int):=by rw [wrap_small _ (by omega) (by omega)];omega
 have hpl:P1 < s.size:=by omega
 have hx:(s[P1]'hpl).toNat=36:=by rw [cI];rw [hP1];exact hb
 have i0:(0:Int)<=(P1:Int):=by omega
 have i1:¬ (s.size:Int)<=(P1:Int):=by omega
 have i2:(P1:Int) < (s.size:Int):=by omega
 have H:Hid (Room base w b s m p v D/\LK w b v last/\p+2<=s.size):=⟨h,hk,by omega⟩
 clear h hk hb hP1
 go_enter Tryz.func98,Tryz.ntmps98
 go_wp2
 refine wx9 ?_
 repeat (go_big_quiet_step (first | exact rfl))
 refine wpQuiet_nil ?_
 intro w5 hw5
 have X5:Hid (Room base w5 b s m p v D/\LK w5 b v last/\Below base w w5):=⟨H.out.1.kept (aD hw5),H.out.2.1.kept (aD hw5),(aD hw5).mono bs⟩
 clear hw5
 go_wp2_with (go_at_call 94;refine(bG X5.out.1.sx X5.out.2.1).mono ?_;rintro e w6 ⟨rfl,h6⟩;have X6:Hid (Room base w6 b s m p v D/\Below base w w6):=⟨X5.out.1.kept h6,X5.out.2.2.trans (h6.mono X5.out.1.size)⟩;have q0:=X6.out.1.sx.c0;have q3:=X6.out.1.sx.c3;have ql:=X6.out.1.sx.lt;clear h6)
 refine wx9 ?_
 repeat (go_big_quiet_step (first | exact rfl))
 refine wpQuiet_nil ?_
 intro w7 hw7
 have X7:Hid (Room base w7 b s m p v D/\Below base w w7):=⟨X6.out.1.kept (aD hw7),X6.out.2.trans ((aD hw7).mono X6.out.1.size)⟩
 have r3:=X7.out.1.sx.c3
 have rl:=X7.out.1.sx.lt
 clear hw7
 go_wp2_with first
  |(go_at_call 102;refine(fZ X7.out.1.sx (c:=36) (bU _ _ (by omega) (by omega))).mono ?_;rintro e w8 ⟨v8,C,rfl,g1,g2,g3⟩;obtain⟨q8,k8,rfl⟩:=g1.shape;have X8:Hid (Room base w8 b s m p v D/\Below base w w8/\RR base w8 (.slice q8 C.length k8) C/\IsC C (cP m [(36,36)] false)/\∀ a∈D,∀ k,a.2.1.ownBlock=some k->(Value.slice q8 C.length k8).ownBlock≠some k):=⟨X7.out.1.kept g3,X7.out.2.trans (g3.mono X7.out.1.size),g1.mono X7.out.1.size,g2,X7.out.1.new g1⟩;clear g1 g2 g3)
  |(go_at_call 100;refine(X8.out.1.put (t:=bB m [(36,36)] false) X8.out.2.2.1 X8.out.2.2.2.1 X8.out.2.2.2.2 (n:=2) (q:=p+2) rfl (by omega)).mono ?_;rintro e w9 h9;have hz:=h9.1;subst hz;have X9:Hid (Puts base w b s m p D (.ok (bB m [(36,36)] false,p+2)) (.returned (.tuple #[])) w9):=h9.from X8.out.2.1;clear h9)
 go_end0
 exact X9.out
theorem aU7(h:Room base w b s m p v D)(hk:LK w b v last)(h1:p+1 < s.size)(hb:bt s (p+1)=92) :
  Calls Tryz.prog 98 #[.pointer (some ⟨b,0,none⟩)] w (Puts base w b s m p D (.ok (bB m [(92,92)] false,p+2))):=by
 have hs:=h.len
 have c0:=h.sx.c0
 have c3:=h.sx.c3
 have lb:=h.sx.lt
 have bs:=h.size
 obtain⟨P1,hP1⟩:∃ P1,P1=p+1:=⟨_,rfl⟩
 have hw1:IntKind.wrap .i64 ((p:Int)+1)=(P1:Int):=by rw [wrap_small _ (by omega) (by omega)];omega
 have hpl:P1 < s.size:=by omega
 have hx:(s[P1]'hpl).toNat=92:=by rw [cI];rw [hP1];exact hb
 have i0:(0:Int)<=(P1:Int):=by omega
 have i1:¬ (s.size:Int)<=(P1:Int):=by omega
 have i2:(P1:Int) < (s.size:Int):=by omega
 have H:Hid (Room base w b s m p v D/\LK w b v last/\p+2<=s.size):=⟨h,hk,by omega⟩
 clear h hk hb hP1
 go_enter Tryz.func98,Tryz.ntmps98
 go_wp2
 refine wx9 ?_
 repeat (go_big_quiet_step (first | exact rfl))
 refine wpQuiet_nil ?_
 intro w5 hw5
 have X5:Hid (Room base w5 b s m p v D/\LK w5 b v last/\Below base w w5):=⟨H.out.1.kept (aD hw5),H.out.2.1.kept (aD hw5),(aD hw5).mono bs⟩
 clear hw5
 go_wp2_with (go_at_call 94;refine(bG X5.out.1.sx X5.out.2.1).mono ?_;rintro e w6 ⟨rfl,h6⟩;have X6:Hid (Room base w6 b s m p v D/\Below base w w6):=⟨X5.out.1.kept h6,X5.out.2.2.trans (h6.mono X5.out.1.size)⟩;have q0:=X6.out.1.sx.c0;have q3:=X6.out.1.sx.c3;have ql:=X6.out.1.sx.lt;clear h6)
 refine wx9 ?_
 repeat (go_big_quiet_step (first | exact rfl))
 refine wpQuiet_nil ?_
 intro w7 hw7
 have X7:Hid (Room base w7 b s m p v D/\Below base w w7):=⟨X6.out.1.kept (aD hw7),X6.out.2.trans ((aD hw7).mono X6.out.1.size)⟩
 have r3:=X7.out.1.sx.c3
 have rl:=X7.out.1.sx.lt
 clear hw7
 go_wp2_with first
  |(go_at_call 102;refine(fZ X7.out.1.sx (c:=92) (bU _ _ (by omega) (by omega))).mono ?_;rintro e w8 ⟨v8,C,rfl,g1,g2,g3⟩;obtain⟨q8,k8,rfl⟩:=g1.shape;have X8:Hid (Room base w8 b s m p v D/\Below base w w8/\RR base w8 (.slice q8 C.length k8) C/\IsC C (cP m [(92,92)] false)/\∀ a∈D,∀ k,a.2.1.ownBlock=some k->(Value.slice q8 C.length k8).ownBlock≠some k):=⟨X7.out.1.kept g3,X7.out.2.trans (g3.mono X7.out.1.size),g1.mono X7.out.1.size,g2,X7.out.1.new g1⟩;clear g1 g2 g3)
  |(go_at_call 100;refine(X8.out.1.put (t:=bB m [(92,92)] false) X8.out.2.2.1 X8.out.2.2.2.1 X8.out.2.2.2.2 (n:=2) (q:=p+2) rfl (by omega)).mono ?_;rintro e w9 h9;have hz:=h9.1;subst hz;have X9:Hid (Puts base w b s m p D (.ok (bB m [(92,92)] false,p+2)) (.returned (.tuple #[])) w9):=h9.from X8.out.2.1;clear h9)
 go_end0
 exact X9.out
theorem aV0(h:Room base w b s m p v D)(hk:LK w b v last)(h1:p+1 < s.size)(hb:bt s (p+1)=47) :
  Calls Tryz.prog 98 #[.pointer (some ⟨b,0,none⟩)] w (Puts base w b s m p D (.ok (bB m [(47,47)] false,p+2))):=by
 have hs:=h.len
 have c0:=h.sx.c0
 have c3:=h.sx.c3
 have lb:=h.sx.lt
 have bs:=h.size
 obtain⟨P1,hP1⟩:∃ P1,P1=p+1:=⟨_,rfl⟩
 have hw1:IntKind.wrap .i64 ((p:Int)+1)=(P1:Int):=by rw [wrap_small _ (by omega) (by omega)];omega
 have hpl:P1 < s.size:=by omega
 have hx:(s[P1]'hpl).toNat=47:=by rw [cI];rw [hP1];exact hb
 have i0:(0:Int)<=(P1:Int):=by omega
 have i1:¬ (s.size:Int)<=(P1:Int):=by omega
 have i2:(P1:Int) < (s.size:Int):=by omega
 have H:Hid (Room base w b s m p v D/\LK w b v last/\p+2<=s.size):=⟨h,hk,by omega⟩
 clear h hk hb hP1
 go_enter Tryz.func98,Tryz.ntmps98
 go_wp2
 refine wx9 ?_
 repeat (go_big_quiet_step (first | exact rfl))
 refine wpQuiet_nil ?_
 intro w5 hw5
 have X5:Hid (Room base w5 b s m p v D/\LK w5 b v last/\Below base w w5):=⟨H.out.1.kept (aD hw5),H.out.2.1.kept (aD hw5),(aD hw5).mono bs⟩
 clear hw5
 go_wp2_with (go_at_call 94;refine(bG X5.out.1.sx X5.out.2.1).mono ?_;rintro e w6 ⟨rfl,h6⟩;have X6:Hid (Room base w6 b s m p v D/\Below base w w6):=⟨X5.out.1.kept h6,X5.out.2.2.trans (h6.mono X5.out.1.size)⟩;have q0:=X6.out.1.sx.c0;have q3:=X6.out.1.sx.c3;have ql:=X6.out.1.sx.lt;clear h6)
 refine wx9 ?_
 repeat (go_big_quiet_step (first | exact rfl))
 refine wpQuiet_nil ?_
 intro w7 hw7
 have X7:Hid (Room base w7 b s m p v D/\Below base w w7):=⟨X6.out.1.kept (aD hw7),X6.out.2.trans ((aD hw7).mono X6.out.1.size)⟩
 have r3:=X7.out.1.sx.c3
 have rl:=X7.out.1.sx.lt
 clear hw7
 go_wp2_with first
  |(go_at_call 102;refine(fZ X7.out.1.sx (c:=47) (bU _ _ (by omega) (by omega))).mono ?_;rintro e w8 ⟨v8,C,rfl,g1,g2,g3⟩;obtain⟨q8,k8,rfl⟩:=g1.shape;have X8:Hid (Room base w8 b s m p v D/\Below base w w8/\RR base w8 (.slice q8 C.length k8) C/\IsC C (cP m [(47,47)] false)/\∀ a∈D,∀ k,a.2.1.ownBlock=some k->(Value.slice q8 C.length k8).ownBlock≠some k):=⟨X7.out.1.kept g3,X7.out.2.trans (g3.mono X7.out.1.size),g1.mono X7.out.1.size,g2,X7.out.1.new g1⟩;clear g1 g2 g3)
  |(go_at_call 100;refine(X8.out.1.put (t:=bB m [(47,47)] false) X8.out.2.2.1 X8.out.2.2.2.1 X8.out.2.2.2.2 (n:=2) (q:=p+2) rfl (by omega)).mono ?_;rintro e w9 h9;have hz:=h9.1;subst hz;have X9:Hid (Puts base w b s m p D (.ok (bB m [(47,47)] false,p+2)) (.returned (.tuple #[])) w9):=h9.from X8.out.2.1;clear h9)
 go_end0
 exact X9.out
theorem uU(h:Room base w b s m p v D)(hk:LK w b v last)(h1:p+1 < s.size)(hb:bt s (p+1)=43)(hl:cS last=true) :
  Calls Tryz.prog 98 #[.pointer (some ⟨b,0,none⟩)] w (Puts base w b s m p D (.error (38,p))):=by
 have hs:=h.len
 have c0:=h.sx.c0
 have c3:=h.sx.c3
 have lb:=h.sx.lt
 have bs:=h.size
 obtain⟨P1,hP1⟩:∃ P1,P1=p+1:=⟨_,rfl⟩
 have hw1:IntKind.wrap .i64 ((p:Int)+1)=(P1:Int):=by rw [wrap_small _ (by omega) (by omega)];omega
 have hpl:P1 < s.size:=by omega
 have hx:(s[P1]'hpl).toNat=43:=by rw [cI];rw [hP1];exact hb
 have i0:(0:Int)<=(P1:Int):=by omega
 have i1:¬ (s.size:Int)<=(P1:Int):=by omega
 have i2:(P1:Int) < (s.size:Int):=by omega
 have H:Hid (Room base w b s m p v D/\LK w b v last/\p+2<=s.size):=⟨h,hk,by omega⟩
 clear h hk hb hP1
 have HL:cS last=true:=hl
 clear hl
 go_enter Tryz.func98,Tryz.ntmps98
 go_wp2
 refine wx9 ?_
 repeat (go_big_quiet_step (first | exact rfl))
 refine wpQuiet_nil ?_
 intro w5 hw5
 have X5:Hid (Room base w5 b s m p v D/\LK w5 b v last/\Below base w w5):=⟨H.out.1.kept (aD hw5),H.out.2.1.kept (aD hw5),(aD hw5).mono bs⟩
 clear hw5
 go_wp2_with (go_at_call 94;refine(bG X5.out.1.sx X5.out.2.1).mono ?_;rintro e w6 ⟨rfl,h6⟩;have X6:Hid (Room base w6 b s m p v D/\Below base w w6):=⟨X5.out.1.kept h6,X5.out.2.2.trans (h6.mono X5.out.1.size)⟩;have q0:=X6.out.1.sx.c0;have q3:=X6.out.1.sx.c3;have ql:=X6.out.1.sx.lt;clear h6)
 refine wx9 ?_
 repeat (go_big_quiet_step (first | exact rfl))
 refine wpQuiet_nil ?_
 intro w7 hw7
 have X7:Hid (Room base w7 b s m p v D/\Below base w w7):=⟨X6.out.1.kept (aD hw7),X6.out.2.trans ((aD hw7).mono X6.out.1.size)⟩
 have r3:=X7.out.1.sx.c3
 have rl:=X7.out.1.sx.lt
 clear hw7
 go_wp2_with (go_at_call 97;refine(X7.out.1.no 38 p).mono ?_;rintro e w9 ⟨rfl,h9,g9⟩;have X9:Hid (SX w9 b s m p v 38 p/\Below base w w9):=⟨h9,X7.out.2.trans g9⟩;clear h9 g9)
 go_end0
 exact⟨rfl,X9.out.2,v,X9.out.1⟩
theorem uT(h:Room base w b s m p v D)(hk:LK w b v last)(h1:p+1 < s.size)(hb:bt s (p+1)=63)(hl:cS last=true) :
  Calls Tryz.prog 98 #[.pointer (some ⟨b,0,none⟩)] w (Puts base w b s m p D (.error (38,p))):=by
 have hs:=h.len
 have c0:=h.sx.c0
 have c3:=h.sx.c3
 have lb:=h.sx.lt
 have bs:=h.size
 obtain⟨P1,hP1⟩:∃ P1,P1=p+1:=⟨_,rfl⟩
 have hw1:IntKind.wrap .i64 ((p:Int)+1)=(P1:Int):=by rw [wrap_small _ (by omega) (by omega)];omega
 have hpl:P1 < s.size:=by omega
 have hx:(s[P1]'hpl).toNat=63:=by rw [cI];rw [hP1];exact hb
 have i0:(0:Int)<=(P1:Int):=by omega
 have i1:¬ (s.size:Int)<=(P1:Int):=by omega
 have i2:(P1:Int) < (s.size:Int):=by omega
 have H:Hid (Room base w b s m p v D/\LK w b v last/\p+2<=s.size):=⟨h,hk,by omega⟩
 clear h hk hb hP1
 have HL:cS last=true:=hl
 clear hl
 go_enter Tryz.func98,Tryz.ntmps98
 go_wp2
 refine wx9 ?_
 repeat (go_big_quiet_step (first | exact rfl))
 refine wpQuiet_nil ?_
 intro w5 hw5
 have X5:Hid (Room base w5 b s m p v D/\LK w5 b v last/\Below base w w5):=⟨H.out.1.kept (aD hw5),H.out.2.1.kept (aD hw5),(aD hw5).mono bs⟩
 clear hw5
 go_wp2_with (go_at_call 94;refine(bG X5.out.1.sx X5.out.2.1).mono ?_;rintro e w6 ⟨rfl,h6⟩;have X6:Hid (Room base w6 b s m p v D/\Below base w w6):=⟨X5.out.1.kept h6,X5.out.2.2.trans (h6.mono X5.out.1.size)⟩;have q0:=X6.out.1.sx.c0;have q3:=X6.out.1.sx.c3;have ql:=X6.out.1.sx.lt;clear h6)
 refine wx9 ?_
 repeat (go_big_quiet_step (first | exact rfl))
 refine wpQuiet_nil ?_
 intro w7 hw7
 have X7:Hid (Room base w7 b s m p v D/\Below base w w7):=⟨X6.out.1.kept (aD hw7),X6.out.2.trans ((aD hw7).mono X6.out.1.size)⟩
 have r3:=X7.out.1.sx.c3
 have rl:=X7.out.1.sx.lt
 clear hw7
 go_wp2_with (go_at_call 97;refine(X7.out.1.no 38 p).mono ?_;rintro e w9 ⟨rfl,h9,g9⟩;have X9:Hid (SX w9 b s m p v 38 p/\Below base w w9):=⟨h9,X7.out.2.trans g9⟩;clear h9 g9)
 go_end0
 exact⟨rfl,X9.out.2,v,X9.out.1⟩
theorem sX(h:Room base w b s m p v D)(hk:LK w b v last)(h1:p+1 < s.size)(hb:bt s (p+1)=123)(hl:cS last=true) :
  Calls Tryz.prog 98 #[.pointer (some ⟨b,0,none⟩)] w (Puts base w b s m p D (.error (38,p))):=by
 have hs:=h.len
 have c0:=h.sx.c0
 have c3:=h.sx.c3
 have lb:=h.sx.lt
 have bs:=h.size
 obtain⟨P1,hP1⟩:∃ P1,P1=p+1:=⟨_,rfl⟩
 have hw1:IntKind.wrap .i64 ((p:Int)+1)=(P1:Int):=by rw [wrap_small _ (by omega) (by omega)];omega
 have hpl:P1 < s.size:=by omega
 have hx:(s[P1]'hpl).toNat=123:=by rw [cI];rw [hP1];exact hb
 have i0:(0:Int)<=(P1:Int):=by omega
 have i1:¬ (s.size:Int)<=(P1:Int):=by omega
 have i2:(P1:Int) < (s.size:Int):=by omega
 have H:Hid (Room base w b s m p v D/\LK w b v last/\p+2<=s.size):=⟨h,hk,by omega⟩
 clear h hk hb hP1
 have HL:cS last=true:=hl
 clear hl
 go_enter Tryz.func98,Tryz.ntmps98
 go_wp2
 refine wx9 ?_
 repeat (go_big_quiet_step (first | exact rfl))
 refine wpQuiet_nil ?_
 intro w5 hw5
 have X5:Hid (Room base w5 b s m p v D/\LK w5 b v last/\Below base w w5):=⟨H.out.1.kept (aD hw5),H.out.2.1.kept (aD hw5),(aD hw5).mono bs⟩
 clear hw5
 go_wp2_with (go_at_call 94;refine(bG X5.out.1.sx X5.out.2.1).mono ?_;rintro e w6 ⟨rfl,h6⟩;have X6:Hid (Room base w6 b s m p v D/\Below base w w6):=⟨X5.out.1.kept h6,X5.out.2.2.trans (h6.mono X5.out.1.size)⟩;have q0:=X6.out.1.sx.c0;have q3:=X6.out.1.sx.c3;have ql:=X6.out.1.sx.lt;clear h6)
 refine wx9 ?_
 repeat (go_big_quiet_step (first | exact rfl))
 refine wpQuiet_nil ?_
 intro w7 hw7
 have X7:Hid (Room base w7 b s m p v D/\Below base w w7):=⟨X6.out.1.kept (aD hw7),X6.out.2.trans ((aD hw7).mono X6.out.1.size)⟩
 have r3:=X7.out.1.sx.c3
 have rl:=X7.out.1.sx.lt
 clear hw7
 go_wp2_with (go_at_call 97;refine(X7.out.1.no 38 p).mono ?_;rintro e w9 ⟨rfl,h9,g9⟩;have X9:Hid (SX w9 b s m p v 38 p/\Below base w w9):=⟨h9,X7.out.2.trans g9⟩;clear h9 g9)
 go_end0
 exact⟨rfl,X9.out.2,v,X9.out.1⟩
theorem aV2(h:Room base w b s m p v D)(hk:LK w b v last)(h1:p+1 < s.size)(hb:bt s (p+1)=43)(hl:cS last=false) :
  Calls Tryz.prog 98 #[.pointer (some ⟨b,0,none⟩)] w (Puts base w b s m p D (.ok (cQ 1 (-1),p+2))):=by
 have hs:=h.len
 have c0:=h.sx.c0
 have c3:=h.sx.c3
 have lb:=h.sx.lt
 have bs:=h.size
 obtain⟨P1,hP1⟩:∃ P1,P1=p+1:=⟨_,rfl⟩
 have hw1:IntKind.wrap .i64 ((p:Int)+1)=(P1:Int):=by rw [wrap_small _ (by omega) (by omega)];omega
 have hpl:P1 < s.size:=by omega
 have hx:(s[P1]'hpl).toNat=43:=by rw [cI];rw [hP1];exact hb
 have i0:(0:Int)<=(P1:Int):=by omega
 have i1:¬ (s.size:Int)<=(P1:Int):=by omega
 have i2:(P1:Int) < (s.size:Int):=by omega
 have H:Hid (Room base w b s m p v D/\LK w b v last/\p+2<=s.size):=⟨h,hk,by omega⟩
 clear h hk hb hP1
 go_enter Tryz.func98,Tryz.ntmps98
 go_wp2
 refine wx9 ?_
 repeat (go_big_quiet_step (first | exact rfl))
 refine wpQuiet_nil ?_
 intro w5 hw5
 have X5:Hid (Room base w5 b s m p v D/\LK w5 b v last/\Below base w w5):=⟨H.out.1.kept (aD hw5),H.out.2.1.kept (aD hw5),(aD hw5).mono bs⟩
 clear hw5
 go_wp2_with (go_at_call 94;refine(bG X5.out.1.sx X5.out.2.1).mono ?_;rintro e w6 ⟨rfl,h6⟩;have X6:Hid (Room base w6 b s m p v D/\Below base w w6):=⟨X5.out.1.kept h6,X5.out.2.2.trans (h6.mono X5.out.1.size)⟩;have q0:=X6.out.1.sx.c0;have q3:=X6.out.1.sx.c3;have ql:=X6.out.1.sx.lt;clear h6)
 refine wx9 ?_
 repeat (go_big_quiet_step (first | exact rfl))
 refine wpQuiet_nil ?_
 intro w7 hw7
 have X7:Hid (Room base w7 b s m p v D/\Below base w w7):=⟨X6.out.1.kept (aD hw7),X6.out.2.trans ((aD hw7).mono X6.out.1.size)⟩
 have r3:=X7.out.1.sx.c3
 have rl:=X7.out.1.sx.lt
 clear hw7
 go_wp2_with (go_at_call 100;refine(X7.out.1.put0 (t:=cQ 1 (-1)) rfl (n:=2) (q:=p+2) rfl (by omega)).mono ?_;rintro e w9 h9;have hz:=h9.1;subst hz;have X9:Hid (Puts base w b s m p D (.ok (cQ 1 (-1),p+2)) (.returned (.tuple #[])) w9):=h9.from X7.out.2;clear h9)
 go_end0
 exact X9.out
theorem aU9(h:Room base w b s m p v D)(hk:LK w b v last)(h1:p+1 < s.size)(hb:bt s (p+1)=63)(hl:cS last=false) :
  Calls Tryz.prog 98 #[.pointer (some ⟨b,0,none⟩)] w (Puts base w b s m p D (.ok (cQ 0 1,p+2))):=by
 have hs:=h.len
 have c0:=h.sx.c0
 have c3:=h.sx.c3
 have lb:=h.sx.lt
 have bs:=h.size
 obtain⟨P1,hP1⟩:∃ P1,P1=p+1:=⟨_,rfl⟩
 have hw1:IntKind.wrap .i64 ((p:Int)+1)=(P1:Int):=by rw [wrap_small _ (by omega) (by omega)];omega
 have hpl:P1 < s.size:=by omega
 have hx:(s[P1]'hpl).toNat=63:=by rw [cI];rw [hP1];exact hb
 have i0:(0:Int)<=(P1:Int):=by omega
 have i1:¬ (s.size:Int)<=(P1:Int):=by omega
 have i2:(P1:Int) < (s.size:Int):=by omega
 have H:Hid (Room base w b s m p v D/\LK w b v last/\p+2<=s.size):=⟨h,hk,by omega⟩
 clear h hk hb hP1
 go_enter Tryz.func98,Tryz.ntmps98
 go_wp2
 refine wx9 ?_
 repeat (go_big_quiet_step (first | exact rfl))
 refine wpQuiet_nil ?_
 intro w5 hw5
 have X5:Hid (Room base w5 b s m p v D/\LK w5 b v last/\Below base w w5):=⟨H.out.1.kept (aD hw5),H.out.2.1.kept (aD hw5),(aD hw5).mono bs⟩
 clear hw5
 go_wp2_with (go_at_call 94;refine(bG X5.out.1.sx X5.out.2.1).mono ?_;rintro e w6 ⟨rfl,h6⟩;have X6:Hid (Room base w6 b s m p v D/\Below base w w6):=⟨X5.out.1.kept h6,X5.out.2.2.trans (h6.mono X5.out.1.size)⟩;have q0:=X6.out.1.sx.c0;have q3:=X6.out.1.sx.c3;have ql:=X6.out.1.sx.lt;clear h6)
 refine wx9 ?_
 repeat (go_big_quiet_step (first | exact rfl))
 refine wpQuiet_nil ?_
 intro w7 hw7
 have X7:Hid (Room base w7 b s m p v D/\Below base w w7):=⟨X6.out.1.kept (aD hw7),X6.out.2.trans ((aD hw7).mono X6.out.1.size)⟩
 have r3:=X7.out.1.sx.c3
 have rl:=X7.out.1.sx.lt
 clear hw7
 go_wp2_with (go_at_call 100;refine(X7.out.1.put0 (t:=cQ 0 1) rfl (n:=2) (q:=p+2) rfl (by omega)).mono ?_;rintro e w9 h9;have hz:=h9.1;subst hz;have X9:Hid (Puts base w b s m p D (.ok (cQ 0 1,p+2)) (.returned (.tuple #[])) w9):=h9.from X7.out.2;clear h9)
 go_end0
 exact X9.out
theorem aM1(h:Room base w b s m p v D)(hk:LK w b v last)(h1:p+1 < s.size)(hb:bt s (p+1)=123)(hl:cS last=false) :
  Calls Tryz.prog 98 #[.pointer (some ⟨b,0,none⟩)] w (Puts base w b s m p D (dY s p)):=by
 have hs:=h.len
 have c0:=h.sx.c0
 have c3:=h.sx.c3
 have lb:=h.sx.lt
 have bs:=h.size
 obtain⟨P1,hP1⟩:∃ P1,P1=p+1:=⟨_,rfl⟩
 have hw1:IntKind.wrap .i64 ((p:Int)+1)=(P1:Int):=by rw [wrap_small _ (by omega) (by omega)];omega
 have hpl:P1 < s.size:=by omega
 have hx:(s[P1]'hpl).toNat=123:=by rw [cI];rw [hP1];exact hb
 have i0:(0:Int)<=(P1:Int):=by omega
 have i1:¬ (s.size:Int)<=(P1:Int):=by omega
 have i2:(P1:Int) < (s.size:Int):=by omega
 have H:Hid (Room base w b s m p v D/\LK w b v last/\p+2<=s.size):=⟨h,hk,by omega⟩
 clear h hk hb hP1
 go_enter Tryz.func98,Tryz.ntmps98
 go_wp2
 refine wx9 ?_
 repeat (go_big_quiet_step (first | exact rfl))
 refine wpQuiet_nil ?_
 intro w5 hw5
 have X5:Hid (Room base w5 b s m p v D/\LK w5 b v last/\Below base w w5):=⟨H.out.1.kept (aD hw5),H.out.2.1.kept (aD hw5),(aD hw5).mono bs⟩
 clear hw5
 go_wp2_with (go_at_call 94;refine(bG X5.out.1.sx X5.out.2.1).mono ?_;rintro e w6 ⟨rfl,h6⟩;have X6:Hid (Room base w6 b s m p v D/\Below base w w6):=⟨X5.out.1.kept h6,X5.out.2.2.trans (h6.mono X5.out.1.size)⟩;have q0:=X6.out.1.sx.c0;have q3:=X6.out.1.sx.c3;have ql:=X6.out.1.sx.lt;clear h6)
 refine wx9 ?_
 repeat (go_big_quiet_step (first | exact rfl))
 refine wpQuiet_nil ?_
 intro w7 hw7
 have X7:Hid (Room base w7 b s m p v D/\Below base w w7):=⟨X6.out.1.kept (aD hw7),X6.out.2.trans ((aD hw7).mono X6.out.1.size)⟩
 have r3:=X7.out.1.sx.c3
 have rl:=X7.out.1.sx.lt
 clear hw7
 go_wp2_with (go_at_call 121;refine(uP X7.out.1 H.out.2.2).mono ?_;rintro e w9 h9;have hz:=h9.1;subst hz;have X9:Hid (Puts base w b s m p D (dY s p) (.returned (.tuple #[])) w9):=h9.from X7.out.2;clear h9)
 go_end0
 exact X9.out
theorem aL9{d:Nat}(h:Room base w b s m p v D)(hk:LK w b v last)(h1:p+1 < s.size)(hb:bt s (p+1)=d)(hd:49<=d/\d<=57) :
  Calls Tryz.prog 98 #[.pointer (some ⟨b,0,none⟩)] w (Puts base w b s m p D (.ok (cX (d - 48),p+2))):=by
 have hs:=h.len
 have c0:=h.sx.c0
 have c3:=h.sx.c3
 have lb:=h.sx.lt
 have bs:=h.size
 obtain⟨P1,hP1⟩:∃ P1,P1=p+1:=⟨_,rfl⟩
 have hw1:IntKind.wrap .i64 ((p:Int)+1)=(P1:Int):=by rw [wrap_small _ (by omega) (by omega)];omega
 have hpl:P1 < s.size:=by omega
 have hx:(s[P1]'hpl).toNat=d:=by rw [cI];rw [hP1];exact hb
 have i0:(0:Int)<=(P1:Int):=by omega
 have i1:¬ (s.size:Int)<=(P1:Int):=by omega
 have i2:(P1:Int) < (s.size:Int):=by omega
 have H:Hid (Room base w b s m p v D/\LK w b v last/\p+2<=s.size):=⟨h,hk,by omega⟩
 clear h hk hb hP1
 have n1:((d:Int)==40)=false:=beq_eq_false_iff_ne.2 (by omega)
 have n2:((d:Int)==41)=false:=beq_eq_false_iff_ne.2 (by omega)
 have n3:((d:Int)==124)=false:=beq_eq_false_iff_ne.2 (by omega)
 have n4:(49:Int)<=(d:Int):=by omega
 have n5:(d:Int)<=57:=by omega
 have n6:IntKind.wrap .i64 (d:Int)=(d:Int):=wrap_small _ (by omega) (by omega)
 have n7:IntKind.wrap .i64 ((d:Int) - 48)=((d - 48:Nat):Int):=by rw [wrap_small _ (by omega) (by omega)];omega
 go_enter Tryz.func98,Tryz.ntmps98
 go_wp2
 refine wx9 ?_
 repeat (go_big_quiet_step (first | exact rfl))
 refine wpQuiet_nil ?_
 intro w5 hw5
 have X5:Hid (Room base w5 b s m p v D/\LK w5 b v last/\Below base w w5):=⟨H.out.1.kept (aD hw5),H.out.2.1.kept (aD hw5),(aD hw5).mono bs⟩
 clear hw5
 go_wp2_with (go_at_call 94;refine(bG X5.out.1.sx X5.out.2.1).mono ?_;rintro e w6 ⟨rfl,h6⟩;have X6:Hid (Room base w6 b s m p v D/\Below base w w6):=⟨X5.out.1.kept h6,X5.out.2.2.trans (h6.mono X5.out.1.size)⟩;have q0:=X6.out.1.sx.c0;have q3:=X6.out.1.sx.c3;have ql:=X6.out.1.sx.lt;clear h6)
 refine wx9 ?_
 repeat (go_big_quiet_step (first | exact rfl))
 refine wpQuiet_nil ?_
 intro w7 hw7
 have X7:Hid (Room base w7 b s m p v D/\Below base w w7):=⟨X6.out.1.kept (aD hw7),X6.out.2.trans ((aD hw7).mono X6.out.1.size)⟩
 have r3:=X7.out.1.sx.c3
 have rl:=X7.out.1.sx.lt
 clear hw7
 go_wp2_with (go_at_call 100;refine(X7.out.1.put0 (t:=cX (d - 48)) rfl (n:=2) (q:=p+2) rfl (by omega)).mono ?_;rintro e w9 h9;have hz:=h9.1;subst hz;have X9:Hid (Puts base w b s m p D (.ok (cX (d - 48),p+2)) (.returned (.tuple #[])) w9):=h9.from X7.out.2;clear h9)
 go_end0
 exact X9.out
theorem aL8{d:Nat}(h:Room base w b s m p v D)(hk:LK w b v last)(h1:p+1 < s.size)(hb:bt s (p+1)=d)(hd:(∀ x∈[40,41,124,46,91,93,42,94,36,92,47,43,63,123],d≠x)/\d < 49) :
  Calls Tryz.prog 98 #[.pointer (some ⟨b,0,none⟩)] w (Puts base w b s m p D (.error (32,p))):=by
 have hs:=h.len
 have c0:=h.sx.c0
 have c3:=h.sx.c3
 have lb:=h.sx.lt
 have bs:=h.size
 obtain⟨P1,hP1⟩:∃ P1,P1=p+1:=⟨_,rfl⟩
 have hw1:IntKind.wrap .i64 ((p:Int)+1)=(P1:Int):=by rw [wrap_small _ (by omega) (by omega)];omega
 have hpl:P1 < s.size:=by omega
 have hx:(s[P1]'hpl).toNat=d:=by rw [cI];rw [hP1];exact hb
 have i0:(0:Int)<=(P1:Int):=by omega
 have i1:¬ (s.size:Int)<=(P1:Int):=by omega
 have i2:(P1:Int) < (s.size:Int):=by omega
 have H:Hid (Room base w b s m p v D/\LK w b v last/\p+2<=s.size):=⟨h,hk,by omega⟩
 clear h hk hb hP1
 have n40:((d:Int)==40)=false:=beq_eq_false_iff_ne.2 (by have:=hd.1 40 (by simp);omega)
 have n41:((d:Int)==41)=false:=beq_eq_false_iff_ne.2 (by have:=hd.1 41 (by simp);omega)
 have n124:((d:Int)==124)=false:=beq_eq_false_iff_ne.2 (by have:=hd.1 124 (by simp);omega)
 have n46:((d:Int)==46)=false:=beq_eq_false_iff_ne.2 (by have:=hd.1 46 (by simp);omega)
 have n91:((d:Int)==91)=false:=beq_eq_false_iff_ne.2 (by have:=hd.1 91 (by simp);omega)
 have n93:((d:Int)==93)=false:=beq_eq_false_iff_ne.2 (by have:=hd.1 93 (by simp);omega)
 have n42:((d:Int)==42)=false:=beq_eq_false_iff_ne.2 (by have:=hd.1 42 (by simp);omega)
 have n94:((d:Int)==94)=false:=beq_eq_false_iff_ne.2 (by have:=hd.1 94 (by simp);omega)
 have n36:((d:Int)==36)=false:=beq_eq_false_iff_ne.2 (by have:=hd.1 36 (by simp);omega)
 have n92:((d:Int)==92)=false:=beq_eq_false_iff_ne.2 (by have:=hd.1 92 (by simp);omega)
 have n47:((d:Int)==47)=false:=beq_eq_false_iff_ne.2 (by have:=hd.1 47 (by simp);omega)
 have n43:((d:Int)==43)=false:=beq_eq_false_iff_ne.2 (by have:=hd.1 43 (by simp);omega)
 have n63:((d:Int)==63)=false:=beq_eq_false_iff_ne.2 (by have:=hd.1 63 (by simp);omega)
 have n123:((d:Int)==123)=false:=beq_eq_false_iff_ne.2 (by have:=hd.1 123 (by simp);omega)
 have g1:¬ (49:Int)<=(d:Int):=by omega
 have z43:((d:Int) != 43)=true:=bne_iff_ne.2 (by have:=hd.1 43 (by simp);omega)
 have z63:((d:Int) != 63)=true:=bne_iff_ne.2 (by have:=hd.1 63 (by simp);omega)
 have z123:((d:Int) != 123)=true:=bne_iff_ne.2 (by have:=hd.1 123 (by simp);omega)
 clear hd
 go_enter Tryz.func98,Tryz.ntmps98
 go_wp2
 refine wx9 ?_
 repeat (go_big_quiet_step (first | exact rfl))
 refine wpQuiet_nil ?_
 intro w5 hw5
 have X5:Hid (Room base w5 b s m p v D/\LK w5 b v last/\Below base w w5):=⟨H.out.1.kept (aD hw5),H.out.2.1.kept (aD hw5),(aD hw5).mono bs⟩
 clear hw5
 go_wp2_with (go_at_call 94;refine(bG X5.out.1.sx X5.out.2.1).mono ?_;rintro e w6 ⟨rfl,h6⟩;have X6:Hid (Room base w6 b s m p v D/\Below base w w6):=⟨X5.out.1.kept h6,X5.out.2.2.trans (h6.mono X5.out.1.size)⟩;have q0:=X6.out.1.sx.c0;have q3:=X6.out.1.sx.c3;have ql:=X6.out.1.sx.lt;clear h6)
 refine wx9 ?_
 repeat (go_big_quiet_step (first | exact rfl))
 refine wpQuiet_nil ?_
 intro w7 hw7
 have X7:Hid (Room base w7 b s m p v D/\Below base w w7):=⟨X6.out.1.kept (aD hw7),X6.out.2.trans ((aD hw7).mono X6.out.1.size)⟩
 have r3:=X7.out.1.sx.c3
 have rl:=X7.out.1.sx.lt
 clear hw7
 go_wp2_with (go_at_call 97;refine(X7.out.1.no 32 p).mono ?_;rintro e w9 ⟨rfl,h9,g9⟩;have X9:Hid (SX w9 b s m p v 32 p/\Below base w w9):=⟨h9,X7.out.2.trans g9⟩;clear h9 g9)
 go_end0
 exact⟨rfl,X9.out.2,v,X9.out.1⟩
theorem aE2{d:Nat}(h:Room base w b s m p v D)(hk:LK w b v last)(h1:p+1 < s.size)(hb:bt s (p+1)=d)(hd:(∀ x∈[40,41,124,46,91,93,42,94,36,92,47,43,63,123],d≠x)/\57 < d) :
  Calls Tryz.prog 98 #[.pointer (some ⟨b,0,none⟩)] w (Puts base w b s m p D (.error (32,p))):=by
 have hs:=h.len
 have c0:=h.sx.c0
 have c3:=h.sx.c3
 have lb:=h.sx.lt
 have bs:=h.size
 obtain⟨P1,hP1⟩:∃ P1,P1=p+1:=⟨_,rfl⟩
 have hw1:IntKind.wrap .i64 ((p:Int)+1)=(P1:Int):=by rw [wrap_small _ (by omega) (by omega)];omega
 have hpl:P1 < s.size:=by omega
 have hx:(s[P1]'hpl).toNat=d:=by rw [cI];rw [hP1];exact hb
 have i0:(0:Int)<=(P1:Int):=by omega
 have i1:¬ (s.size:Int)<=(P1:Int):=by omega
 have i2:(P1:Int) < (s.size:Int):=by omega
 have H:Hid (Room base w b s m p v D/\LK w b v last/\p+2<=s.size):=⟨h,hk,by omega⟩
 clear h hk hb hP1
 have n40:((d:Int)==40)=false:=beq_eq_false_iff_ne.2 (by have:=hd.1 40 (by simp);omega)
 have n41:((d:Int)==41)=false:=beq_eq_false_iff_ne.2 (by have:=hd.1 41 (by simp);omega)
 have n124:((d:Int)==124)=false:=beq_eq_false_iff_ne.2 (by have:=hd.1 124 (by simp);omega)
 have n46:((d:Int)==46)=false:=beq_eq_false_iff_ne.2 (by have:=hd.1 46 (by simp);omega)
 have n91:((d:Int)==91)=false:=beq_eq_false_iff_ne.2 (by have:=hd.1 91 (by simp);omega)
 have n93:((d:Int)==93)=false:=beq_eq_false_iff_ne.2 (by have:=hd.1 93 (by simp);omega)
 have n42:((d:Int)==42)=false:=beq_eq_false_iff_ne.2 (by have:=hd.1 42 (by simp);omega)
 have n94:((d:Int)==94)=false:=beq_eq_false_iff_ne.2 (by have:=hd.1 94 (by simp);omega)
 have n36:((d:Int)==36)=false:=beq_eq_false_iff_ne.2 (by have:=hd.1 36 (by simp);omega)
 have n92:((d:Int)==92)=false:=beq_eq_false_iff_ne.2 (by have:=hd.1 92 (by simp);omega)
 have n47:((d:Int)==47)=false:=beq_eq_false_iff_ne.2 (by have:=hd.1 47 (by simp);omega)
 have n43:((d:Int)==43)=false:=beq_eq_false_iff_ne.2 (by have:=hd.1 43 (by simp);omega)
 have n63:((d:Int)==63)=false:=beq_eq_false_iff_ne.2 (by have:=hd.1 63 (by simp);omega)
 have n123:((d:Int)==123)=false:=beq_eq_false_iff_ne.2 (by have:=hd.1 123 (by simp);omega)
 have g0:(49:Int)<=(d:Int):=by omega
 have g1:¬ (d:Int)<=57:=by omega
 have z43:((d:Int) != 43)=true:=bne_iff_ne.2 (by have:=hd.1 43 (by simp);omega)
 have z63:((d:Int) != 63)=true:=bne_iff_ne.2 (by have:=hd.1 63 (by simp);omega)
 have z123:((d:Int) != 123)=true:=bne_iff_ne.2 (by have:=hd.1 123 (by simp);omega)
 clear hd
 go_enter Tryz.func98,Tryz.ntmps98
 go_wp2
 refine wx9 ?_
 repeat (go_big_quiet_step (first | exact rfl))
 refine wpQuiet_nil ?_
 intro w5 hw5
 have X5:Hid (Room base w5 b s m p v D/\LK w5 b v last/\Below base w w5):=⟨H.out.1.kept (aD hw5),H.out.2.1.kept (aD hw5),(aD hw5).mono bs⟩
 clear hw5
 go_wp2_with (go_at_call 94;refine(bG X5.out.1.sx X5.out.2.1).mono ?_;rintro e w6 ⟨rfl,h6⟩;have X6:Hid (Room base w6 b s m p v D/\Below base w w6):=⟨X5.out.1.kept h6,X5.out.2.2.trans (h6.mono X5.out.1.size)⟩;have q0:=X6.out.1.sx.c0;have q3:=X6.out.1.sx.c3;have ql:=X6.out.1.sx.lt;clear h6)
 refine wx9 ?_
 repeat (go_big_quiet_step (first | exact rfl))
 refine wpQuiet_nil ?_
 intro w7 hw7
 have X7:Hid (Room base w7 b s m p v D/\Below base w w7):=⟨X6.out.1.kept (aD hw7),X6.out.2.trans ((aD hw7).mono X6.out.1.size)⟩
 have r3:=X7.out.1.sx.c3
 have rl:=X7.out.1.sx.lt
 clear hw7
 go_wp2_with (go_at_call 97;refine(X7.out.1.no 32 p).mono ?_;rintro e w9 ⟨rfl,h9,g9⟩;have X9:Hid (SX w9 b s m p v 32 p/\Below base w w9):=⟨h9,X7.out.2.trans g9⟩;clear h9 g9)
 go_end0
 exact⟨rfl,X9.out.2,v,X9.out.1⟩
theorem xP(h:Room base w b s m p v D)(h1:p+1=s.size) :
  Calls Tryz.prog 98 #[.pointer (some ⟨b,0,none⟩)] w (Puts base w b s m p D (.error (31,p))):=by
 have hs:=h.len
 have c0:=h.sx.c0
 have c3:=h.sx.c3
 have lb:=h.sx.lt
 have bs:=h.size
 obtain⟨P1,hP1⟩:∃ P1,P1=p+1:=⟨_,rfl⟩
 have hw1:IntKind.wrap .i64 ((p:Int)+1)=(P1:Int):=by rw [wrap_small _ (by omega) (by omega)];omega
 have i1:(s.size:Int)<=(P1:Int):=by omega
 have H:Hid (Room base w b s m p v D):=h
 clear h h1 hP1
 go_enter Tryz.func98,Tryz.ntmps98
 go_wp2
 refine wx9 ?_
 repeat (go_big_quiet_step (first | exact rfl))
 refine wpQuiet_nil ?_
 intro w5 hw5
 have X7:Hid (Room base w5 b s m p v D/\Below base w w5):=⟨H.out.kept (aD hw5),(aD hw5).mono bs⟩
 have r3:=X7.out.1.sx.c3
 have rl:=X7.out.1.sx.lt
 clear hw5
 go_wp2_with (go_at_call 97;refine(X7.out.1.no 31 p).mono ?_;rintro e w9 ⟨rfl,h9,g9⟩;have X9:Hid (SX w9 b s m p v 31 p/\Below base w w9):=⟨h9,X7.out.2.trans g9⟩;clear h9 g9)
 go_end0
 exact⟨rfl,X9.out.2,v,X9.out.1⟩
theorem aE1(h:Room base w b s m p v D)(hk:LK w b v last) :
  Calls Tryz.prog 98 #[.pointer (some ⟨b,0,none⟩)] w (Puts base w b s m p D (esc m s p last)):=by
 have ha:=h.at_
 unfold esc
 by_cases h1:p+1=s.size
 ·rw [if_pos h1];exact xP h h1
 have h2:p+1 < s.size:=by omega
 rw [if_neg h1]
 by_cases e1:bt s (p+1)=40
 ·rw [if_pos e1];exact aV5 h hk h2 e1
 rw [if_neg e1]
 by_cases e2:bt s (p+1)=41
 ·rw [if_pos e2];exact aV4 h hk h2 e2
 rw [if_neg e2]
 by_cases e3:bt s (p+1)=124
 ·rw [if_pos e3];exact aM0 h hk h2 e3
 rw [if_neg e3]
 by_cases e4:49<=bt s (p+1)/\bt s (p+1)<=57
 ·rw [if_pos e4];exact aL9 h hk h2 rfl e4
 rw [if_neg e4]
 by_cases e5:bt s (p+1)=43\/bt s (p+1)=63\/bt s (p+1)=123
 ·rw [if_pos e5]
  cases hl:cS last with
  | true=>
   rw [if_pos rfl]
   rcases e5 with e | e | e
   ·exact uU h hk h2 e hl
   ·exact uT h hk h2 e hl
   ·exact sX h hk h2 e hl
  | false=>
   rw [if_neg (by simp)]
   rcases e5 with e | e | e
   ·rw [if_pos e];exact aV2 h hk h2 e hl
   ·rw [if_neg (by omega),if_pos e];exact aU9 h hk h2 e hl
   ·rw [if_neg (by omega),if_neg (by omega)];exact aM1 h hk h2 e hl
 rw [if_neg e5]
 by_cases e6:bt s (p+1)=46\/bt s (p+1)=91\/bt s (p+1)=93\/bt s (p+1)=42\/bt s (p+1)=94\/bt s (p+1)=36\/bt s (p+1)=92\/bt s (p+1)=47
 ·rw [if_pos e6]
  rcases e6 with e | e | e | e | e | e | e | e <;> rw [e]
  ·exact aV1 h hk h2 e
  ·exact aU8 h hk h2 e
  ·exact aU6 h hk h2 e
  ·exact aV3 h hk h2 e
  ·exact aU5 h hk h2 e
  ·exact aV6 h hk h2 e
  ·exact aU7 h hk h2 e
  ·exact aV0 h hk h2 e
 rw [if_neg e6]
 have hne:∀ x∈[40,41,124,46,91,93,42,94,36,92,47,43,63,123],bt s (p+1)≠x:=by
  intro x hx
  simp at hx
  omega
 rcases Nat.lt_or_ge (bt s (p+1)) 49 with g | g
 ·exact aL8 h hk h2 rfl ⟨hne,g⟩
 ·exact aE2 h hk h2 rfl ⟨hne,by omega⟩
end
end Go.Proofs.YtpfdapnfkghgkaaGreatDoor
