/-
  Parts of the proof.
-/
import Derived.Test.YticfnglebbakkaaGreatDoorAgainProofB27
set_option maxRecDepth 100000
set_option maxHeartbeats 8000000
namespace Go.Proofs.YticfnglebbakkaaGreatDoor
open Go Go.RowKit
section
attribute [local go_sem] aV
def upV(s:ByteArray)(p:Nat):Int:=if (cH s p).length=0 then -1 else (fJ (cH s p):Int)
theorem aY8{w:World}{b:Nat}{s:ByteArray}{m:Md}{p:Nat}{tv:Value}(h:RD w b s m p tv)(hp:p<=s.size)(hs:s.size<=2000) :
  Calls Tryz.prog 184 #[.pointer (some ⟨b,0,none⟩)] w fun e w'=>e=.returned (.int .i64 (upV s p))/\RD w' b s m (p+(cH s p).length) tv/\Fr (At b) w w':=by
 have hc:=wH h hp hs
 clear h
 unfold upV
 by_cases hl:(cH s p).length=0
 ·rw [if_pos hl]
  have e:decide (0 < (cH s p).length)=false:=decide_eq_false (by omega)
  rw [e] at hc
  clear e
  go_enter Tryz.func184,Tryz.ntmps184
  go_wp2_with (go_at_call 183;refine hc.mono ?_;rintro e w5 ⟨rfl,h1,h2⟩;have X5:Hid (RD w5 b s m (p+(cH s p).length) tv/\Fr (At b) w w5):=⟨h1,h2⟩;clear h1 h2)
  go_ret
  exact⟨rfl,X5.out⟩
 ·rw [if_neg hl]
  have e:decide (0 < (cH s p).length)=true:=decide_eq_true (by omega)
  rw [e] at hc
  clear e
  go_enter Tryz.func184,Tryz.ntmps184
  go_wp2_with (go_at_call 183;refine hc.mono ?_;rintro e w5 ⟨rfl,h1,h2⟩;have X5:Hid (RD w5 b s m (p+(cH s p).length) tv/\Fr (At b) w w5):=⟨h1,h2⟩;clear h1 h2)
  go_ret
  exact⟨rfl,X5.out⟩
theorem iS(x y:Int):tkV (dK x y) 0 0 (.slice none 0 0)=.agg #[.int .i64 2,.int .i64 0,.int .i64 0,.int .i64 0,.int .i64 x,.int .i64 y,.slice none 0 0]:=rfl
theorem qI{w:World}{b:Nat}{s:ByteArray}{m:Md}{p:Nat}{tv:Value}(h:RD w b s m (p+2) tv)(hp:p+2<=s.size)(hs:s.size<=2000) :
  Calls Tryz.prog 165 #[.pointer (some ⟨b,0,none⟩),.int .i64 (p:Int)] w (Outs w b s m tv (cR w.heap.size) (lW s p)):=by
 have lb:=h.lt
 have W1:Hid (Below w.heap.size w (w.alloc cE)):=bz9
 have R1:Hid (RD (w.alloc cE) b s m (p+2) tv):=h.kept W1.out
 have HN:Hid (∀ W,RD W b s m (p+2) tv->Calls Tryz.prog 183 #[.pointer (some ⟨b,0,none⟩)] W fun e w'=>e=.returned (.tuple #[.int .i64 (fJ (cH s (p+2)):Int),.bool (decide (0 < (cH s (p+2)).length))])/\RD w' b s m (ivQ s p) tv/\Fr (At b) W w'):=fun W hW=>wH hW hp hs
 have hQ:ivQ s p<=s.size:=uK s (p+2) hp
 have ha:=tY (cH s (p+2))
 clear h
 unfold lW
 by_cases hc:aJ s (ivQ s p) [44]=true
 ·have hQ1:ivQ s p+1<=s.size:=by have:=fB hc (by simp);simpa using this
  have KC:Hid (∀ W,RD W b s m (ivQ s p) tv->Calls Tryz.prog 145 #[.pointer (some ⟨b,0,none⟩),.string ⟨#[44]⟩] W fun e w'=>e=.returned (.bool true)/\RD w' b s m (ivQ s p+1) tv/\Fr (At b) W w'):=fun W hW=>gK hW hQ hs ⟨#[44]⟩ (by simp [ByteArray.size]) hc
  have eB:ivB s p=upV s (ivQ s p+1):=by unfold ivB;rw [if_pos hc];rfl
  have eR:ivR s p=ivQ s p+1+(cH s (ivQ s p+1)).length:=by unfold ivR;rw [if_pos hc]
  have HU:Hid (∀ W,RD W b s m (ivQ s p+1) tv->Calls Tryz.prog 184 #[.pointer (some ⟨b,0,none⟩)] W fun e w'=>e=.returned (.int .i64 (ivB s p))/\RD w' b s m (ivR s p) tv/\Fr (At b) W w'):=fun W hW=>by rw [eB,eR];exact aY8 hW hQ1 hs
  have hR:ivR s p<=s.size:=by rw [eR];exact uK s _ hQ1
  have hB:-1<=ivB s p/\ivB s p<=256:=by
   rw [eB]
   unfold upV
   have:=tY (cH s (ivQ s p+1))
   split <;> omega
  clear eB eR hQ1 hc
  generalize ivB s p=B at *
  generalize ivR s p=R at *
  generalize ivQ s p=Q at *
  generalize fJ (cH s (p+2))=a at *
  generalize (cH s (p+2)).length=K at *
  by_cases hk:K=0
  ·rw [if_pos (.inl hk)]
   have ek:decide (0 < K)=false:=decide_eq_false (by omega)
   rw [ek] at HN
   clear ek
   go_enter Tryz.func165,Tryz.ntmps165
   go_wp2_with first
    |(go_at_call 183;(with_reducible refine(HN.out _ R1.out).mono ?_);rintro e w5 ⟨rfl,h1,h2⟩;have X5:Hid (RD w5 b s m Q tv/\Fr (At b) w w5/\TZ w5 w.heap.size):=⟨h1,(Fr.of_below W1.out).trans h2,(TZ.new w).fr h2 (by intro q;have:w.heap.size=b:=q;omega)⟩;clear h1 h2)
    |(go_at_call 145;(with_reducible refine(KC.out _ X5.out.1).mono ?_);rintro e w6 ⟨rfl,h1,h2⟩;have X6:Hid (RD w6 b s m (Q+1) tv/\Fr (At b) w w6/\TZ w6 w.heap.size):=⟨h1,X5.out.2.1.trans h2,X5.out.2.2.fr h2 (by intro q;have:w.heap.size=b:=q;omega)⟩;clear h1 h2)
    |(go_at_call 184;(with_reducible refine(HU.out _ X6.out.1).mono ?_);rintro e w7 ⟨rfl,h1,h2⟩;have X7:Hid (RD w7 b s m R tv/\Fr (At b) w w7/\TZ w7 w.heap.size):=⟨h1,X6.out.2.1.trans h2,X6.out.2.2.fr h2 (by intro q;have:w.heap.size=b:=q;omega)⟩;clear h1 h2)
    |(go_at_call 65;refine(bX 36 p _).mono ?_;rintro e w11 ⟨rfl,h6,h7⟩;have X11:Hid (bI w11 w7.heap.size 36 p/\Below w7.heap.size w7 w11):=⟨h6,h7⟩;clear h6 h7)
   exact⟨rfl,.err (X7.out.2.1.then X11.out.2) X7.out.2.1.size X11.out.1⟩
  ·have ek:decide (0 < K)=true:=decide_eq_true (by omega)
   rw [ek] at HN
   clear ek
   by_cases he:aJ s R [92,125]=true
   ·rw [if_neg (by rw [he];simp;exact hk)]
    have KE:Hid (∀ W,RD W b s m R tv->Calls Tryz.prog 145 #[.pointer (some ⟨b,0,none⟩),.string ⟨#[92,125]⟩] W fun e w'=>e=.returned (.bool true)/\RD w' b s m (R+2) tv/\Fr (At b) W w'):=fun W hW=>gK hW hR hs ⟨#[92,125]⟩ (by simp [ByteArray.size]) he
    by_cases hbd:255 < a\/255 < B\/(B≠-1/\B < a)
    ·rw [if_pos hbd]
     have hbd':255 < a\/(¬ 255 < a/\255 < B)\/(¬ 255 < a/\¬ 255 < B/\B≠-1/\B < a):=by omega
     clear hbd
     rcases hbd' with u1 | ⟨u1,u2⟩ | ⟨u1,u2,u3,u4⟩
     ·have d1:decide ((255:Int) < (a:Int))=true:=decide_eq_true (by omega)
      clear u1
      go_enter Tryz.func165,Tryz.ntmps165
      go_wp2_with first
       |(go_at_call 183;(with_reducible refine(HN.out _ R1.out).mono ?_);rintro e w5 ⟨rfl,h1,h2⟩;have X5:Hid (RD w5 b s m Q tv/\Fr (At b) w w5/\TZ w5 w.heap.size):=⟨h1,(Fr.of_below W1.out).trans h2,(TZ.new w).fr h2 (by intro q;have:w.heap.size=b:=q;omega)⟩;clear h1 h2)
       |(go_at_call 145;(with_reducible refine(KC.out _ X5.out.1).mono ?_);rintro e w6 ⟨rfl,h1,h2⟩;have X6:Hid (RD w6 b s m (Q+1) tv/\Fr (At b) w w6/\TZ w6 w.heap.size):=⟨h1,X5.out.2.1.trans h2,X5.out.2.2.fr h2 (by intro q;have:w.heap.size=b:=q;omega)⟩;clear h1 h2)
       |(go_at_call 184;(with_reducible refine(HU.out _ X6.out.1).mono ?_);rintro e w7 ⟨rfl,h1,h2⟩;have X7:Hid (RD w7 b s m R tv/\Fr (At b) w w7/\TZ w7 w.heap.size):=⟨h1,X6.out.2.1.trans h2,X6.out.2.2.fr h2 (by intro q;have:w.heap.size=b:=q;omega)⟩;clear h1 h2)
       |(go_at_call 145;(with_reducible refine(KE.out _ X7.out.1).mono ?_);rintro e w8 ⟨rfl,h1,h2⟩;have X8:Hid (RD w8 b s m (R+2) tv/\Fr (At b) w w8/\TZ w8 w.heap.size):=⟨h1,X7.out.2.1.trans h2,X7.out.2.2.fr h2 (by intro q;have:w.heap.size=b:=q;omega)⟩;clear h1 h2)
       |(go_at_call 65;refine(bX 37 p _).mono ?_;rintro e w11 ⟨rfl,h6,h7⟩;have X11:Hid (bI w11 w8.heap.size 37 p/\Below w8.heap.size w8 w11):=⟨h6,h7⟩;clear h6 h7)
      exact⟨rfl,.err (X8.out.2.1.then X11.out.2) X8.out.2.1.size X11.out.1⟩
     ·have d1:decide ((255:Int) < (a:Int))=false:=decide_eq_false (by omega)
      have d2:decide ((255:Int) < B)=true:=decide_eq_true (by omega)
      clear u1 u2
      go_enter Tryz.func165,Tryz.ntmps165
      go_wp2_with first
       |(go_at_call 183;(with_reducible refine(HN.out _ R1.out).mono ?_);rintro e w5 ⟨rfl,h1,h2⟩;have X5:Hid (RD w5 b s m Q tv/\Fr (At b) w w5/\TZ w5 w.heap.size):=⟨h1,(Fr.of_below W1.out).trans h2,(TZ.new w).fr h2 (by intro q;have:w.heap.size=b:=q;omega)⟩;clear h1 h2)
       |(go_at_call 145;(with_reducible refine(KC.out _ X5.out.1).mono ?_);rintro e w6 ⟨rfl,h1,h2⟩;have X6:Hid (RD w6 b s m (Q+1) tv/\Fr (At b) w w6/\TZ w6 w.heap.size):=⟨h1,X5.out.2.1.trans h2,X5.out.2.2.fr h2 (by intro q;have:w.heap.size=b:=q;omega)⟩;clear h1 h2)
       |(go_at_call 184;(with_reducible refine(HU.out _ X6.out.1).mono ?_);rintro e w7 ⟨rfl,h1,h2⟩;have X7:Hid (RD w7 b s m R tv/\Fr (At b) w w7/\TZ w7 w.heap.size):=⟨h1,X6.out.2.1.trans h2,X6.out.2.2.fr h2 (by intro q;have:w.heap.size=b:=q;omega)⟩;clear h1 h2)
       |(go_at_call 145;(with_reducible refine(KE.out _ X7.out.1).mono ?_);rintro e w8 ⟨rfl,h1,h2⟩;have X8:Hid (RD w8 b s m (R+2) tv/\Fr (At b) w w8/\TZ w8 w.heap.size):=⟨h1,X7.out.2.1.trans h2,X7.out.2.2.fr h2 (by intro q;have:w.heap.size=b:=q;omega)⟩;clear h1 h2)
       |(go_at_call 65;refine(bX 37 p _).mono ?_;rintro e w11 ⟨rfl,h6,h7⟩;have X11:Hid (bI w11 w8.heap.size 37 p/\Below w8.heap.size w8 w11):=⟨h6,h7⟩;clear h6 h7)
      exact⟨rfl,.err (X8.out.2.1.then X11.out.2) X8.out.2.1.size X11.out.1⟩
     ·have d1:decide ((255:Int) < (a:Int))=false:=decide_eq_false (by omega)
      have d2:decide ((255:Int) < B)=false:=decide_eq_false (by omega)
      have d3:(B==-1)=false:=by simpa using u3
      have d5:(B != -1)=true:=by simpa using u3
      have d4:decide (B < (a:Int))=true:=decide_eq_true (by omega)
      clear u1 u2 u3 u4
      go_enter Tryz.func165,Tryz.ntmps165
      go_wp2_with first
       |(go_at_call 183;(with_reducible refine(HN.out _ R1.out).mono ?_);rintro e w5 ⟨rfl,h1,h2⟩;have X5:Hid (RD w5 b s m Q tv/\Fr (At b) w w5/\TZ w5 w.heap.size):=⟨h1,(Fr.of_below W1.out).trans h2,(TZ.new w).fr h2 (by intro q;have:w.heap.size=b:=q;omega)⟩;clear h1 h2)
       |(go_at_call 145;(with_reducible refine(KC.out _ X5.out.1).mono ?_);rintro e w6 ⟨rfl,h1,h2⟩;have X6:Hid (RD w6 b s m (Q+1) tv/\Fr (At b) w w6/\TZ w6 w.heap.size):=⟨h1,X5.out.2.1.trans h2,X5.out.2.2.fr h2 (by intro q;have:w.heap.size=b:=q;omega)⟩;clear h1 h2)
       |(go_at_call 184;(with_reducible refine(HU.out _ X6.out.1).mono ?_);rintro e w7 ⟨rfl,h1,h2⟩;have X7:Hid (RD w7 b s m R tv/\Fr (At b) w w7/\TZ w7 w.heap.size):=⟨h1,X6.out.2.1.trans h2,X6.out.2.2.fr h2 (by intro q;have:w.heap.size=b:=q;omega)⟩;clear h1 h2)
       |(go_at_call 145;(with_reducible refine(KE.out _ X7.out.1).mono ?_);rintro e w8 ⟨rfl,h1,h2⟩;have X8:Hid (RD w8 b s m (R+2) tv/\Fr (At b) w w8/\TZ w8 w.heap.size):=⟨h1,X7.out.2.1.trans h2,X7.out.2.2.fr h2 (by intro q;have:w.heap.size=b:=q;omega)⟩;clear h1 h2)
       |(go_at_call 65;refine(bX 37 p _).mono ?_;rintro e w11 ⟨rfl,h6,h7⟩;have X11:Hid (bI w11 w8.heap.size 37 p/\Below w8.heap.size w8 w11):=⟨h6,h7⟩;clear h6 h7)
      exact⟨rfl,.err (X8.out.2.1.then X11.out.2) X8.out.2.1.size X11.out.1⟩
    ·rw [if_neg hbd]
     have hbd':(¬ 255 < a/\¬ 255 < B/\B=-1)\/(¬ 255 < a/\¬ 255 < B/\B≠-1/\¬ B < a):=by omega
     clear hbd
     rcases hbd' with⟨u1,u2,u3⟩ | ⟨u1,u2,u3,u4⟩
     ·have d1:decide ((255:Int) < (a:Int))=false:=decide_eq_false (by omega)
      have d2:decide ((255:Int) < B)=false:=decide_eq_false (by omega)
      have d3:(B==-1)=true:=by simpa using u3
      have d5:(B != -1)=false:=by simpa using u3
      clear u1 u2 u3
      go_enter Tryz.func165,Tryz.ntmps165
      go_wp2_with first
       |(go_at_call 183;(with_reducible refine(HN.out _ R1.out).mono ?_);rintro e w5 ⟨rfl,h1,h2⟩;have X5:Hid (RD w5 b s m Q tv/\Fr (At b) w w5/\TZ w5 w.heap.size):=⟨h1,(Fr.of_below W1.out).trans h2,(TZ.new w).fr h2 (by intro q;have:w.heap.size=b:=q;omega)⟩;clear h1 h2)
       |(go_at_call 145;(with_reducible refine(KC.out _ X5.out.1).mono ?_);rintro e w6 ⟨rfl,h1,h2⟩;have X6:Hid (RD w6 b s m (Q+1) tv/\Fr (At b) w w6/\TZ w6 w.heap.size):=⟨h1,X5.out.2.1.trans h2,X5.out.2.2.fr h2 (by intro q;have:w.heap.size=b:=q;omega)⟩;clear h1 h2)
       |(go_at_call 184;(with_reducible refine(HU.out _ X6.out.1).mono ?_);rintro e w7 ⟨rfl,h1,h2⟩;have X7:Hid (RD w7 b s m R tv/\Fr (At b) w w7/\TZ w7 w.heap.size):=⟨h1,X6.out.2.1.trans h2,X6.out.2.2.fr h2 (by intro q;have:w.heap.size=b:=q;omega)⟩;clear h1 h2)
       |(go_at_call 145;(with_reducible refine(KE.out _ X7.out.1).mono ?_);rintro e w8 ⟨rfl,h1,h2⟩;have X8:Hid (RD w8 b s m (R+2) tv/\Fr (At b) w w8/\TZ w8 w.heap.size):=⟨h1,X7.out.2.1.trans h2,X7.out.2.2.fr h2 (by intro q;have:w.heap.size=b:=q;omega)⟩;clear h1 h2)
       |(go_at_call 108;refine(iR (a:Int) B _).mono ?_;rw [iS];rintro e w9 ⟨rfl,h1⟩;have X9:Hid (RD w9 b s m (R+2) tv/\Fr (At b) w w9/\TZ w9 w.heap.size):=⟨X8.out.1.kept h1,X8.out.2.1.then h1,X8.out.2.2.kept h1 (aA X8.out.2.2)⟩;obtain⟨z0,z1,z2,z3,z4,z5,z6,y0,y1,y2,y3,y4,y5,y6⟩:=X9.out.2.2.all;clear h1)
      refine bodyPost_ret (v:=tkV (dK a B) 0 0 (.slice none 0 0)) (by obtain⟨e0,e1,e2,e3,e4,e5,e6⟩:=aR X9.out.2.2 (.int .i64 2) (.int .i64 0) (.int .i64 0) (.int .i64 0) (.int .i64 a) (.int .i64 B) (.slice none 0 0);simp [results,Tryz.results165,go_sem,tkV,dK,e0,e1,e2,e3,e4,e5,e6]) rfl ?_
      exact .is (fr7 X9.out.2.1 (.inr lz9) _ _ _ _ _ _ _) (RD.fr (S:=fun k=>k=w.heap.size) X9.out.1 (fr7 (S:=fun k=>k=w.heap.size) (Fr.refl _ _) (.inl rfl) _ _ _ _ _ _ _) (by omega)) (bR _ _ rfl)
     ·have d1:decide ((255:Int) < (a:Int))=false:=decide_eq_false (by omega)
      have d2:decide ((255:Int) < B)=false:=decide_eq_false (by omega)
      have d3:(B==-1)=false:=by simpa using u3
      have d5:(B != -1)=true:=by simpa using u3
      have d4:decide (B < (a:Int))=false:=decide_eq_false (by omega)
      clear u1 u2 u3 u4
      go_enter Tryz.func165,Tryz.ntmps165
      go_wp2_with first
       |(go_at_call 183;(with_reducible refine(HN.out _ R1.out).mono ?_);rintro e w5 ⟨rfl,h1,h2⟩;have X5:Hid (RD w5 b s m Q tv/\Fr (At b) w w5/\TZ w5 w.heap.size):=⟨h1,(Fr.of_below W1.out).trans h2,(TZ.new w).fr h2 (by intro q;have:w.heap.size=b:=q;omega)⟩;clear h1 h2)
       |(go_at_call 145;(with_reducible refine(KC.out _ X5.out.1).mono ?_);rintro e w6 ⟨rfl,h1,h2⟩;have X6:Hid (RD w6 b s m (Q+1) tv/\Fr (At b) w w6/\TZ w6 w.heap.size):=⟨h1,X5.out.2.1.trans h2,X5.out.2.2.fr h2 (by intro q;have:w.heap.size=b:=q;omega)⟩;clear h1 h2)
       |(go_at_call 184;(with_reducible refine(HU.out _ X6.out.1).mono ?_);rintro e w7 ⟨rfl,h1,h2⟩;have X7:Hid (RD w7 b s m R tv/\Fr (At b) w w7/\TZ w7 w.heap.size):=⟨h1,X6.out.2.1.trans h2,X6.out.2.2.fr h2 (by intro q;have:w.heap.size=b:=q;omega)⟩;clear h1 h2)
       |(go_at_call 145;(with_reducible refine(KE.out _ X7.out.1).mono ?_);rintro e w8 ⟨rfl,h1,h2⟩;have X8:Hid (RD w8 b s m (R+2) tv/\Fr (At b) w w8/\TZ w8 w.heap.size):=⟨h1,X7.out.2.1.trans h2,X7.out.2.2.fr h2 (by intro q;have:w.heap.size=b:=q;omega)⟩;clear h1 h2)
       |(go_at_call 108;refine(iR (a:Int) B _).mono ?_;rw [iS];rintro e w9 ⟨rfl,h1⟩;have X9:Hid (RD w9 b s m (R+2) tv/\Fr (At b) w w9/\TZ w9 w.heap.size):=⟨X8.out.1.kept h1,X8.out.2.1.then h1,X8.out.2.2.kept h1 (aA X8.out.2.2)⟩;obtain⟨z0,z1,z2,z3,z4,z5,z6,y0,y1,y2,y3,y4,y5,y6⟩:=X9.out.2.2.all;clear h1)
      refine bodyPost_ret (v:=tkV (dK a B) 0 0 (.slice none 0 0)) (by obtain⟨e0,e1,e2,e3,e4,e5,e6⟩:=aR X9.out.2.2 (.int .i64 2) (.int .i64 0) (.int .i64 0) (.int .i64 0) (.int .i64 a) (.int .i64 B) (.slice none 0 0);simp [results,Tryz.results165,go_sem,tkV,dK,e0,e1,e2,e3,e4,e5,e6]) rfl ?_
      exact .is (fr7 X9.out.2.1 (.inr lz9) _ _ _ _ _ _ _) (RD.fr (S:=fun k=>k=w.heap.size) X9.out.1 (fr7 (S:=fun k=>k=w.heap.size) (Fr.refl _ _) (.inl rfl) _ _ _ _ _ _ _) (by omega)) (bR _ _ rfl)
   ·have hef:aJ s R [92,125]=false:=by simpa using he
    rw [if_pos (.inr hef)]
    have KE:Hid (∀ W,RD W b s m R tv->Calls Tryz.prog 145 #[.pointer (some ⟨b,0,none⟩),.string ⟨#[92,125]⟩] W fun e w'=>e=.returned (.bool false)/\Below W.heap.size W w'):=fun W hW=>iL hW hR ⟨#[92,125]⟩ hef
    go_enter Tryz.func165,Tryz.ntmps165
    go_wp2_with first
     |(go_at_call 183;(with_reducible refine(HN.out _ R1.out).mono ?_);rintro e w5 ⟨rfl,h1,h2⟩;have X5:Hid (RD w5 b s m Q tv/\Fr (At b) w w5/\TZ w5 w.heap.size):=⟨h1,(Fr.of_below W1.out).trans h2,(TZ.new w).fr h2 (by intro q;have:w.heap.size=b:=q;omega)⟩;clear h1 h2)
     |(go_at_call 145;(with_reducible refine(KC.out _ X5.out.1).mono ?_);rintro e w6 ⟨rfl,h1,h2⟩;have X6:Hid (RD w6 b s m (Q+1) tv/\Fr (At b) w w6/\TZ w6 w.heap.size):=⟨h1,X5.out.2.1.trans h2,X5.out.2.2.fr h2 (by intro q;have:w.heap.size=b:=q;omega)⟩;clear h1 h2)
     |(go_at_call 184;(with_reducible refine(HU.out _ X6.out.1).mono ?_);rintro e w7 ⟨rfl,h1,h2⟩;have X7:Hid (RD w7 b s m R tv/\Fr (At b) w w7/\TZ w7 w.heap.size):=⟨h1,X6.out.2.1.trans h2,X6.out.2.2.fr h2 (by intro q;have:w.heap.size=b:=q;omega)⟩;clear h1 h2)
     |(go_at_call 145;(with_reducible refine(KE.out _ X7.out.1).mono ?_);rintro e w8 ⟨rfl,h1⟩;have X8:Hid (Fr (At b) w w8):=X7.out.2.1.then h1;clear h1)
     |(go_at_call 65;refine(bX 36 p _).mono ?_;rintro e w11 ⟨rfl,h6,h7⟩;have X11:Hid (bI w11 w8.heap.size 36 p/\Below w8.heap.size w8 w11):=⟨h6,h7⟩;clear h6 h7)
    exact⟨rfl,.err (X8.out.then X11.out.2) X8.out.size X11.out.1⟩
 ·have hcf:aJ s (ivQ s p) [44]=false:=by simpa using hc
  have KC:Hid (∀ W,RD W b s m (ivQ s p) tv->Calls Tryz.prog 145 #[.pointer (some ⟨b,0,none⟩),.string ⟨#[44]⟩] W fun e w'=>e=.returned (.bool false)/\Below W.heap.size W w'):=fun W hW=>iL hW hQ ⟨#[44]⟩ hcf
  have eB:ivB s p=(fJ (cH s (p+2)):Int):=by unfold ivB;rw [if_neg hc]
  have eR:ivR s p=ivQ s p:=by unfold ivR;rw [if_neg hc]
  rw [eB,eR]
  have hR:=hQ
  clear eB eR hc hcf
  generalize ivQ s p=R at *
  generalize fJ (cH s (p+2))=a at *
  generalize (cH s (p+2)).length=K at *
  by_cases hk:K=0
  ·rw [if_pos (.inl hk)]
   have ek:decide (0 < K)=false:=decide_eq_false (by omega)
   rw [ek] at HN
   clear ek
   go_enter Tryz.func165,Tryz.ntmps165
   go_wp2_with first
    |(go_at_call 183;(with_reducible refine(HN.out _ R1.out).mono ?_);rintro e w5 ⟨rfl,h1,h2⟩;have X5:Hid (RD w5 b s m R tv/\Fr (At b) w w5/\TZ w5 w.heap.size):=⟨h1,(Fr.of_below W1.out).trans h2,(TZ.new w).fr h2 (by intro q;have:w.heap.size=b:=q;omega)⟩;clear h1 h2)
    |(go_at_call 145;(with_reducible refine(KC.out _ X5.out.1).mono ?_);rintro e w7 ⟨rfl,h1⟩;have X7:Hid (RD w7 b s m R tv/\Fr (At b) w w7/\TZ w7 w.heap.size):=⟨X5.out.1.kept h1,X5.out.2.1.then h1,X5.out.2.2.kept h1 (aA X5.out.2.2)⟩;clear h1)
    |(go_at_call 65;refine(bX 36 p _).mono ?_;rintro e w11 ⟨rfl,h6,h7⟩;have X11:Hid (bI w11 w7.heap.size 36 p/\Below w7.heap.size w7 w11):=⟨h6,h7⟩;clear h6 h7)
   exact⟨rfl,.err (X7.out.2.1.then X11.out.2) X7.out.2.1.size X11.out.1⟩
  ·have ek:decide (0 < K)=true:=decide_eq_true (by omega)
   rw [ek] at HN
   clear ek
   by_cases he:aJ s R [92,125]=true
   ·rw [if_neg (by rw [he];simp;exact hk)]
    have KE:Hid (∀ W,RD W b s m R tv->Calls Tryz.prog 145 #[.pointer (some ⟨b,0,none⟩),.string ⟨#[92,125]⟩] W fun e w'=>e=.returned (.bool true)/\RD w' b s m (R+2) tv/\Fr (At b) W w'):=fun W hW=>gK hW hR hs ⟨#[92,125]⟩ (by simp [ByteArray.size]) he
    by_cases hbd:255 < a\/255 < (a:Int)\/((a:Int)≠-1/\(a:Int) < (a:Int))
    ·rw [if_pos hbd]
     have d1:decide ((255:Int) < (a:Int))=true:=decide_eq_true (by omega)
     clear hbd
     go_enter Tryz.func165,Tryz.ntmps165
     go_wp2_with first
      |(go_at_call 183;(with_reducible refine(HN.out _ R1.out).mono ?_);rintro e w5 ⟨rfl,h1,h2⟩;have X5:Hid (RD w5 b s m R tv/\Fr (At b) w w5/\TZ w5 w.heap.size):=⟨h1,(Fr.of_below W1.out).trans h2,(TZ.new w).fr h2 (by intro q;have:w.heap.size=b:=q;omega)⟩;clear h1 h2)
      |(go_at_call 145;(with_reducible refine(KC.out _ X5.out.1).mono ?_);rintro e w7 ⟨rfl,h1⟩;have X7:Hid (RD w7 b s m R tv/\Fr (At b) w w7/\TZ w7 w.heap.size):=⟨X5.out.1.kept h1,X5.out.2.1.then h1,X5.out.2.2.kept h1 (aA X5.out.2.2)⟩;clear h1)
      |(go_at_call 145;(with_reducible refine(KE.out _ X7.out.1).mono ?_);rintro e w8 ⟨rfl,h1,h2⟩;have X8:Hid (RD w8 b s m (R+2) tv/\Fr (At b) w w8/\TZ w8 w.heap.size):=⟨h1,X7.out.2.1.trans h2,X7.out.2.2.fr h2 (by intro q;have:w.heap.size=b:=q;omega)⟩;clear h1 h2)
      |(go_at_call 65;refine(bX 37 p _).mono ?_;rintro e w11 ⟨rfl,h6,h7⟩;have X11:Hid (bI w11 w8.heap.size 37 p/\Below w8.heap.size w8 w11):=⟨h6,h7⟩;clear h6 h7)
     exact⟨rfl,.err (X8.out.2.1.then X11.out.2) X8.out.2.1.size X11.out.1⟩
    ·rw [if_neg hbd]
     have d1:decide ((255:Int) < (a:Int))=false:=decide_eq_false (by omega)
     have d3:((a:Int)==-1)=false:=by simp
     have d5:((a:Int) != -1)=true:=by simp
     have d4:decide ((a:Int) < (a:Int))=false:=decide_eq_false (by omega)
     clear hbd
     go_enter Tryz.func165,Tryz.ntmps165
     go_wp2_with first
      |(go_at_call 183;(with_reducible refine(HN.out _ R1.out).mono ?_);rintro e w5 ⟨rfl,h1,h2⟩;have X5:Hid (RD w5 b s m R tv/\Fr (At b) w w5/\TZ w5 w.heap.size):=⟨h1,(Fr.of_below W1.out).trans h2,(TZ.new w).fr h2 (by intro q;have:w.heap.size=b:=q;omega)⟩;clear h1 h2)
      |(go_at_call 145;(with_reducible refine(KC.out _ X5.out.1).mono ?_);rintro e w7 ⟨rfl,h1⟩;have X7:Hid (RD w7 b s m R tv/\Fr (At b) w w7/\TZ w7 w.heap.size):=⟨X5.out.1.kept h1,X5.out.2.1.then h1,X5.out.2.2.kept h1 (aA X5.out.2.2)⟩;clear h1)
      |(go_at_call 145;(with_reducible refine(KE.out _ X7.out.1).mono ?_);rintro e w8 ⟨rfl,h1,h2⟩;have X8:Hid (RD w8 b s m (R+2) tv/\Fr (At b) w w8/\TZ w8 w.heap.size):=⟨h1,X7.out.2.1.trans h2,X7.out.2.2.fr h2 (by intro q;have:w.heap.size=b:=q;omega)⟩;clear h1 h2)
      |(go_at_call 108;refine(iR (a:Int) (a:Int) _).mono ?_;rw [iS];rintro e w9 ⟨rfl,h1⟩;have X9:Hid (RD w9 b s m (R+2) tv/\Fr (At b) w w9/\TZ w9 w.heap.size):=⟨X8.out.1.kept h1,X8.out.2.1.then h1,X8.out.2.2.kept h1 (aA X8.out.2.2)⟩;obtain⟨z0,z1,z2,z3,z4,z5,z6,y0,y1,y2,y3,y4,y5,y6⟩:=X9.out.2.2.all;clear h1)
     refine bodyPost_ret (v:=tkV (dK a a) 0 0 (.slice none 0 0)) (by obtain⟨e0,e1,e2,e3,e4,e5,e6⟩:=aR X9.out.2.2 (.int .i64 2) (.int .i64 0) (.int .i64 0) (.int .i64 0) (.int .i64 a) (.int .i64 a) (.slice none 0 0);simp [results,Tryz.results165,go_sem,tkV,dK,e0,e1,e2,e3,e4,e5,e6]) rfl ?_
     exact .is (fr7 X9.out.2.1 (.inr lz9) _ _ _ _ _ _ _) (RD.fr (S:=fun k=>k=w.heap.size) X9.out.1 (fr7 (S:=fun k=>k=w.heap.size) (Fr.refl _ _) (.inl rfl) _ _ _ _ _ _ _) (by omega)) (bR _ _ rfl)
   ·have hef:aJ s R [92,125]=false:=by simpa using he
    rw [if_pos (.inr hef)]
    have KE:Hid (∀ W,RD W b s m R tv->Calls Tryz.prog 145 #[.pointer (some ⟨b,0,none⟩),.string ⟨#[92,125]⟩] W fun e w'=>e=.returned (.bool false)/\Below W.heap.size W w'):=fun W hW=>iL hW hR ⟨#[92,125]⟩ hef
    go_enter Tryz.func165,Tryz.ntmps165
    go_wp2_with first
     |(go_at_call 183;(with_reducible refine(HN.out _ R1.out).mono ?_);rintro e w5 ⟨rfl,h1,h2⟩;have X5:Hid (RD w5 b s m R tv/\Fr (At b) w w5/\TZ w5 w.heap.size):=⟨h1,(Fr.of_below W1.out).trans h2,(TZ.new w).fr h2 (by intro q;have:w.heap.size=b:=q;omega)⟩;clear h1 h2)
     |(go_at_call 145;(with_reducible refine(KC.out _ X5.out.1).mono ?_);rintro e w7 ⟨rfl,h1⟩;have X7:Hid (RD w7 b s m R tv/\Fr (At b) w w7/\TZ w7 w.heap.size):=⟨X5.out.1.kept h1,X5.out.2.1.then h1,X5.out.2.2.kept h1 (aA X5.out.2.2)⟩;clear h1)
     |(go_at_call 145;(with_reducible refine(KE.out _ X7.out.1).mono ?_);rintro e w8 ⟨rfl,h1⟩;have X8:Hid (Fr (At b) w w8):=X7.out.2.1.then h1;clear h1)
     |(go_at_call 65;refine(bX 36 p _).mono ?_;rintro e w11 ⟨rfl,h6,h7⟩;have X11:Hid (bI w11 w8.heap.size 36 p/\Below w8.heap.size w8 w11):=⟨h6,h7⟩;clear h6 h7)
    exact⟨rfl,.err (X8.out.then X11.out.2) X8.out.size X11.out.1⟩
end
section
attribute [local go_sem] aV
def zK(s:ByteArray)(p last x:Nat):Rs (Tk × Nat):=
 if fM last then .error (38,p) else if x=43 then .ok (dK 1 (-1),p+2) else if x=63 then .ok (dK 0 1,p+2) else lW s p
theorem tP{w:World}{b:Nat}{s:ByteArray}{m:Md}{p last:Nat}{tv:Value}(h:RD w b s m (p+2) tv)(hk:LK w b tv last)(hp:p+2<=s.size)(hs:s.size<=2000)(x:Nat)(hx:x=43\/x=63\/x=123) :
  Calls Tryz.prog 144 #[.pointer (some ⟨b,0,none⟩),.int .i64 (p:Int),.int .u8 (x:Int)] w (Outs w b s m tv (cR w.heap.size) (zK s p last x)):=by
 have lb:=h.lt
 have W1:Hid (Below w.heap.size w (w.alloc cE)):=bz9
 have R1:Hid (RD (w.alloc cE) b s m (p+2) tv):=h.kept W1.out
 have K1:Hid (LK (w.alloc cE) b tv last):=hk.kept W1.out
 have HB:Hid (∀ W,RD W b s m (p+2) tv->LK W b tv last->Calls Tryz.prog 107 #[.pointer (some ⟨b,0,none⟩)] W fun e w'=>e=.returned (.bool (fM last))/\Below W.heap.size W w'):=fun W h1 h2=>uS h1 h2
 clear h hk
 unfold zK
 cases hb:fM last with
 | true=>
  rw [if_pos rfl]
  rw [hb] at HB
  go_enter Tryz.func144,Tryz.ntmps144
  go_wp2_with first
   |(go_at_call 107;(with_reducible refine(HB.out _ R1.out K1.out).mono ?_);rintro e w5 ⟨rfl,h1⟩;have X5:Hid (RD w5 b s m (p+2) tv/\Fr (At b) w w5/\TZ w5 w.heap.size/\w.heap.size < w5.heap.size):=⟨R1.out.kept h1,(Fr.of_below W1.out).then h1,(TZ.new w).kept h1 (by simp),aA ((TZ.new w).kept h1 (by simp))⟩;clear h1)
   |(go_at_call 65;refine(bX 38 p _).mono ?_;rintro e w11 ⟨rfl,h6,h7⟩;have X11:Hid (bI w11 w5.heap.size 38 p/\Below w5.heap.size w5 w11):=⟨h6,h7⟩;clear h6 h7)
  exact⟨rfl,.err (X5.out.2.1.then X11.out.2) X5.out.2.1.size X11.out.1⟩
 | false=>
  rw [if_neg (by simp)]
  rw [hb] at HB
  rcases hx with rfl | rfl | rfl
  ·rw [if_pos rfl]
   obtain⟨qq,hqq⟩:∃ qq,qq=p+2:=⟨_,rfl⟩
   rw [<- hqq]
   rw [<- hqq] at R1 HB
   go_enter Tryz.func144,Tryz.ntmps144
   go_wp2_with first
    |(go_at_call 107;(with_reducible refine(HB.out _ R1.out K1.out).mono ?_);rintro e w5 ⟨rfl,h1⟩;have X5:Hid (RD w5 b s m qq tv/\Fr (At b) w w5/\TZ w5 w.heap.size/\w.heap.size < w5.heap.size):=⟨R1.out.kept h1,(Fr.of_below W1.out).then h1,(TZ.new w).kept h1 (by simp),aA ((TZ.new w).kept h1 (by simp))⟩;clear h1)
    |(go_at_call 108;refine(iR 1 (-1) _).mono ?_;rw [iS];rintro e w8 ⟨rfl,h1⟩;have X8:Hid (RD w8 b s m qq tv/\Fr (At b) w w8/\TZ w8 w.heap.size):=⟨X5.out.1.kept h1,X5.out.2.1.then h1,X5.out.2.2.1.kept h1 (aA X5.out.2.2.1)⟩;obtain⟨z0,z1,z2,z3,z4,z5,z6,y0,y1,y2,y3,y4,y5,y6⟩:=X8.out.2.2.all;clear h1)
   refine bodyPost_ret (v:=tkV (dK 1 (-1)) 0 0 (.slice none 0 0)) (by obtain⟨e0,e1,e2,e3,e4,e5,e6⟩:=aR X8.out.2.2 (.int .i64 2) (.int .i64 0) (.int .i64 0) (.int .i64 0) (.int .i64 1) (.int .i64 (-1)) (.slice none 0 0);simp [results,Tryz.results144,go_sem,tkV,dK,e0,e1,e2,e3,e4,e5,e6]) rfl ?_
   exact .is (fr7 X8.out.2.1 (.inr lz9) _ _ _ _ _ _ _) (RD.fr (S:=fun k=>k=w.heap.size) X8.out.1 (fr7 (S:=fun k=>k=w.heap.size) (Fr.refl _ _) (.inl rfl) _ _ _ _ _ _ _) (by omega)) (bR _ _ rfl)
  ·rw [if_neg (by decide),if_pos rfl]
   obtain⟨qq,hqq⟩:∃ qq,qq=p+2:=⟨_,rfl⟩
   rw [<- hqq]
   rw [<- hqq] at R1 HB
   go_enter Tryz.func144,Tryz.ntmps144
   go_wp2_with first
    |(go_at_call 107;(with_reducible refine(HB.out _ R1.out K1.out).mono ?_);rintro e w5 ⟨rfl,h1⟩;have X5:Hid (RD w5 b s m qq tv/\Fr (At b) w w5/\TZ w5 w.heap.size/\w.heap.size < w5.heap.size):=⟨R1.out.kept h1,(Fr.of_below W1.out).then h1,(TZ.new w).kept h1 (by simp),aA ((TZ.new w).kept h1 (by simp))⟩;clear h1)
    |(go_at_call 108;refine(iR 0 1 _).mono ?_;rw [iS];rintro e w8 ⟨rfl,h1⟩;have X8:Hid (RD w8 b s m qq tv/\Fr (At b) w w8/\TZ w8 w.heap.size):=⟨X5.out.1.kept h1,X5.out.2.1.then h1,X5.out.2.2.1.kept h1 (aA X5.out.2.2.1)⟩;obtain⟨z0,z1,z2,z3,z4,z5,z6,y0,y1,y2,y3,y4,y5,y6⟩:=X8.out.2.2.all;clear h1)
   refine bodyPost_ret (v:=tkV (dK 0 1) 0 0 (.slice none 0 0)) (by obtain⟨e0,e1,e2,e3,e4,e5,e6⟩:=aR X8.out.2.2 (.int .i64 2) (.int .i64 0) (.int .i64 0) (.int .i64 0) (.int .i64 0) (.int .i64 1) (.slice none 0 0);simp [results,Tryz.results144,go_sem,tkV,dK,e0,e1,e2,e3,e4,e5,e6]) rfl ?_
   exact .is (fr7 X8.out.2.1 (.inr lz9) _ _ _ _ _ _ _) (RD.fr (S:=fun k=>k=w.heap.size) X8.out.1 (fr7 (S:=fun k=>k=w.heap.size) (Fr.refl _ _) (.inl rfl) _ _ _ _ _ _ _) (by omega)) (bR _ _ rfl)
  ·rw [if_neg (by decide),if_neg (by decide)]
   cases hr:lW s p with
   | error x=>
    go_enter Tryz.func144,Tryz.ntmps144
    go_wp2_with first
     |(go_at_call 107;(with_reducible refine(HB.out _ R1.out K1.out).mono ?_);rintro e w5 ⟨rfl,h1⟩;have X5:Hid (RD w5 b s m (p+2) tv/\Fr (At b) w w5/\TZ w5 w.heap.size/\w.heap.size < w5.heap.size):=⟨R1.out.kept h1,(Fr.of_below W1.out).then h1,(TZ.new w).kept h1 (by simp),aA ((TZ.new w).kept h1 (by simp))⟩;clear h1)
     |(go_at_call 165;have hih:=qI (p:=p) X5.out.1 hp hs;rw [hr] at hih;(with_reducible refine hih.mono ?_);rintro e w8 ⟨h1,g,h2,rfl,h4⟩)
    exact⟨rfl,.err (X5.out.2.1.trans h1) (Nat.le_trans X5.out.2.1.size h2) h4⟩
   | ok x=>
    obtain⟨tt,qq⟩:=x
    go_enter Tryz.func144,Tryz.ntmps144
    go_wp2_with first
     |(go_at_call 107;(with_reducible refine(HB.out _ R1.out K1.out).mono ?_);rintro e w5 ⟨rfl,h1⟩;have X5:Hid (RD w5 b s m (p+2) tv/\Fr (At b) w w5/\TZ w5 w.heap.size/\w.heap.size < w5.heap.size):=⟨R1.out.kept h1,(Fr.of_below W1.out).then h1,(TZ.new w).kept h1 (by simp),aA ((TZ.new w).kept h1 (by simp))⟩;clear h1)
     |(go_at_call 165;have hih:=qI (p:=p) X5.out.1 hp hs;rw [hr] at hih;(with_reducible refine hih.mono ?_);clear hih;rintro e w8 ⟨h1,v8,rfl,h2,rv,C,hv,h5,h6⟩;obtain⟨q8,k8,hsh⟩:=h5.shape;subst hsh;unfold tkV at hv;subst hv;have X8:Hid (RD w8 b s m qq tv/\Fr (At b) w w8/\TZ w8 w.heap.size/\(∃ base,w.heap.size < base/\RR base w8 (.slice q8 C.length k8) C)/\IsC C tt.q):=⟨h2,X5.out.2.1.trans h1,X5.out.2.2.1.fr h1 (by intro q;have:w.heap.size=b:=q;omega),⟨_,X5.out.2.2.2,h5⟩,h6⟩;obtain⟨z0,z1,z2,z3,z4,z5,z6,y0,y1,y2,y3,y4,y5,y6⟩:=X8.out.2.2.1.all;clear h1 h2 h5 h6)
    obtain⟨bs,hbs,hrr⟩:=X8.out.2.2.2.1
    refine bodyPost_ret (v:=tkV tt 0 0 (.slice q8 C.length k8)) (by obtain⟨e0,e1,e2,e3,e4,e5,e6⟩:=aR X8.out.2.2.1 (.int .i64 (tt.kind:Int)) (.int .i64 0) (.int .i64 0) (.int .i64 (tt.n:Int)) (.int .i64 tt.mn) (.int .i64 tt.mx) (.slice q8 C.length k8);simp [results,Tryz.results144,go_sem,tkV,e0,e1,e2,e3,e4,e5,e6]) rfl ?_
    exact .is (fr7 X8.out.2.1 (.inr lz9) _ _ _ _ _ _ _) (RD.fr (S:=fun k=>k=w.heap.size) X8.out.1 (fr7 (S:=fun k=>k=w.heap.size) (Fr.refl _ _) (.inl rfl) _ _ _ _ _ _ _) (by omega)) ⟨_,C,rfl,RR.mono (rr7 hrr hbs _ _ _ _ _ _ _) (Nat.le_of_lt hbs),X8.out.2.2.2.2⟩
end
end Go.Proofs.YticfnglebbakkaaGreatDoor
