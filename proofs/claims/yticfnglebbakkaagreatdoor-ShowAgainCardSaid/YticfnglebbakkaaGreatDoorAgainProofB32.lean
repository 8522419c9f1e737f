/-
  Parts of the proof.
-/
import Derived.Test.YticfnglebbakkaaGreatDoorAgainProofB31
set_option maxRecDepth 100000
set_option maxHeartbeats 8000000
namespace Go.Proofs.YticfnglebbakkaaGreatDoor
open Go Go.RowKit
attribute [local go_sem] aV
theorem aN{s:ByteArray}{p:Nat}(hp:p < s.size)(c:UInt8):aJ s p [c]=decide (bt s p=c.toNat):=by
 rw [Bool.eq_iff_iff,iN]
 simp [hp]
theorem aM3{s:ByteArray}{p:Nat}(hb:bt s p < 128):Utf8.decode s p=(bt s p,1):=by
 rw [mA]
 unfold Lib.decodeN
 rw [if_pos hb]
theorem aO1(m:Md){s:ByteArray}{p:Nat}(hb:bt s p < 128):un m s p=((bt s p:Int),1):=by
 unfold un ch wd bad
 rw [aM3 hb]
 simp
 intro _
 omega
theorem oC(m:Md){s:ByteArray}{p:Nat}(hb:bt s p < 128):chr m s p=.ok ((bt s p:Int),p+1):=by
 unfold chr
 rw [aO1 m hb]
 rw [if_neg (by simp only;omega)]
theorem aI1{w:World}{b:Nat}{s:ByteArray}{m:Md}{p last:Nat}{tv:Value}(hG:Glb w)(h:RD w b s m p tv)(hk:LK w b tv last)(hb:3 < b)(hp:p < s.size)(hs:s.size<=2000)(hx:bt s p=92) :
  Calls Tryz.prog 66 #[.pointer (some ⟨b,0,none⟩)] w (Outs w b s m tv (cR w.heap.size) (esc m s p last)):=by
 have lb:=h.lt
 have HX:=And.intro hb hs
 clear HX
 have hbz:¬ b=w.heap.size:=by omega
 have hzb:¬ w.heap.size=b:=by omega
 have w1:IntKind.wrap .i64 ((p:Int)+1)=(p:Int)+1:=wrap_small _ (by omega) (by omega)
 have W1:Hid (Below w.heap.size w (w.alloc cE)):=bz9
 have H:Hid (RD w b s m p tv):=h
 have K:Hid (LK w b tv last):=hk
 have GL:Hid (Glb w):=hG
 clear h hk hG
 have e92:aJ s p [92]=true:=by rw [aN hp];simp [hx]
 have S92:Hid (∀ W,Below w.heap.size w W->Calls Tryz.prog 105 #[.pointer (some ⟨b,0,none⟩),.string ⟨#[92]⟩] W fun e w'=>e=.returned (.bool true)/\Below W.heap.size W w'):=fun W hW=>by have:=aT (H.out.kept hW) (Nat.le_of_lt hp) ⟨#[92]⟩;rw [show aJ s p (ByteArray.data ⟨#[92]⟩).toList=true from e92] at this;exact this
 generalize hr:esc m s p last=res
 cases res with
 | error x=>
  go_enter Tryz.func66,Tryz.ntmps66
  go_wp2_with first
   |(go_at_call 105;(with_reducible refine(S92.out _ W1.out).mono ?_);rintro e w20 ⟨rfl,h1⟩;have X20:Hid (Below w.heap.size w w20/\TZ w20 w.heap.size):=⟨aD W1.out h1 lz9,(TZ.new w).kept h1 (aA (TZ.new w))⟩;clear h1;have c3_20:=(H.out.kept X20.out.1).c3)
   |(go_at_call 106;have hih:=xO (last:=last) (H.out.kept X20.out.1) (K.out.kept X20.out.1) hp hs;rw [hr] at hih;(with_reducible refine hih.mono ?_);rintro e w8 ⟨h1,g,h2,rfl,h4⟩)
  exact⟨rfl,.err ((Fr.of_below X20.out.1).trans h1) (Nat.le_trans X20.out.1.size h2) h4⟩
 | ok x=>
  obtain⟨tt,qq⟩:=x
  go_enter Tryz.func66,Tryz.ntmps66
  go_wp2_with first
   |(go_at_call 105;(with_reducible refine(S92.out _ W1.out).mono ?_);rintro e w20 ⟨rfl,h1⟩;have X20:Hid (Below w.heap.size w w20/\TZ w20 w.heap.size):=⟨aD W1.out h1 lz9,(TZ.new w).kept h1 (aA (TZ.new w))⟩;clear h1;have c3_20:=(H.out.kept X20.out.1).c3)
   |(go_at_call 106;have hih:=xO (last:=last) (H.out.kept X20.out.1) (K.out.kept X20.out.1) hp hs;rw [hr] at hih;(with_reducible refine hih.mono ?_);clear hih;rintro e w8 ⟨h1,v8,rfl,h2,rv,C,hv,h5,h6⟩;obtain⟨q8,k8,hsh⟩:=h5.shape;subst hsh;unfold tkV at hv;subst hv;have X8:Hid (RD w8 b s m qq tv/\Fr (At b) w w8/\TZ w8 w.heap.size/\(∃ base,w.heap.size < base/\RR base w8 (.slice q8 C.length k8) C)/\IsC C tt.q):=⟨h2,(Fr.of_below X20.out.1).trans h1,X20.out.2.fr h1 (by intro q;have:w.heap.size=b:=q;omega),⟨_,(aA X20.out.2),h5⟩,h6⟩;obtain⟨z0,z1,z2,z3,z4,z5,z6,y0,y1,y2,y3,y4,y5,y6⟩:=X8.out.2.2.1.all;clear h1 h2 h5 h6)
  obtain⟨bs,hbs,hrr⟩:=X8.out.2.2.2.1
  refine bodyPost_ret (v:=tkV tt 0 0 (.slice q8 C.length k8)) (by obtain⟨e0,e1,e2,e3,e4,e5,e6⟩:=aR X8.out.2.2.1 (.int .i64 (tt.kind:Int)) (.int .i64 0) (.int .i64 0) (.int .i64 (tt.n:Int)) (.int .i64 tt.mn) (.int .i64 tt.mx) (.slice q8 C.length k8);simp [results,Tryz.results66,go_sem,tkV,e0,e1,e2,e3,e4,e5,e6]) rfl ?_
  exact .is (fr7 X8.out.2.1 (.inr lz9) _ _ _ _ _ _ _) (RD.fr (S:=fun k=>k=w.heap.size) X8.out.1 (fr7 (S:=fun k=>k=w.heap.size) (Fr.refl _ _) (.inl rfl) _ _ _ _ _ _ _) (by omega)) ⟨_,C,rfl,RR.mono (rr7 hrr hbs _ _ _ _ _ _ _) (Nat.le_of_lt hbs),X8.out.2.2.2.2⟩
theorem aI5{w:World}{b:Nat}{s:ByteArray}{m:Md}{p last:Nat}{tv:Value}(hG:Glb w)(h:RD w b s m p tv)(hk:LK w b tv last)(hb:3 < b)(hp:p < s.size)(hs:s.size<=2000)(hx:bt s p=91) :
  Calls Tryz.prog 66 #[.pointer (some ⟨b,0,none⟩)] w (Outs w b s m tv (cR w.heap.size) (brk m s p)):=by
 have lb:=h.lt
 have HX:=And.intro hb hs
 clear HX
 have hbz:¬ b=w.heap.size:=by omega
 have hzb:¬ w.heap.size=b:=by omega
 have w1:IntKind.wrap .i64 ((p:Int)+1)=(p:Int)+1:=wrap_small _ (by omega) (by omega)
 have W1:Hid (Below w.heap.size w (w.alloc cE)):=bz9
 have H:Hid (RD w b s m p tv):=h
 have K:Hid (LK w b tv last):=hk
 have GL:Hid (Glb w):=hG
 clear h hk hG
 have e92:aJ s p [92]=false:=by rw [aN hp];simp [hx]
 have S92:Hid (∀ W,Below w.heap.size w W->Calls Tryz.prog 105 #[.pointer (some ⟨b,0,none⟩),.string ⟨#[92]⟩] W fun e w'=>e=.returned (.bool false)/\Below W.heap.size W w'):=fun W hW=>by have:=aT (H.out.kept hW) (Nat.le_of_lt hp) ⟨#[92]⟩;rw [show aJ s p (ByteArray.data ⟨#[92]⟩).toList=false from e92] at this;exact this
 have e42:aJ s p [42]=false:=by rw [aN hp];simp [hx]
 have S42:Hid (∀ W,Below w.heap.size w W->Calls Tryz.prog 105 #[.pointer (some ⟨b,0,none⟩),.string ⟨#[42]⟩] W fun e w'=>e=.returned (.bool false)/\Below W.heap.size W w'):=fun W hW=>by have:=aT (H.out.kept hW) (Nat.le_of_lt hp) ⟨#[42]⟩;rw [show aJ s p (ByteArray.data ⟨#[42]⟩).toList=false from e42] at this;exact this
 have e94:aJ s p [94]=false:=by rw [aN hp];simp [hx]
 have S94:Hid (∀ W,Below w.heap.size w W->Calls Tryz.prog 105 #[.pointer (some ⟨b,0,none⟩),.string ⟨#[94]⟩] W fun e w'=>e=.returned (.bool false)/\Below W.heap.size W w'):=fun W hW=>by have:=aT (H.out.kept hW) (Nat.le_of_lt hp) ⟨#[94]⟩;rw [show aJ s p (ByteArray.data ⟨#[94]⟩).toList=false from e94] at this;exact this
 have e36:aJ s p [36]=false:=by rw [aN hp];simp [hx]
 have S36:Hid (∀ W,Below w.heap.size w W->Calls Tryz.prog 105 #[.pointer (some ⟨b,0,none⟩),.string ⟨#[36]⟩] W fun e w'=>e=.returned (.bool false)/\Below W.heap.size W w'):=fun W hW=>by have:=aT (H.out.kept hW) (Nat.le_of_lt hp) ⟨#[36]⟩;rw [show aJ s p (ByteArray.data ⟨#[36]⟩).toList=false from e36] at this;exact this
 have e46:aJ s p [46]=false:=by rw [aN hp];simp [hx]
 have S46:Hid (∀ W,Below w.heap.size w W->Calls Tryz.prog 105 #[.pointer (some ⟨b,0,none⟩),.string ⟨#[46]⟩] W fun e w'=>e=.returned (.bool false)/\Below W.heap.size W w'):=fun W hW=>by have:=aT (H.out.kept hW) (Nat.le_of_lt hp) ⟨#[46]⟩;rw [show aJ s p (ByteArray.data ⟨#[46]⟩).toList=false from e46] at this;exact this
 have e91:aJ s p [91]=true:=by rw [aN hp];simp [hx]
 have S91:Hid (∀ W,Below w.heap.size w W->Calls Tryz.prog 105 #[.pointer (some ⟨b,0,none⟩),.string ⟨#[91]⟩] W fun e w'=>e=.returned (.bool true)/\Below W.heap.size W w'):=fun W hW=>by have:=aT (H.out.kept hW) (Nat.le_of_lt hp) ⟨#[91]⟩;rw [show aJ s p (ByteArray.data ⟨#[91]⟩).toList=true from e91] at this;exact this
 generalize hr:brk m s p=res
 cases res with
 | error x=>
  go_enter Tryz.func66,Tryz.ntmps66
  go_wp2_with first
   |(go_at_call 105;(with_reducible refine(S92.out _ W1.out).mono ?_);rintro e w20 ⟨rfl,h1⟩;have X20:Hid (Below w.heap.size w w20/\TZ w20 w.heap.size):=⟨aD W1.out h1 lz9,(TZ.new w).kept h1 (aA (TZ.new w))⟩;clear h1;have c3_20:=(H.out.kept X20.out.1).c3)
   |(go_at_call 105;(with_reducible refine(S42.out _ X20.out.1).mono ?_);rintro e w21 ⟨rfl,h1⟩;have X21:Hid (Below w.heap.size w w21/\TZ w21 w.heap.size):=⟨aD X20.out.1 h1 lz9,X20.out.2.kept h1 (aA X20.out.2)⟩;clear h1;have c3_21:=(H.out.kept X21.out.1).c3)
   |(go_at_call 105;(with_reducible refine(S94.out _ X21.out.1).mono ?_);rintro e w22 ⟨rfl,h1⟩;have X22:Hid (Below w.heap.size w w22/\TZ w22 w.heap.size):=⟨aD X21.out.1 h1 lz9,X21.out.2.kept h1 (aA X21.out.2)⟩;clear h1;have c3_22:=(H.out.kept X22.out.1).c3)
   |(go_at_call 105;(with_reducible refine(S36.out _ X22.out.1).mono ?_);rintro e w23 ⟨rfl,h1⟩;have X23:Hid (Below w.heap.size w w23/\TZ w23 w.heap.size):=⟨aD X22.out.1 h1 lz9,X22.out.2.kept h1 (aA X22.out.2)⟩;clear h1;have c3_23:=(H.out.kept X23.out.1).c3)
   |(go_at_call 105;(with_reducible refine(S46.out _ X23.out.1).mono ?_);rintro e w24 ⟨rfl,h1⟩;have X24:Hid (Below w.heap.size w w24/\TZ w24 w.heap.size):=⟨aD X23.out.1 h1 lz9,X23.out.2.kept h1 (aA X23.out.2)⟩;clear h1;have c3_24:=(H.out.kept X24.out.1).c3)
   |(go_at_call 105;(with_reducible refine(S91.out _ X24.out.1).mono ?_);rintro e w25 ⟨rfl,h1⟩;have X25:Hid (Below w.heap.size w w25/\TZ w25 w.heap.size):=⟨aD X24.out.1 h1 lz9,X24.out.2.kept h1 (aA X24.out.2)⟩;clear h1;have c3_25:=(H.out.kept X25.out.1).c3)
   |(go_at_call 112;have hih:=qY (GL.out.kept X25.out.1) (H.out.kept X25.out.1) hb hp hs;rw [hr] at hih;(with_reducible refine hih.mono ?_);rintro e w8 ⟨h1,g,h2,rfl,h4⟩)
  exact⟨rfl,.err ((Fr.of_below X25.out.1).trans h1) (Nat.le_trans X25.out.1.size h2) h4⟩
 | ok x=>
  obtain⟨tt,qq⟩:=x
  go_enter Tryz.func66,Tryz.ntmps66
  go_wp2_with first
   |(go_at_call 105;(with_reducible refine(S92.out _ W1.out).mono ?_);rintro e w20 ⟨rfl,h1⟩;have X20:Hid (Below w.heap.size w w20/\TZ w20 w.heap.size):=⟨aD W1.out h1 lz9,(TZ.new w).kept h1 (aA (TZ.new w))⟩;clear h1;have c3_20:=(H.out.kept X20.out.1).c3)
   |(go_at_call 105;(with_reducible refine(S42.out _ X20.out.1).mono ?_);rintro e w21 ⟨rfl,h1⟩;have X21:Hid (Below w.heap.size w w21/\TZ w21 w.heap.size):=⟨aD X20.out.1 h1 lz9,X20.out.2.kept h1 (aA X20.out.2)⟩;clear h1;have c3_21:=(H.out.kept X21.out.1).c3)
   |(go_at_call 105;(with_reducible refine(S94.out _ X21.out.1).mono ?_);rintro e w22 ⟨rfl,h1⟩;have X22:Hid (Below w.heap.size w w22/\TZ w22 w.heap.size):=⟨aD X21.out.1 h1 lz9,X21.out.2.kept h1 (aA X21.out.2)⟩;clear h1;have c3_22:=(H.out.kept X22.out.1).c3)
   |(go_at_call 105;(with_reducible refine(S36.out _ X22.out.1).mono ?_);rintro e w23 ⟨rfl,h1⟩;have X23:Hid (Below w.heap.size w w23/\TZ w23 w.heap.size):=⟨aD X22.out.1 h1 lz9,X22.out.2.kept h1 (aA X22.out.2)⟩;clear h1;have c3_23:=(H.out.kept X23.out.1).c3)
   |(go_at_call 105;(with_reducible refine(S46.out _ X23.out.1).mono ?_);rintro e w24 ⟨rfl,h1⟩;have X24:Hid (Below w.heap.size w w24/\TZ w24 w.heap.size):=⟨aD X23.out.1 h1 lz9,X23.out.2.kept h1 (aA X23.out.2)⟩;clear h1;have c3_24:=(H.out.kept X24.out.1).c3)
   |(go_at_call 105;(with_reducible refine(S91.out _ X24.out.1).mono ?_);rintro e w25 ⟨rfl,h1⟩;have X25:Hid (Below w.heap.size w w25/\TZ w25 w.heap.size):=⟨aD X24.out.1 h1 lz9,X24.out.2.kept h1 (aA X24.out.2)⟩;clear h1;have c3_25:=(H.out.kept X25.out.1).c3)
   |(go_at_call 112;have hih:=qY (GL.out.kept X25.out.1) (H.out.kept X25.out.1) hb hp hs;rw [hr] at hih;(with_reducible refine hih.mono ?_);clear hih;rintro e w8 ⟨h1,v8,rfl,h2,rv,C,hv,h5,h6⟩;obtain⟨q8,k8,hsh⟩:=h5.shape;subst hsh;unfold tkV at hv;subst hv;have X8:Hid (RD w8 b s m qq tv/\Fr (At b) w w8/\TZ w8 w.heap.size/\(∃ base,w.heap.size < base/\RR base w8 (.slice q8 C.length k8) C)/\IsC C tt.q):=⟨h2,(Fr.of_below X25.out.1).trans h1,X25.out.2.fr h1 (by intro q;have:w.heap.size=b:=q;omega),⟨_,(aA X25.out.2),h5⟩,h6⟩;obtain⟨z0,z1,z2,z3,z4,z5,z6,y0,y1,y2,y3,y4,y5,y6⟩:=X8.out.2.2.1.all;clear h1 h2 h5 h6)
  obtain⟨bs,hbs,hrr⟩:=X8.out.2.2.2.1
  refine bodyPost_ret (v:=tkV tt 0 0 (.slice q8 C.length k8)) (by obtain⟨e0,e1,e2,e3,e4,e5,e6⟩:=aR X8.out.2.2.1 (.int .i64 (tt.kind:Int)) (.int .i64 0) (.int .i64 0) (.int .i64 (tt.n:Int)) (.int .i64 tt.mn) (.int .i64 tt.mx) (.slice q8 C.length k8);simp [results,Tryz.results66,go_sem,tkV,e0,e1,e2,e3,e4,e5,e6]) rfl ?_
  exact .is (fr7 X8.out.2.1 (.inr lz9) _ _ _ _ _ _ _) (RD.fr (S:=fun k=>k=w.heap.size) X8.out.1 (fr7 (S:=fun k=>k=w.heap.size) (Fr.refl _ _) (.inl rfl) _ _ _ _ _ _ _) (by omega)) ⟨_,C,rfl,RR.mono (rr7 hrr hbs _ _ _ _ _ _ _) (Nat.le_of_lt hbs),X8.out.2.2.2.2⟩
theorem yU{w:World}{b:Nat}{s:ByteArray}{m:Md}{p last:Nat}{tv:Value}(hG:Glb w)(h:RD w b s m p tv)(hk:LK w b tv last)(hb:3 < b)(hp:p < s.size)(hs:s.size<=2000)(hx:bt s p=42)(hbeg:fM last=false) :
  Calls Tryz.prog 66 #[.pointer (some ⟨b,0,none⟩)] w (Outs w b s m tv (cR w.heap.size) (.ok (dK 0 (-1),p+1))):=by
 have lb:=h.lt
 have HX:=And.intro hb hs
 clear HX
 have hbz:¬ b=w.heap.size:=by omega
 have hzb:¬ w.heap.size=b:=by omega
 have w1:IntKind.wrap .i64 ((p:Int)+1)=(p:Int)+1:=wrap_small _ (by omega) (by omega)
 have W1:Hid (Below w.heap.size w (w.alloc cE)):=bz9
 have H:Hid (RD w b s m p tv):=h
 have K:Hid (LK w b tv last):=hk
 have GL:Hid (Glb w):=hG
 clear h hk hG
 have e92:aJ s p [92]=false:=by rw [aN hp];simp [hx]
 have S92:Hid (∀ W,Below w.heap.size w W->Calls Tryz.prog 105 #[.pointer (some ⟨b,0,none⟩),.string ⟨#[92]⟩] W fun e w'=>e=.returned (.bool false)/\Below W.heap.size W w'):=fun W hW=>by have:=aT (H.out.kept hW) (Nat.le_of_lt hp) ⟨#[92]⟩;rw [show aJ s p (ByteArray.data ⟨#[92]⟩).toList=false from e92] at this;exact this
 have e42:aJ s p [42]=true:=by rw [aN hp];simp [hx]
 have S42:Hid (∀ W,Below w.heap.size w W->Calls Tryz.prog 105 #[.pointer (some ⟨b,0,none⟩),.string ⟨#[42]⟩] W fun e w'=>e=.returned (.bool true)/\Below W.heap.size W w'):=fun W hW=>by have:=aT (H.out.kept hW) (Nat.le_of_lt hp) ⟨#[42]⟩;rw [show aJ s p (ByteArray.data ⟨#[42]⟩).toList=true from e42] at this;exact this
 have HB:Hid (∀ W,Below w.heap.size w W->Calls Tryz.prog 107 #[.pointer (some ⟨b,0,none⟩)] W fun e w'=>e=.returned (.bool false)/\Below W.heap.size W w'):=fun W hW=>by have:=uS (H.out.kept hW) (K.out.kept hW);rw [hbeg] at this;exact this
 go_enter Tryz.func66,Tryz.ntmps66
 go_wp2_with first
  |(go_at_call 105;(with_reducible refine(S92.out _ W1.out).mono ?_);rintro e w20 ⟨rfl,h1⟩;have X20:Hid (Below w.heap.size w w20/\TZ w20 w.heap.size):=⟨aD W1.out h1 lz9,(TZ.new w).kept h1 (aA (TZ.new w))⟩;clear h1;have c3_20:=(H.out.kept X20.out.1).c3)
  |(go_at_call 105;(with_reducible refine(S42.out _ X20.out.1).mono ?_);rintro e w21 ⟨rfl,h1⟩;have X21:Hid (Below w.heap.size w w21/\TZ w21 w.heap.size):=⟨aD X20.out.1 h1 lz9,X20.out.2.kept h1 (aA X20.out.2)⟩;clear h1;have c3_21:=(H.out.kept X21.out.1).c3)
  |(go_at_call 107;(with_reducible refine(HB.out _ X21.out.1).mono ?_);rintro e w22 ⟨rfl,h1⟩;have X22:Hid (Below w.heap.size w w22/\TZ w22 w.heap.size):=⟨aD X21.out.1 h1 lz9,X21.out.2.kept h1 (aA X21.out.2)⟩;clear h1;have c3_22:=(H.out.kept X22.out.1).c3;have f3_22:=(H.out.kept X22.out.1).frz 3;obtain⟨z0,z1,z2,z3,z4,z5,z6,y0,y1,y2,y3,y4,y5,y6⟩:=X22.out.2.all;have Y:Hid (RD (w22.setCell ⟨b,3,none⟩ (.int .i64 ((p:Int)+1))) b s m (p+1) tv/\Fr (At b) w (w22.setCell ⟨b,3,none⟩ (.int .i64 ((p:Int)+1)))/\TZ (w22.setCell ⟨b,3,none⟩ (.int .i64 ((p:Int)+1))) w.heap.size/\ArgR (w22.setCell ⟨b,3,none⟩ (.int .i64 ((p:Int)+1))) (.slice none 0 0) []/\w.heap.size < (w22.setCell ⟨b,3,none⟩ (.int .i64 ((p:Int)+1))).heap.size):=⟨(H.out.kept X22.out.1).to (p+1) (by omega),Fr.setCell (S:=At b) (Fr.of_below X22.out.1) (p:=⟨b,3,none⟩) rfl _,X22.out.2.fr (Fr.setCell (S:=At b) (Fr.refl _ _) (p:=⟨b,3,none⟩) rfl _) (by intro q;have:w.heap.size=b:=q;omega),.inl ⟨none,0,rfl,rfl,fun _=>rfl⟩,by simpa using aA X22.out.2⟩)
  |(go_at_call 108;refine(iR 0 (-1) _).mono ?_;rw [iS];rintro e w8 ⟨rfl,h1⟩;have X8:Hid (RD w8 b s m (p+1) tv/\Fr (At b) w w8/\TZ w8 w.heap.size):=⟨Y.out.1.kept h1,Y.out.2.1.then h1,Y.out.2.2.1.kept h1 (aA Y.out.2.2.1)⟩;clear z0 z1 z2 z3 z4 z5 z6 y0 y1 y2 y3 y4 y5 y6;obtain⟨z0,z1,z2,z3,z4,z5,z6,y0,y1,y2,y3,y4,y5,y6⟩:=X8.out.2.2.all;clear h1)
 refine bodyPost_ret (v:=tkV (dK 0 (-1)) 0 0 (.slice none 0 0)) (by obtain⟨e0,e1,e2,e3,e4,e5,e6⟩:=aR X8.out.2.2 (.int .i64 2) (.int .i64 0) (.int .i64 0) (.int .i64 0) (.int .i64 0) (.int .i64 (-1)) (.slice none 0 0);simp [results,Tryz.results66,go_sem,tkV,dK,e0,e1,e2,e3,e4,e5,e6]) rfl ?_
 exact .is (fr7 X8.out.2.1 (.inr lz9) _ _ _ _ _ _ _) (RD.fr (S:=fun k=>k=w.heap.size) X8.out.1 (fr7 (S:=fun k=>k=w.heap.size) (Fr.refl _ _) (.inl rfl) _ _ _ _ _ _ _) (by omega)) (bR _ _ rfl)
theorem yX{w:World}{b:Nat}{s:ByteArray}{m:Md}{p last:Nat}{tv:Value}(hG:Glb w)(h:RD w b s m p tv)(hk:LK w b tv last)(hb:3 < b)(hp:p < s.size)(hs:s.size<=2000)(hx:bt s p=94)(hp0:p=0) :
  Calls Tryz.prog 66 #[.pointer (some ⟨b,0,none⟩)] w (Outs w b s m tv (cR w.heap.size) (.ok (kT 7,p+1))):=by
 have lb:=h.lt
 have HX:=And.intro hb hs
 clear HX
 have hbz:¬ b=w.heap.size:=by omega
 have hzb:¬ w.heap.size=b:=by omega
 have w1:IntKind.wrap .i64 ((p:Int)+1)=(p:Int)+1:=wrap_small _ (by omega) (by omega)
 have W1:Hid (Below w.heap.size w (w.alloc cE)):=bz9
 have H:Hid (RD w b s m p tv):=h
 have K:Hid (LK w b tv last):=hk
 have GL:Hid (Glb w):=hG
 clear h hk hG
 have e92:aJ s p [92]=false:=by rw [aN hp];simp [hx]
 have S92:Hid (∀ W,Below w.heap.size w W->Calls Tryz.prog 105 #[.pointer (some ⟨b,0,none⟩),.string ⟨#[92]⟩] W fun e w'=>e=.returned (.bool false)/\Below W.heap.size W w'):=fun W hW=>by have:=aT (H.out.kept hW) (Nat.le_of_lt hp) ⟨#[92]⟩;rw [show aJ s p (ByteArray.data ⟨#[92]⟩).toList=false from e92] at this;exact this
 have e42:aJ s p [42]=false:=by rw [aN hp];simp [hx]
 have S42:Hid (∀ W,Below w.heap.size w W->Calls Tryz.prog 105 #[.pointer (some ⟨b,0,none⟩),.string ⟨#[42]⟩] W fun e w'=>e=.returned (.bool false)/\Below W.heap.size W w'):=fun W hW=>by have:=aT (H.out.kept hW) (Nat.le_of_lt hp) ⟨#[42]⟩;rw [show aJ s p (ByteArray.data ⟨#[42]⟩).toList=false from e42] at this;exact this
 have e94:aJ s p [94]=true:=by rw [aN hp];simp [hx]
 have S94:Hid (∀ W,Below w.heap.size w W->Calls Tryz.prog 105 #[.pointer (some ⟨b,0,none⟩),.string ⟨#[94]⟩] W fun e w'=>e=.returned (.bool true)/\Below W.heap.size W w'):=fun W hW=>by have:=aT (H.out.kept hW) (Nat.le_of_lt hp) ⟨#[94]⟩;rw [show aJ s p (ByteArray.data ⟨#[94]⟩).toList=true from e94] at this;exact this
 have d0:((p:Int)==0)=true:=by simp;omega
 clear hp0
 go_enter Tryz.func66,Tryz.ntmps66
 go_wp2_with first
  |(go_at_call 105;(with_reducible refine(S92.out _ W1.out).mono ?_);rintro e w20 ⟨rfl,h1⟩;have X20:Hid (Below w.heap.size w w20/\TZ w20 w.heap.size):=⟨aD W1.out h1 lz9,(TZ.new w).kept h1 (aA (TZ.new w))⟩;clear h1;have c3_20:=(H.out.kept X20.out.1).c3)
  |(go_at_call 105;(with_reducible refine(S42.out _ X20.out.1).mono ?_);rintro e w21 ⟨rfl,h1⟩;have X21:Hid (Below w.heap.size w w21/\TZ w21 w.heap.size):=⟨aD X20.out.1 h1 lz9,X20.out.2.kept h1 (aA X20.out.2)⟩;clear h1;have c3_21:=(H.out.kept X21.out.1).c3)
  |(go_at_call 105;(with_reducible refine(S94.out _ X21.out.1).mono ?_);rintro e w22 ⟨rfl,h1⟩;have X22:Hid (Below w.heap.size w w22/\TZ w22 w.heap.size):=⟨aD X21.out.1 h1 lz9,X21.out.2.kept h1 (aA X21.out.2)⟩;clear h1;have c3_22:=(H.out.kept X22.out.1).c3;have f3_22:=(H.out.kept X22.out.1).frz 3;obtain⟨z0,z1,z2,z3,z4,z5,z6,y0,y1,y2,y3,y4,y5,y6⟩:=X22.out.2.all;have Y:Hid (RD (w22.setCell ⟨b,3,none⟩ (.int .i64 ((p:Int)+1))) b s m (p+1) tv/\Fr (At b) w (w22.setCell ⟨b,3,none⟩ (.int .i64 ((p:Int)+1)))/\TZ (w22.setCell ⟨b,3,none⟩ (.int .i64 ((p:Int)+1))) w.heap.size/\ArgR (w22.setCell ⟨b,3,none⟩ (.int .i64 ((p:Int)+1))) (.slice none 0 0) []/\w.heap.size < (w22.setCell ⟨b,3,none⟩ (.int .i64 ((p:Int)+1))).heap.size):=⟨(H.out.kept X22.out.1).to (p+1) (by omega),Fr.setCell (S:=At b) (Fr.of_below X22.out.1) (p:=⟨b,3,none⟩) rfl _,X22.out.2.fr (Fr.setCell (S:=At b) (Fr.refl _ _) (p:=⟨b,3,none⟩) rfl _) (by intro q;have:w.heap.size=b:=q;omega),.inl ⟨none,0,rfl,rfl,fun _=>rfl⟩,by simpa using aA X22.out.2⟩)
 refine bodyPost_ret (v:=tkV (kT 7) 0 0 (.slice none 0 0)) (by obtain⟨e0,e1,e2,e3,e4,e5,e6⟩:=aR Y.out.2.2.1 (.int .i64 7) (.int .i64 0) (.int .i64 0) (.int .i64 0) (.int .i64 0) (.int .i64 0) (.slice none 0 0);simp [results,Tryz.results66,go_sem,tkV,kT,e0,e1,e2,e3,e4,e5,e6]) rfl ?_
 exact .is (fr7 Y.out.2.1 (.inr lz9) _ _ _ _ _ _ _) (RD.fr (S:=fun k=>k=w.heap.size) Y.out.1 (fr7 (S:=fun k=>k=w.heap.size) (Fr.refl _ _) (.inl rfl) _ _ _ _ _ _ _) (by omega)) (bR _ _ rfl)
theorem yW{w:World}{b:Nat}{s:ByteArray}{m:Md}{p last:Nat}{tv:Value}(hG:Glb w)(h:RD w b s m p tv)(hk:LK w b tv last)(hb:3 < b)(hp:p < s.size)(hs:s.size<=2000)(hx:bt s p=94)(hp0:¬ p=0)(hl:last=3) :
  Calls Tryz.prog 66 #[.pointer (some ⟨b,0,none⟩)] w (Outs w b s m tv (cR w.heap.size) (.ok (kT 7,p+1))):=by
 have lb:=h.lt
 have HX:=And.intro hb hs
 clear HX
 have hbz:¬ b=w.heap.size:=by omega
 have hzb:¬ w.heap.size=b:=by omega
 have w1:IntKind.wrap .i64 ((p:Int)+1)=(p:Int)+1:=wrap_small _ (by omega) (by omega)
 have W1:Hid (Below w.heap.size w (w.alloc cE)):=bz9
 have H:Hid (RD w b s m p tv):=h
 have K:Hid (LK w b tv last):=hk
 have GL:Hid (Glb w):=hG
 clear h hk hG
 have e92:aJ s p [92]=false:=by rw [aN hp];simp [hx]
 have S92:Hid (∀ W,Below w.heap.size w W->Calls Tryz.prog 105 #[.pointer (some ⟨b,0,none⟩),.string ⟨#[92]⟩] W fun e w'=>e=.returned (.bool false)/\Below W.heap.size W w'):=fun W hW=>by have:=aT (H.out.kept hW) (Nat.le_of_lt hp) ⟨#[92]⟩;rw [show aJ s p (ByteArray.data ⟨#[92]⟩).toList=false from e92] at this;exact this
 have e42:aJ s p [42]=false:=by rw [aN hp];simp [hx]
 have S42:Hid (∀ W,Below w.heap.size w W->Calls Tryz.prog 105 #[.pointer (some ⟨b,0,none⟩),.string ⟨#[42]⟩] W fun e w'=>e=.returned (.bool false)/\Below W.heap.size W w'):=fun W hW=>by have:=aT (H.out.kept hW) (Nat.le_of_lt hp) ⟨#[42]⟩;rw [show aJ s p (ByteArray.data ⟨#[42]⟩).toList=false from e42] at this;exact this
 have e94:aJ s p [94]=true:=by rw [aN hp];simp [hx]
 have S94:Hid (∀ W,Below w.heap.size w W->Calls Tryz.prog 105 #[.pointer (some ⟨b,0,none⟩),.string ⟨#[94]⟩] W fun e w'=>e=.returned (.bool true)/\Below W.heap.size W w'):=fun W hW=>by have:=aT (H.out.kept hW) (Nat.le_of_lt hp) ⟨#[94]⟩;rw [show aJ s p (ByteArray.data ⟨#[94]⟩).toList=true from e94] at this;exact this
 have d0:((p:Int)==0)=false:=by simp;omega
 have B3:Hid (∀ W,Below w.heap.size w W->Calls Tryz.prog 109 #[.pointer (some ⟨b,0,none⟩),.int .i64 3] W fun e w'=>e=.returned (.bool true)/\Below W.heap.size W w'):=fun W hW=>by have:=fZ (H.out.kept hW) (K.out.kept hW) 3 (by omega);rw [show decide ((last:Int)=3)=true from decide_eq_true (by omega)] at this;exact this
 go_enter Tryz.func66,Tryz.ntmps66
 go_wp2_with first
  |(go_at_call 105;(with_reducible refine(S92.out _ W1.out).mono ?_);rintro e w20 ⟨rfl,h1⟩;have X20:Hid (Below w.heap.size w w20/\TZ w20 w.heap.size):=⟨aD W1.out h1 lz9,(TZ.new w).kept h1 (aA (TZ.new w))⟩;clear h1;have c3_20:=(H.out.kept X20.out.1).c3)
  |(go_at_call 105;(with_reducible refine(S42.out _ X20.out.1).mono ?_);rintro e w21 ⟨rfl,h1⟩;have X21:Hid (Below w.heap.size w w21/\TZ w21 w.heap.size):=⟨aD X20.out.1 h1 lz9,X20.out.2.kept h1 (aA X20.out.2)⟩;clear h1;have c3_21:=(H.out.kept X21.out.1).c3)
  |(go_at_call 105;(with_reducible refine(S94.out _ X21.out.1).mono ?_);rintro e w22 ⟨rfl,h1⟩;have X22:Hid (Below w.heap.size w w22/\TZ w22 w.heap.size):=⟨aD X21.out.1 h1 lz9,X21.out.2.kept h1 (aA X21.out.2)⟩;clear h1;have c3_22:=(H.out.kept X22.out.1).c3)
  |(go_at_call 109;(with_reducible refine(B3.out _ X22.out.1).mono ?_);rintro e w23 ⟨rfl,h1⟩;have X23:Hid (Below w.heap.size w w23/\TZ w23 w.heap.size):=⟨aD X22.out.1 h1 lz9,X22.out.2.kept h1 (aA X22.out.2)⟩;clear h1;have c3_23:=(H.out.kept X23.out.1).c3;have f3_23:=(H.out.kept X23.out.1).frz 3;obtain⟨z0,z1,z2,z3,z4,z5,z6,y0,y1,y2,y3,y4,y5,y6⟩:=X23.out.2.all;have Y:Hid (RD (w23.setCell ⟨b,3,none⟩ (.int .i64 ((p:Int)+1))) b s m (p+1) tv/\Fr (At b) w (w23.setCell ⟨b,3,none⟩ (.int .i64 ((p:Int)+1)))/\TZ (w23.setCell ⟨b,3,none⟩ (.int .i64 ((p:Int)+1))) w.heap.size/\ArgR (w23.setCell ⟨b,3,none⟩ (.int .i64 ((p:Int)+1))) (.slice none 0 0) []/\w.heap.size < (w23.setCell ⟨b,3,none⟩ (.int .i64 ((p:Int)+1))).heap.size):=⟨(H.out.kept X23.out.1).to (p+1) (by omega),Fr.setCell (S:=At b) (Fr.of_below X23.out.1) (p:=⟨b,3,none⟩) rfl _,X23.out.2.fr (Fr.setCell (S:=At b) (Fr.refl _ _) (p:=⟨b,3,none⟩) rfl _) (by intro q;have:w.heap.size=b:=q;omega),.inl ⟨none,0,rfl,rfl,fun _=>rfl⟩,by simpa using aA X23.out.2⟩)
 refine bodyPost_ret (v:=tkV (kT 7) 0 0 (.slice none 0 0)) (by obtain⟨e0,e1,e2,e3,e4,e5,e6⟩:=aR Y.out.2.2.1 (.int .i64 7) (.int .i64 0) (.int .i64 0) (.int .i64 0) (.int .i64 0) (.int .i64 0) (.slice none 0 0);simp [results,Tryz.results66,go_sem,tkV,kT,e0,e1,e2,e3,e4,e5,e6]) rfl ?_
 exact .is (fr7 Y.out.2.1 (.inr lz9) _ _ _ _ _ _ _) (RD.fr (S:=fun k=>k=w.heap.size) Y.out.1 (fr7 (S:=fun k=>k=w.heap.size) (Fr.refl _ _) (.inl rfl) _ _ _ _ _ _ _) (by omega)) (bR _ _ rfl)
theorem yV{w:World}{b:Nat}{s:ByteArray}{m:Md}{p last:Nat}{tv:Value}(hG:Glb w)(h:RD w b s m p tv)(hk:LK w b tv last)(hb:3 < b)(hp:p < s.size)(hs:s.size<=2000)(hx:bt s p=94)(hp0:¬ p=0)(hl:last=5) :
  Calls Tryz.prog 66 #[.pointer (some ⟨b,0,none⟩)] w (Outs w b s m tv (cR w.heap.size) (.ok (kT 7,p+1))):=by
 have lb:=h.lt
 have HX:=And.intro hb hs
 clear HX
 have hbz:¬ b=w.heap.size:=by omega
 have hzb:¬ w.heap.size=b:=by omega
 have w1:IntKind.wrap .i64 ((p:Int)+1)=(p:Int)+1:=wrap_small _ (by omega) (by omega)
 have W1:Hid (Below w.heap.size w (w.alloc cE)):=bz9
 have H:Hid (RD w b s m p tv):=h
 have K:Hid (LK w b tv last):=hk
 have GL:Hid (Glb w):=hG
 clear h hk hG
 have e92:aJ s p [92]=false:=by rw [aN hp];simp [hx]
 have S92:Hid (∀ W,Below w.heap.size w W->Calls Tryz.prog 105 #[.pointer (some ⟨b,0,none⟩),.string ⟨#[92]⟩] W fun e w'=>e=.returned (.bool false)/\Below W.heap.size W w'):=fun W hW=>by have:=aT (H.out.kept hW) (Nat.le_of_lt hp) ⟨#[92]⟩;rw [show aJ s p (ByteArray.data ⟨#[92]⟩).toList=false from e92] at this;exact this
 have e42:aJ s p [42]=false:=by rw [aN hp];simp [hx]
 have S42:Hid (∀ W,Below w.heap.size w W->Calls Tryz.prog 105 #[.pointer (some ⟨b,0,none⟩),.string ⟨#[42]⟩] W fun e w'=>e=.returned (.bool false)/\Below W.heap.size W w'):=fun W hW=>by have:=aT (H.out.kept hW) (Nat.le_of_lt hp) ⟨#[42]⟩;rw [show aJ s p (ByteArray.data ⟨#[42]⟩).toList=false from e42] at this;exact this
 have e94:aJ s p [94]=true:=by rw [aN hp];simp [hx]
 have S94:Hid (∀ W,Below w.heap.size w W->Calls Tryz.prog 105 #[.pointer (some ⟨b,0,none⟩),.string ⟨#[94]⟩] W fun e w'=>e=.returned (.bool true)/\Below W.heap.size W w'):=fun W hW=>by have:=aT (H.out.kept hW) (Nat.le_of_lt hp) ⟨#[94]⟩;rw [show aJ s p (ByteArray.data ⟨#[94]⟩).toList=true from e94] at this;exact this
 have d0:((p:Int)==0)=false:=by simp;omega
 have B3:Hid (∀ W,Below w.heap.size w W->Calls Tryz.prog 109 #[.pointer (some ⟨b,0,none⟩),.int .i64 3] W fun e w'=>e=.returned (.bool false)/\Below W.heap.size W w'):=fun W hW=>by have:=fZ (H.out.kept hW) (K.out.kept hW) 3 (by omega);rw [show decide ((last:Int)=3)=false from decide_eq_false (by omega)] at this;exact this
 have B5:Hid (∀ W,Below w.heap.size w W->Calls Tryz.prog 109 #[.pointer (some ⟨b,0,none⟩),.int .i64 5] W fun e w'=>e=.returned (.bool true)/\Below W.heap.size W w'):=fun W hW=>by have:=fZ (H.out.kept hW) (K.out.kept hW) 5 (by omega);rw [show decide ((last:Int)=5)=true from decide_eq_true (by omega)] at this;exact this
 go_enter Tryz.func66,Tryz.ntmps66
 go_wp2_with first
  |(go_at_call 105;(with_reducible refine(S92.out _ W1.out).mono ?_);rintro e w20 ⟨rfl,h1⟩;have X20:Hid (Below w.heap.size w w20/\TZ w20 w.heap.size):=⟨aD W1.out h1 lz9,(TZ.new w).kept h1 (aA (TZ.new w))⟩;clear h1;have c3_20:=(H.out.kept X20.out.1).c3)
  |(go_at_call 105;(with_reducible refine(S42.out _ X20.out.1).mono ?_);rintro e w21 ⟨rfl,h1⟩;have X21:Hid (Below w.heap.size w w21/\TZ w21 w.heap.size):=⟨aD X20.out.1 h1 lz9,X20.out.2.kept h1 (aA X20.out.2)⟩;clear h1;have c3_21:=(H.out.kept X21.out.1).c3)
  |(go_at_call 105;(with_reducible refine(S94.out _ X21.out.1).mono ?_);rintro e w22 ⟨rfl,h1⟩;have X22:Hid (Below w.heap.size w w22/\TZ w22 w.heap.size):=⟨aD X21.out.1 h1 lz9,X21.out.2.kept h1 (aA X21.out.2)⟩;clear h1;have c3_22:=(H.out.kept X22.out.1).c3)
  |(go_at_call 109;(with_reducible refine(B3.out _ X22.out.1).mono ?_);rintro e w23 ⟨rfl,h1⟩;have X23:Hid (Below w.heap.size w w23/\TZ w23 w.heap.size):=⟨aD X22.out.1 h1 lz9,X22.out.2.kept h1 (aA X22.out.2)⟩;clear h1;have c3_23:=(H.out.kept X23.out.1).c3)
  |(go_at_call 109;(with_reducible refine(B5.out _ X23.out.1).mono ?_);rintro e w24 ⟨rfl,h1⟩;have X24:Hid (Below w.heap.size w w24/\TZ w24 w.heap.size):=⟨aD X23.out.1 h1 lz9,X23.out.2.kept h1 (aA X23.out.2)⟩;clear h1;have c3_24:=(H.out.kept X24.out.1).c3;have f3_24:=(H.out.kept X24.out.1).frz 3;obtain⟨z0,z1,z2,z3,z4,z5,z6,y0,y1,y2,y3,y4,y5,y6⟩:=X24.out.2.all;have Y:Hid (RD (w24.setCell ⟨b,3,none⟩ (.int .i64 ((p:Int)+1))) b s m (p+1) tv/\Fr (At b) w (w24.setCell ⟨b,3,none⟩ (.int .i64 ((p:Int)+1)))/\TZ (w24.setCell ⟨b,3,none⟩ (.int .i64 ((p:Int)+1))) w.heap.size/\ArgR (w24.setCell ⟨b,3,none⟩ (.int .i64 ((p:Int)+1))) (.slice none 0 0) []/\w.heap.size < (w24.setCell ⟨b,3,none⟩ (.int .i64 ((p:Int)+1))).heap.size):=⟨(H.out.kept X24.out.1).to (p+1) (by omega),Fr.setCell (S:=At b) (Fr.of_below X24.out.1) (p:=⟨b,3,none⟩) rfl _,X24.out.2.fr (Fr.setCell (S:=At b) (Fr.refl _ _) (p:=⟨b,3,none⟩) rfl _) (by intro q;have:w.heap.size=b:=q;omega),.inl ⟨none,0,rfl,rfl,fun _=>rfl⟩,by simpa using aA X24.out.2⟩)
 refine bodyPost_ret (v:=tkV (kT 7) 0 0 (.slice none 0 0)) (by obtain⟨e0,e1,e2,e3,e4,e5,e6⟩:=aR Y.out.2.2.1 (.int .i64 7) (.int .i64 0) (.int .i64 0) (.int .i64 0) (.int .i64 0) (.int .i64 0) (.slice none 0 0);simp [results,Tryz.results66,go_sem,tkV,kT,e0,e1,e2,e3,e4,e5,e6]) rfl ?_
 exact .is (fr7 Y.out.2.1 (.inr lz9) _ _ _ _ _ _ _) (RD.fr (S:=fun k=>k=w.heap.size) Y.out.1 (fr7 (S:=fun k=>k=w.heap.size) (Fr.refl _ _) (.inl rfl) _ _ _ _ _ _ _) (by omega)) (bR _ _ rfl)
theorem aI2{w:World}{b:Nat}{s:ByteArray}{m:Md}{p last:Nat}{tv:Value}(hG:Glb w)(h:RD w b s m p tv)(hk:LK w b tv last)(hb:3 < b)(hp:p < s.size)(hs:s.size<=2000)(hx:bt s p=36)(hend:lK s p=true) :
  Calls Tryz.prog 66 #[.pointer (some ⟨b,0,none⟩)] w (Outs w b s m tv (cR w.heap.size) (.ok (kT 8,p+1))):=by
 have lb:=h.lt
 have HX:=And.intro hb hs
 clear HX
 have hbz:¬ b=w.heap.size:=by omega
 have hzb:¬ w.heap.size=b:=by omega
 have w1:IntKind.wrap .i64 ((p:Int)+1)=(p:Int)+1:=wrap_small _ (by omega) (by omega)
 have W1:Hid (Below w.heap.size w (w.alloc cE)):=bz9
 have H:Hid (RD w b s m p tv):=h
 have K:Hid (LK w b tv last):=hk
 have GL:Hid (Glb w):=hG
 clear h hk hG
 have e92:aJ s p [92]=false:=by rw [aN hp];simp [hx]
 have S92:Hid (∀ W,Below w.heap.size w W->Calls Tryz.prog 105 #[.pointer (some ⟨b,0,none⟩),.string ⟨#[92]⟩] W fun e w'=>e=.returned (.bool false)/\Below W.heap.size W w'):=fun W hW=>by have:=aT (H.out.kept hW) (Nat.le_of_lt hp) ⟨#[92]⟩;rw [show aJ s p (ByteArray.data ⟨#[92]⟩).toList=false from e92] at this;exact this
 have e42:aJ s p [42]=false:=by rw [aN hp];simp [hx]
 have S42:Hid (∀ W,Below w.heap.size w W->Calls Tryz.prog 105 #[.pointer (some ⟨b,0,none⟩),.string ⟨#[42]⟩] W fun e w'=>e=.returned (.bool false)/\Below W.heap.size W w'):=fun W hW=>by have:=aT (H.out.kept hW) (Nat.le_of_lt hp) ⟨#[42]⟩;rw [show aJ s p (ByteArray.data ⟨#[42]⟩).toList=false from e42] at this;exact this
 have e94:aJ s p [94]=false:=by rw [aN hp];simp [hx]
 have S94:Hid (∀ W,Below w.heap.size w W->Calls Tryz.prog 105 #[.pointer (some ⟨b,0,none⟩),.string ⟨#[94]⟩] W fun e w'=>e=.returned (.bool false)/\Below W.heap.size W w'):=fun W hW=>by have:=aT (H.out.kept hW) (Nat.le_of_lt hp) ⟨#[94]⟩;rw [show aJ s p (ByteArray.data ⟨#[94]⟩).toList=false from e94] at this;exact this
 have e36:aJ s p [36]=true:=by rw [aN hp];simp [hx]
 have S36:Hid (∀ W,Below w.heap.size w W->Calls Tryz.prog 105 #[.pointer (some ⟨b,0,none⟩),.string ⟨#[36]⟩] W fun e w'=>e=.returned (.bool true)/\Below W.heap.size W w'):=fun W hW=>by have:=aT (H.out.kept hW) (Nat.le_of_lt hp) ⟨#[36]⟩;rw [show aJ s p (ByteArray.data ⟨#[36]⟩).toList=true from e36] at this;exact this
 have HE:Hid (∀ W,Below w.heap.size w W->Calls Tryz.prog 110 #[.pointer (some ⟨b,0,none⟩)] W fun e w'=>e=.returned (.bool true)/\Below W.heap.size W w'):=fun W hW=>by have:=aV5 (H.out.kept hW) hp hs;rw [hend] at this;exact this
 go_enter Tryz.func66,Tryz.ntmps66
 go_wp2_with first
  |(go_at_call 105;(with_reducible refine(S92.out _ W1.out).mono ?_);rintro e w20 ⟨rfl,h1⟩;have X20:Hid (Below w.heap.size w w20/\TZ w20 w.heap.size):=⟨aD W1.out h1 lz9,(TZ.new w).kept h1 (aA (TZ.new w))⟩;clear h1;have c3_20:=(H.out.kept X20.out.1).c3)
  |(go_at_call 105;(with_reducible refine(S42.out _ X20.out.1).mono ?_);rintro e w21 ⟨rfl,h1⟩;have X21:Hid (Below w.heap.size w w21/\TZ w21 w.heap.size):=⟨aD X20.out.1 h1 lz9,X20.out.2.kept h1 (aA X20.out.2)⟩;clear h1;have c3_21:=(H.out.kept X21.out.1).c3)
  |(go_at_call 105;(with_reducible refine(S94.out _ X21.out.1).mono ?_);rintro e w22 ⟨rfl,h1⟩;have X22:Hid (Below w.heap.size w w22/\TZ w22 w.heap.size):=⟨aD X21.out.1 h1 lz9,X21.out.2.kept h1 (aA X21.out.2)⟩;clear h1;have c3_22:=(H.out.kept X22.out.1).c3)
  |(go_at_call 105;(with_reducible refine(S36.out _ X22.out.1).mono ?_);rintro e w23 ⟨rfl,h1⟩;have X23:Hid (Below w.heap.size w w23/\TZ w23 w.heap.size):=⟨aD X22.out.1 h1 lz9,X22.out.2.kept h1 (aA X22.out.2)⟩;clear h1;have c3_23:=(H.out.kept X23.out.1).c3)
  |(go_at_call 110;(with_reducible refine(HE.out _ X23.out.1).mono ?_);rintro e w24 ⟨rfl,h1⟩;have X24:Hid (Below w.heap.size w w24/\TZ w24 w.heap.size):=⟨aD X23.out.1 h1 lz9,X23.out.2.kept h1 (aA X23.out.2)⟩;clear h1;have c3_24:=(H.out.kept X24.out.1).c3;have f3_24:=(H.out.kept X24.out.1).frz 3;obtain⟨z0,z1,z2,z3,z4,z5,z6,y0,y1,y2,y3,y4,y5,y6⟩:=X24.out.2.all;have Y:Hid (RD (w24.setCell ⟨b,3,none⟩ (.int .i64 ((p:Int)+1))) b s m (p+1) tv/\Fr (At b) w (w24.setCell ⟨b,3,none⟩ (.int .i64 ((p:Int)+1)))/\TZ (w24.setCell ⟨b,3,none⟩ (.int .i64 ((p:Int)+1))) w.heap.size/\ArgR (w24.setCell ⟨b,3,none⟩ (.int .i64 ((p:Int)+1))) (.slice none 0 0) []/\w.heap.size < (w24.setCell ⟨b,3,none⟩ (.int .i64 ((p:Int)+1))).heap.size):=⟨(H.out.kept X24.out.1).to (p+1) (by omega),Fr.setCell (S:=At b) (Fr.of_below X24.out.1) (p:=⟨b,3,none⟩) rfl _,X24.out.2.fr (Fr.setCell (S:=At b) (Fr.refl _ _) (p:=⟨b,3,none⟩) rfl _) (by intro q;have:w.heap.size=b:=q;omega),.inl ⟨none,0,rfl,rfl,fun _=>rfl⟩,by simpa using aA X24.out.2⟩)
 refine bodyPost_ret (v:=tkV (kT 8) 0 0 (.slice none 0 0)) (by obtain⟨e0,e1,e2,e3,e4,e5,e6⟩:=aR Y.out.2.2.1 (.int .i64 8) (.int .i64 0) (.int .i64 0) (.int .i64 0) (.int .i64 0) (.int .i64 0) (.slice none 0 0);simp [results,Tryz.results66,go_sem,tkV,kT,e0,e1,e2,e3,e4,e5,e6]) rfl ?_
 exact .is (fr7 Y.out.2.1 (.inr lz9) _ _ _ _ _ _ _) (RD.fr (S:=fun k=>k=w.heap.size) Y.out.1 (fr7 (S:=fun k=>k=w.heap.size) (Fr.refl _ _) (.inl rfl) _ _ _ _ _ _ _) (by omega)) (bR _ _ rfl)
theorem aI3{w:World}{b:Nat}{s:ByteArray}{m:Md}{p last:Nat}{tv:Value}(hG:Glb w)(h:RD w b s m p tv)(hk:LK w b tv last)(hb:3 < b)(hp:p < s.size)(hs:s.size<=2000)(hx:bt s p=46) :
  Calls Tryz.prog 66 #[.pointer (some ⟨b,0,none⟩)] w (Outs w b s m tv (cR w.heap.size) (.ok (bJ m [] true,p+1))):=by
 have lb:=h.lt
 have HX:=And.intro hb hs
 clear HX
 have hbz:¬ b=w.heap.size:=by omega
 have hzb:¬ w.heap.size=b:=by omega
 have w1:IntKind.wrap .i64 ((p:Int)+1)=(p:Int)+1:=wrap_small _ (by omega) (by omega)
 have W1:Hid (Below w.heap.size w (w.alloc cE)):=bz9
 have H:Hid (RD w b s m p tv):=h
 have K:Hid (LK w b tv last):=hk
 have GL:Hid (Glb w):=hG
 clear h hk hG
 have e92:aJ s p [92]=false:=by rw [aN hp];simp [hx]
 have S92:Hid (∀ W,Below w.heap.size w W->Calls Tryz.prog 105 #[.pointer (some ⟨b,0,none⟩),.string ⟨#[92]⟩] W fun e w'=>e=.returned (.bool false)/\Below W.heap.size W w'):=fun W hW=>by have:=aT (H.out.kept hW) (Nat.le_of_lt hp) ⟨#[92]⟩;rw [show aJ s p (ByteArray.data ⟨#[92]⟩).toList=false from e92] at this;exact this
 have e42:aJ s p [42]=false:=by rw [aN hp];simp [hx]
 have S42:Hid (∀ W,Below w.heap.size w W->Calls Tryz.prog 105 #[.pointer (some ⟨b,0,none⟩),.string ⟨#[42]⟩] W fun e w'=>e=.returned (.bool false)/\Below W.heap.size W w'):=fun W hW=>by have:=aT (H.out.kept hW) (Nat.le_of_lt hp) ⟨#[42]⟩;rw [show aJ s p (ByteArray.data ⟨#[42]⟩).toList=false from e42] at this;exact this
 have e94:aJ s p [94]=false:=by rw [aN hp];simp [hx]
 have S94:Hid (∀ W,Below w.heap.size w W->Calls Tryz.prog 105 #[.pointer (some ⟨b,0,none⟩),.string ⟨#[94]⟩] W fun e w'=>e=.returned (.bool false)/\Below W.heap.size W w'):=fun W hW=>by have:=aT (H.out.kept hW) (Nat.le_of_lt hp) ⟨#[94]⟩;rw [show aJ s p (ByteArray.data ⟨#[94]⟩).toList=false from e94] at this;exact this
 have e36:aJ s p [36]=false:=by rw [aN hp];simp [hx]
 have S36:Hid (∀ W,Below w.heap.size w W->Calls Tryz.prog 105 #[.pointer (some ⟨b,0,none⟩),.string ⟨#[36]⟩] W fun e w'=>e=.returned (.bool false)/\Below W.heap.size W w'):=fun W hW=>by have:=aT (H.out.kept hW) (Nat.le_of_lt hp) ⟨#[36]⟩;rw [show aJ s p (ByteArray.data ⟨#[36]⟩).toList=false from e36] at this;exact this
 have e46:aJ s p [46]=true:=by rw [aN hp];simp [hx]
 have S46:Hid (∀ W,Below w.heap.size w W->Calls Tryz.prog 105 #[.pointer (some ⟨b,0,none⟩),.string ⟨#[46]⟩] W fun e w'=>e=.returned (.bool true)/\Below W.heap.size W w'):=fun W hW=>by have:=aT (H.out.kept hW) (Nat.le_of_lt hp) ⟨#[46]⟩;rw [show aJ s p (ByteArray.data ⟨#[46]⟩).toList=true from e46] at this;exact this
 go_enter Tryz.func66,Tryz.ntmps66
 go_wp2_with first
  |(go_at_call 105;(with_reducible refine(S92.out _ W1.out).mono ?_);rintro e w20 ⟨rfl,h1⟩;have X20:Hid (Below w.heap.size w w20/\TZ w20 w.heap.size):=⟨aD W1.out h1 lz9,(TZ.new w).kept h1 (aA (TZ.new w))⟩;clear h1;have c3_20:=(H.out.kept X20.out.1).c3)
  |(go_at_call 105;(with_reducible refine(S42.out _ X20.out.1).mono ?_);rintro e w21 ⟨rfl,h1⟩;have X21:Hid (Below w.heap.size w w21/\TZ w21 w.heap.size):=⟨aD X20.out.1 h1 lz9,X20.out.2.kept h1 (aA X20.out.2)⟩;clear h1;have c3_21:=(H.out.kept X21.out.1).c3)
  |(go_at_call 105;(with_reducible refine(S94.out _ X21.out.1).mono ?_);rintro e w22 ⟨rfl,h1⟩;have X22:Hid (Below w.heap.size w w22/\TZ w22 w.heap.size):=⟨aD X21.out.1 h1 lz9,X21.out.2.kept h1 (aA X21.out.2)⟩;clear h1;have c3_22:=(H.out.kept X22.out.1).c3)
  |(go_at_call 105;(with_reducible refine(S36.out _ X22.out.1).mono ?_);rintro e w23 ⟨rfl,h1⟩;have X23:Hid (Below w.heap.size w w23/\TZ w23 w.heap.size):=⟨aD X22.out.1 h1 lz9,X22.out.2.kept h1 (aA X22.out.2)⟩;clear h1;have c3_23:=(H.out.kept X23.out.1).c3)
  |(go_at_call 105;(with_reducible refine(S46.out _ X23.out.1).mono ?_);rintro e w24 ⟨rfl,h1⟩;have X24:Hid (Below w.heap.size w w24/\TZ w24 w.heap.size):=⟨aD X23.out.1 h1 lz9,X23.out.2.kept h1 (aA X23.out.2)⟩;clear h1;have c3_24:=(H.out.kept X24.out.1).c3;have f3_24:=(H.out.kept X24.out.1).frz 3;obtain⟨z0,z1,z2,z3,z4,z5,z6,y0,y1,y2,y3,y4,y5,y6⟩:=X24.out.2.all;have Y:Hid (RD (w24.setCell ⟨b,3,none⟩ (.int .i64 ((p:Int)+1))) b s m (p+1) tv/\Fr (At b) w (w24.setCell ⟨b,3,none⟩ (.int .i64 ((p:Int)+1)))/\TZ (w24.setCell ⟨b,3,none⟩ (.int .i64 ((p:Int)+1))) w.heap.size/\ArgR (w24.setCell ⟨b,3,none⟩ (.int .i64 ((p:Int)+1))) (.slice none 0 0) []/\w.heap.size < (w24.setCell ⟨b,3,none⟩ (.int .i64 ((p:Int)+1))).heap.size):=⟨(H.out.kept X24.out.1).to (p+1) (by omega),Fr.setCell (S:=At b) (Fr.of_below X24.out.1) (p:=⟨b,3,none⟩) rfl _,X24.out.2.fr (Fr.setCell (S:=At b) (Fr.refl _ _) (p:=⟨b,3,none⟩) rfl _) (by intro q;have:w.heap.size=b:=q;omega),.inl ⟨none,0,rfl,rfl,fun _=>rfl⟩,by simpa using aA X24.out.2⟩)
  |(go_at_call 111;refine(iA Y.out.1 Y.out.2.2.2.1 (eK) (by simp) true).mono ?_;rintro e w8 ⟨v8,he,⟨rv,C,hv,h5,h6⟩,h4⟩;clear z0 z1 z2 z3 z4 z5 z6 y0 y1 y2 y3 y4 y5 y6;obtain⟨q8,k8,hsh⟩:=h5.shape;rw [dJ] at hv;subst hsh;subst hv;subst he;have X8:Hid (RD w8 b s m (p+1) tv/\Fr (At b) w w8/\TZ w8 w.heap.size/\(∃ base,w.heap.size < base/\RR base w8 (.slice q8 C.length k8) C)/\IsC C (eN m [] true)):=⟨Y.out.1.kept h4,Y.out.2.1.then h4,Y.out.2.2.1.kept h4 (aA Y.out.2.2.1),⟨_,Y.out.2.2.2.2,h5⟩,h6⟩;obtain⟨z0,z1,z2,z3,z4,z5,z6,y0,y1,y2,y3,y4,y5,y6⟩:=X8.out.2.2.1.all;clear h4 h5 h6)
 obtain⟨bs,hbs,hrr⟩:=X8.out.2.2.2.1
 refine bodyPost_ret (v:=tkV (bJ m [] true) 0 0 (.slice q8 C.length k8)) (by obtain⟨e0,e1,e2,e3,e4,e5,e6⟩:=aR X8.out.2.2.1 (.int .i64 1) (.int .i64 0) (.int .i64 0) (.int .i64 0) (.int .i64 0) (.int .i64 0) (.slice q8 C.length k8);simp [results,Tryz.results66,go_sem,tkV,bJ,e0,e1,e2,e3,e4,e5,e6]) rfl ?_
 exact .is (fr7 X8.out.2.1 (.inr lz9) _ _ _ _ _ _ _) (RD.fr (S:=fun k=>k=w.heap.size) X8.out.1 (fr7 (S:=fun k=>k=w.heap.size) (Fr.refl _ _) (.inl rfl) _ _ _ _ _ _ _) (by omega)) ⟨_,C,rfl,RR.mono (rr7 hrr hbs _ _ _ _ _ _ _) (Nat.le_of_lt hbs),X8.out.2.2.2.2⟩
end Go.Proofs.YticfnglebbakkaaGreatDoor
