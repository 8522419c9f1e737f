/-
  Parts of the proof.
-/
import Derived.Test.YticfnglebbakkaaGreatDoorAgainProofB32
set_option maxRecDepth 100000
set_option maxHeartbeats 8000000
namespace Go.Proofs.YticfnglebbakkaaGreatDoor
open Go Go.RowKit
attribute [local go_sem] aV
def xZ(m:Md)(r:Rs (Int × Nat)):Rs (Tk × Nat):=match r with
 | .error e=>.error e
 | .ok (c,q)=>.ok (bJ m [(c,c)] false,q)
theorem vF{w:World}{b:Nat}{s:ByteArray}{m:Md}{p last:Nat}{tv:Value}(hG:Glb w)(h:RD w b s m p tv)(hk:LK w b tv last)(hb:3 < b)(hp:p < s.size)(hs:s.size<=2000)(hx:bt s p=42)(hbeg:fM last=true) :
  Calls Tryz.prog 66 #[.pointer (some ⟨b,0,none⟩)] w (Outs w b s m tv (cR w.heap.size) (xZ m (chr m s p))):=by
 have lb:=h.lt
 have HX:=And.intro hb hs
 clear HX
 have hbz:¬ b=w.heap.size:=by omega
 have hzb:¬ w.heap.size=b:=by omega
 have w1:IntKind.wrap .i64 ((p:Int)+1)=(p:Int)+1:=wrap_small _ (by omega) (by omega)
 have W1:Hid (Below w.heap.size w (w.alloc cE)):=bz9
 have H:Hid (RD w b s m p tv):=h
 have K:Hid (LK w b tv last):=hk
 have GL:Hid (Glb w):=hG
 clear h hk hG
 have e92:aJ s p [92]=false:=by rw [aN hp];simp [hx]
 have S92:Hid (∀ W,Below w.heap.size w W->Calls Tryz.prog 105 #[.pointer (some ⟨b,0,none⟩),.string ⟨#[92]⟩] W fun e w'=>e=.returned (.bool false)/\Below W.heap.size W w'):=fun W hW=>by have:=aT (H.out.kept hW) (Nat.le_of_lt hp) ⟨#[92]⟩;rw [show aJ s p (ByteArray.data ⟨#[92]⟩).toList=false from e92] at this;exact this
 have e42:aJ s p [42]=true:=by rw [aN hp];simp [hx]
 have S42:Hid (∀ W,Below w.heap.size w W->Calls Tryz.prog 105 #[.pointer (some ⟨b,0,none⟩),.string ⟨#[42]⟩] W fun e w'=>e=.returned (.bool true)/\Below W.heap.size W w'):=fun W hW=>by have:=aT (H.out.kept hW) (Nat.le_of_lt hp) ⟨#[42]⟩;rw [show aJ s p (ByteArray.data ⟨#[42]⟩).toList=true from e42] at this;exact this
 have HB:Hid (∀ W,Below w.heap.size w W->Calls Tryz.prog 107 #[.pointer (some ⟨b,0,none⟩)] W fun e w'=>e=.returned (.bool true)/\Below W.heap.size W w'):=fun W hW=>by have:=uS (H.out.kept hW) (K.out.kept hW);rw [hbeg] at this;exact this
 have e94:aJ s p [94]=false:=by rw [aN hp];simp [hx]
 have S94:Hid (∀ W,Below w.heap.size w W->Calls Tryz.prog 105 #[.pointer (some ⟨b,0,none⟩),.string ⟨#[94]⟩] W fun e w'=>e=.returned (.bool false)/\Below W.heap.size W w'):=fun W hW=>by have:=aT (H.out.kept hW) (Nat.le_of_lt hp) ⟨#[94]⟩;rw [show aJ s p (ByteArray.data ⟨#[94]⟩).toList=false from e94] at this;exact this
 have e36:aJ s p [36]=false:=by rw [aN hp];simp [hx]
 have S36:Hid (∀ W,Below w.heap.size w W->Calls Tryz.prog 105 #[.pointer (some ⟨b,0,none⟩),.string ⟨#[36]⟩] W fun e w'=>e=.returned (.bool false)/\Below W.heap.size W w'):=fun W hW=>by have:=aT (H.out.kept hW) (Nat.le_of_lt hp) ⟨#[36]⟩;rw [show aJ s p (ByteArray.data ⟨#[36]⟩).toList=false from e36] at this;exact this
 have e46:aJ s p [46]=false:=by rw [aN hp];simp [hx]
 have S46:Hid (∀ W,Below w.heap.size w W->Calls Tryz.prog 105 #[.pointer (some ⟨b,0,none⟩),.string ⟨#[46]⟩] W fun e w'=>e=.returned (.bool false)/\Below W.heap.size W w'):=fun W hW=>by have:=aT (H.out.kept hW) (Nat.le_of_lt hp) ⟨#[46]⟩;rw [show aJ s p (ByteArray.data ⟨#[46]⟩).toList=false from e46] at this;exact this
 have e91:aJ s p [91]=false:=by rw [aN hp];simp [hx]
 have S91:Hid (∀ W,Below w.heap.size w W->Calls Tryz.prog 105 #[.pointer (some ⟨b,0,none⟩),.string ⟨#[91]⟩] W fun e w'=>e=.returned (.bool false)/\Below W.heap.size W w'):=fun W hW=>by have:=aT (H.out.kept hW) (Nat.le_of_lt hp) ⟨#[91]⟩;rw [show aJ s p (ByteArray.data ⟨#[91]⟩).toList=false from e91] at this;exact this
 cases hr:chr m s p with
 | error x=>
  rw [oC m (by omega)] at hr;cases hr
 | ok x=>
  obtain⟨c,qq⟩:=x
  have hfit:=qU hr
  change Calls Tryz.prog 66 #[.pointer (some ⟨b,0,none⟩)] w (Outs w b s m tv (cR w.heap.size) (.ok (bJ m [(c,c)] false,qq)))
  go_enter Tryz.func66,Tryz.ntmps66
  go_wp2_with first
   |(go_at_call 105;(with_reducible refine(S92.out _ W1.out).mono ?_);rintro e w20 ⟨rfl,h1⟩;have X20:Hid (Below w.heap.size w w20/\TZ w20 w.heap.size):=⟨aD W1.out h1 lz9,(TZ.new w).kept h1 (aA (TZ.new w))⟩;clear h1;have c3_20:=(H.out.kept X20.out.1).c3)
   |(go_at_call 105;(with_reducible refine(S42.out _ X20.out.1).mono ?_);rintro e w21 ⟨rfl,h1⟩;have X21:Hid (Below w.heap.size w w21/\TZ w21 w.heap.size):=⟨aD X20.out.1 h1 lz9,X20.out.2.kept h1 (aA X20.out.2)⟩;clear h1;have c3_21:=(H.out.kept X21.out.1).c3)
   |(go_at_call 107;(with_reducible refine(HB.out _ X21.out.1).mono ?_);rintro e w22 ⟨rfl,h1⟩;have X22:Hid (Below w.heap.size w w22/\TZ w22 w.heap.size):=⟨aD X21.out.1 h1 lz9,X21.out.2.kept h1 (aA X21.out.2)⟩;clear h1;have c3_22:=(H.out.kept X22.out.1).c3)
   |(go_at_call 105;(with_reducible refine(S94.out _ X22.out.1).mono ?_);rintro e w23 ⟨rfl,h1⟩;have X23:Hid (Below w.heap.size w w23/\TZ w23 w.heap.size):=⟨aD X22.out.1 h1 lz9,X22.out.2.kept h1 (aA X22.out.2)⟩;clear h1;have c3_23:=(H.out.kept X23.out.1).c3)
   |(go_at_call 105;(with_reducible refine(S36.out _ X23.out.1).mono ?_);rintro e w24 ⟨rfl,h1⟩;have X24:Hid (Below w.heap.size w w24/\TZ w24 w.heap.size):=⟨aD X23.out.1 h1 lz9,X23.out.2.kept h1 (aA X23.out.2)⟩;clear h1;have c3_24:=(H.out.kept X24.out.1).c3)
   |(go_at_call 105;(with_reducible refine(S46.out _ X24.out.1).mono ?_);rintro e w25 ⟨rfl,h1⟩;have X25:Hid (Below w.heap.size w w25/\TZ w25 w.heap.size):=⟨aD X24.out.1 h1 lz9,X24.out.2.kept h1 (aA X24.out.2)⟩;clear h1;have c3_25:=(H.out.kept X25.out.1).c3)
   |(go_at_call 105;(with_reducible refine(S91.out _ X25.out.1).mono ?_);rintro e w26 ⟨rfl,h1⟩;have X26:Hid (Below w.heap.size w w26/\TZ w26 w.heap.size):=⟨aD X25.out.1 h1 lz9,X25.out.2.kept h1 (aA X25.out.2)⟩;clear h1;have c3_26:=(H.out.kept X26.out.1).c3)
   |(go_at_call 114;have hih:=dO (GL.out.kept X26.out.1) (H.out.kept X26.out.1) hp hs;rw [hr] at hih;(with_reducible refine hih.mono ?_);clear hih;rintro e w9 ⟨h1,v9,rfl,h2,rfl⟩;have X9:Hid (RD w9 b s m qq tv/\Fr (At b) w w9/\TZ w9 w.heap.size):=⟨h2,(Fr.of_below X26.out.1).trans h1,X26.out.2.fr h1 (by intro q;have:w.heap.size=b:=q;omega)⟩;clear h1 h2)
   |(go_at_call 113;refine(eT c _).mono ?_;rintro e w6 ⟨v6,rfl,h6,h7⟩;obtain⟨q6,k6,rfl⟩:=h6.shape;have X6:Hid (RD w6 b s m qq tv/\Fr (At b) w w6/\TZ w6 w.heap.size/\ArgR w6 (.slice q6 1 k6) [(c,c)]/\w.heap.size < w6.heap.size):=⟨X9.out.1.kept h7,X9.out.2.1.then h7,X9.out.2.2.kept h7 (aA X9.out.2.2),h6.arg,aA (X9.out.2.2.kept h7 (aA X9.out.2.2))⟩;clear h6 h7)
   |(go_at_call 111;refine(iA X6.out.1 X6.out.2.2.2.1 (cS hfit hfit) (by simp) false).mono ?_;rintro e w8 ⟨v8,he,⟨rv,C,hv,h5,h6⟩,h4⟩;obtain⟨q8,k8,hsh⟩:=h5.shape;rw [dJ] at hv;subst hsh;subst hv;subst he;have X8:Hid (RD w8 b s m qq tv/\Fr (At b) w w8/\TZ w8 w.heap.size/\(∃ base,w.heap.size < base/\RR base w8 (.slice q8 C.length k8) C)/\IsC C (eN m [(c,c)] false)):=⟨X6.out.1.kept h4,X6.out.2.1.then h4,X6.out.2.2.1.kept h4 (aA X6.out.2.2.1),⟨_,X6.out.2.2.2.2,h5⟩,h6⟩;obtain⟨z0,z1,z2,z3,z4,z5,z6,y0,y1,y2,y3,y4,y5,y6⟩:=X8.out.2.2.1.all;clear h4 h5 h6)
  obtain⟨bs,hbs,hrr⟩:=X8.out.2.2.2.1
  refine bodyPost_ret (v:=tkV (bJ m [(c,c)] false) 0 0 (.slice q8 C.length k8)) (by obtain⟨e0,e1,e2,e3,e4,e5,e6⟩:=aR X8.out.2.2.1 (.int .i64 1) (.int .i64 0) (.int .i64 0) (.int .i64 0) (.int .i64 0) (.int .i64 0) (.slice q8 C.length k8);simp [results,Tryz.results66,go_sem,tkV,bJ,e0,e1,e2,e3,e4,e5,e6]) rfl ?_
  exact .is (fr7 X8.out.2.1 (.inr lz9) _ _ _ _ _ _ _) (RD.fr (S:=fun k=>k=w.heap.size) X8.out.1 (fr7 (S:=fun k=>k=w.heap.size) (Fr.refl _ _) (.inl rfl) _ _ _ _ _ _ _) (by omega)) ⟨_,C,rfl,RR.mono (rr7 hrr hbs _ _ _ _ _ _ _) (Nat.le_of_lt hbs),X8.out.2.2.2.2⟩
theorem vE{w:World}{b:Nat}{s:ByteArray}{m:Md}{p last:Nat}{tv:Value}(hG:Glb w)(h:RD w b s m p tv)(hk:LK w b tv last)(hb:3 < b)(hp:p < s.size)(hs:s.size<=2000)(hx:bt s p=94)(hp0:¬ p=0)(hl3:¬ last=3)(hl5:¬ last=5) :
  Calls Tryz.prog 66 #[.pointer (some ⟨b,0,none⟩)] w (Outs w b s m tv (cR w.heap.size) (xZ m (chr m s p))):=by
 have lb:=h.lt
 have HX:=And.intro hb hs
 clear HX
 have hbz:¬ b=w.heap.size:=by omega
 have hzb:¬ w.heap.size=b:=by omega
 have w1:IntKind.wrap .i64 ((p:Int)+1)=(p:Int)+1:=wrap_small _ (by omega) (by omega)
 have W1:Hid (Below w.heap.size w (w.alloc cE)):=bz9
 have H:Hid (RD w b s m p tv):=h
 have K:Hid (LK w b tv last):=hk
 have GL:Hid (Glb w):=hG
 clear h hk hG
 have e92:aJ s p [92]=false:=by rw [aN hp];simp [hx]
 have S92:Hid (∀ W,Below w.heap.size w W->Calls Tryz.prog 105 #[.pointer (some ⟨b,0,none⟩),.string ⟨#[92]⟩] W fun e w'=>e=.returned (.bool false)/\Below W.heap.size W w'):=fun W hW=>by have:=aT (H.out.kept hW) (Nat.le_of_lt hp) ⟨#[92]⟩;rw [show aJ s p (ByteArray.data ⟨#[92]⟩).toList=false from e92] at this;exact this
 have e42:aJ s p [42]=false:=by rw [aN hp];simp [hx]
 have S42:Hid (∀ W,Below w.heap.size w W->Calls Tryz.prog 105 #[.pointer (some ⟨b,0,none⟩),.string ⟨#[42]⟩] W fun e w'=>e=.returned (.bool false)/\Below W.heap.size W w'):=fun W hW=>by have:=aT (H.out.kept hW) (Nat.le_of_lt hp) ⟨#[42]⟩;rw [show aJ s p (ByteArray.data ⟨#[42]⟩).toList=false from e42] at this;exact this
 have e94:aJ s p [94]=true:=by rw [aN hp];simp [hx]
 have S94:Hid (∀ W,Below w.heap.size w W->Calls Tryz.prog 105 #[.pointer (some ⟨b,0,none⟩),.string ⟨#[94]⟩] W fun e w'=>e=.returned (.bool true)/\Below W.heap.size W w'):=fun W hW=>by have:=aT (H.out.kept hW) (Nat.le_of_lt hp) ⟨#[94]⟩;rw [show aJ s p (ByteArray.data ⟨#[94]⟩).toList=true from e94] at this;exact this
 have d0:((p:Int)==0)=false:=by simp;omega
 have B3:Hid (∀ W,Below w.heap.size w W->Calls Tryz.prog 109 #[.pointer (some ⟨b,0,none⟩),.int .i64 3] W fun e w'=>e=.returned (.bool false)/\Below W.heap.size W w'):=fun W hW=>by have:=fZ (H.out.kept hW) (K.out.kept hW) 3 (by omega);rw [show decide ((last:Int)=3)=false from decide_eq_false (by omega)] at this;exact this
 have B5:Hid (∀ W,Below w.heap.size w W->Calls Tryz.prog 109 #[.pointer (some ⟨b,0,none⟩),.int .i64 5] W fun e w'=>e=.returned (.bool false)/\Below W.heap.size W w'):=fun W hW=>by have:=fZ (H.out.kept hW) (K.out.kept hW) 5 (by omega);rw [show decide ((last:Int)=5)=false from decide_eq_false (by omega)] at this;exact this
 have e36:aJ s p [36]=false:=by rw [aN hp];simp [hx]
 have S36:Hid (∀ W,Below w.heap.size w W->Calls Tryz.prog 105 #[.pointer (some ⟨b,0,none⟩),.string ⟨#[36]⟩] W fun e w'=>e=.returned (.bool false)/\Below W.heap.size W w'):=fun W hW=>by have:=aT (H.out.kept hW) (Nat.le_of_lt hp) ⟨#[36]⟩;rw [show aJ s p (ByteArray.data ⟨#[36]⟩).toList=false from e36] at this;exact this
 have e46:aJ s p [46]=false:=by rw [aN hp];simp [hx]
 have S46:Hid (∀ W,Below w.heap.size w W->Calls Tryz.prog 105 #[.pointer (some ⟨b,0,none⟩),.string ⟨#[46]⟩] W fun e w'=>e=.returned (.bool false)/\Below W.heap.size W w'):=fun W hW=>by have:=aT (H.out.kept hW) (Nat.le_of_lt hp) ⟨#[46]⟩;rw [show aJ s p (ByteArray.data ⟨#[46]⟩).toList=false from e46] at this;exact this
 have e91:aJ s p [91]=false:=by rw [aN hp];simp [hx]
 have S91:Hid (∀ W,Below w.heap.size w W->Calls Tryz.prog 105 #[.pointer (some ⟨b,0,none⟩),.string ⟨#[91]⟩] W fun e w'=>e=.returned (.bool false)/\Below W.heap.size W w'):=fun W hW=>by have:=aT (H.out.kept hW) (Nat.le_of_lt hp) ⟨#[91]⟩;rw [show aJ s p (ByteArray.data ⟨#[91]⟩).toList=false from e91] at this;exact this
 cases hr:chr m s p with
 | error x=>
  rw [oC m (by omega)] at hr;cases hr
 | ok x=>
  obtain⟨c,qq⟩:=x
  have hfit:=qU hr
  change Calls Tryz.prog 66 #[.pointer (some ⟨b,0,none⟩)] w (Outs w b s m tv (cR w.heap.size) (.ok (bJ m [(c,c)] false,qq)))
  go_enter Tryz.func66,Tryz.ntmps66
  go_wp2_with first
   |(go_at_call 105;(with_reducible refine(S92.out _ W1.out).mono ?_);rintro e w20 ⟨rfl,h1⟩;have X20:Hid (Below w.heap.size w w20/\TZ w20 w.heap.size):=⟨aD W1.out h1 lz9,(TZ.new w).kept h1 (aA (TZ.new w))⟩;clear h1;have c3_20:=(H.out.kept X20.out.1).c3)
   |(go_at_call 105;(with_reducible refine(S42.out _ X20.out.1).mono ?_);rintro e w21 ⟨rfl,h1⟩;have X21:Hid (Below w.heap.size w w21/\TZ w21 w.heap.size):=⟨aD X20.out.1 h1 lz9,X20.out.2.kept h1 (aA X20.out.2)⟩;clear h1;have c3_21:=(H.out.kept X21.out.1).c3)
   |(go_at_call 105;(with_reducible refine(S94.out _ X21.out.1).mono ?_);rintro e w22 ⟨rfl,h1⟩;have X22:Hid (Below w.heap.size w w22/\TZ w22 w.heap.size):=⟨aD X21.out.1 h1 lz9,X21.out.2.kept h1 (aA X21.out.2)⟩;clear h1;have c3_22:=(H.out.kept X22.out.1).c3)
   |(go_at_call 109;(with_reducible refine(B3.out _ X22.out.1).mono ?_);rintro e w23 ⟨rfl,h1⟩;have X23:Hid (Below w.heap.size w w23/\TZ w23 w.heap.size):=⟨aD X22.out.1 h1 lz9,X22.out.2.kept h1 (aA X22.out.2)⟩;clear h1;have c3_23:=(H.out.kept X23.out.1).c3)
   |(go_at_call 109;(with_reducible refine(B5.out _ X23.out.1).mono ?_);rintro e w24 ⟨rfl,h1⟩;have X24:Hid (Below w.heap.size w w24/\TZ w24 w.heap.size):=⟨aD X23.out.1 h1 lz9,X23.out.2.kept h1 (aA X23.out.2)⟩;clear h1;have c3_24:=(H.out.kept X24.out.1).c3)
   |(go_at_call 105;(with_reducible refine(S36.out _ X24.out.1).mono ?_);rintro e w25 ⟨rfl,h1⟩;have X25:Hid (Below w.heap.size w w25/\TZ w25 w.heap.size):=⟨aD X24.out.1 h1 lz9,X24.out.2.kept h1 (aA X24.out.2)⟩;clear h1;have c3_25:=(H.out.kept X25.out.1).c3)
   |(go_at_call 105;(with_reducible refine(S46.out _ X25.out.1).mono ?_);rintro e w26 ⟨rfl,h1⟩;have X26:Hid (Below w.heap.size w w26/\TZ w26 w.heap.size):=⟨aD X25.out.1 h1 lz9,X25.out.2.kept h1 (aA X25.out.2)⟩;clear h1;have c3_26:=(H.out.kept X26.out.1).c3)
   |(go_at_call 105;(with_reducible refine(S91.out _ X26.out.1).mono ?_);rintro e w27 ⟨rfl,h1⟩;have X27:Hid (Below w.heap.size w w27/\TZ w27 w.heap.size):=⟨aD X26.out.1 h1 lz9,X26.out.2.kept h1 (aA X26.out.2)⟩;clear h1;have c3_27:=(H.out.kept X27.out.1).c3)
   |(go_at_call 114;have hih:=dO (GL.out.kept X27.out.1) (H.out.kept X27.out.1) hp hs;rw [hr] at hih;(with_reducible refine hih.mono ?_);clear hih;rintro e w9 ⟨h1,v9,rfl,h2,rfl⟩;have X9:Hid (RD w9 b s m qq tv/\Fr (At b) w w9/\TZ w9 w.heap.size):=⟨h2,(Fr.of_below X27.out.1).trans h1,X27.out.2.fr h1 (by intro q;have:w.heap.size=b:=q;omega)⟩;clear h1 h2)
   |(go_at_call 113;refine(eT c _).mono ?_;rintro e w6 ⟨v6,rfl,h6,h7⟩;obtain⟨q6,k6,rfl⟩:=h6.shape;have X6:Hid (RD w6 b s m qq tv/\Fr (At b) w w6/\TZ w6 w.heap.size/\ArgR w6 (.slice q6 1 k6) [(c,c)]/\w.heap.size < w6.heap.size):=⟨X9.out.1.kept h7,X9.out.2.1.then h7,X9.out.2.2.kept h7 (aA X9.out.2.2),h6.arg,aA (X9.out.2.2.kept h7 (aA X9.out.2.2))⟩;clear h6 h7)
   |(go_at_call 111;refine(iA X6.out.1 X6.out.2.2.2.1 (cS hfit hfit) (by simp) false).mono ?_;rintro e w8 ⟨v8,he,⟨rv,C,hv,h5,h6⟩,h4⟩;obtain⟨q8,k8,hsh⟩:=h5.shape;rw [dJ] at hv;subst hsh;subst hv;subst he;have X8:Hid (RD w8 b s m qq tv/\Fr (At b) w w8/\TZ w8 w.heap.size/\(∃ base,w.heap.size < base/\RR base w8 (.slice q8 C.length k8) C)/\IsC C (eN m [(c,c)] false)):=⟨X6.out.1.kept h4,X6.out.2.1.then h4,X6.out.2.2.1.kept h4 (aA X6.out.2.2.1),⟨_,X6.out.2.2.2.2,h5⟩,h6⟩;obtain⟨z0,z1,z2,z3,z4,z5,z6,y0,y1,y2,y3,y4,y5,y6⟩:=X8.out.2.2.1.all;clear h4 h5 h6)
  obtain⟨bs,hbs,hrr⟩:=X8.out.2.2.2.1
  refine bodyPost_ret (v:=tkV (bJ m [(c,c)] false) 0 0 (.slice q8 C.length k8)) (by obtain⟨e0,e1,e2,e3,e4,e5,e6⟩:=aR X8.out.2.2.1 (.int .i64 1) (.int .i64 0) (.int .i64 0) (.int .i64 0) (.int .i64 0) (.int .i64 0) (.slice q8 C.length k8);simp [results,Tryz.results66,go_sem,tkV,bJ,e0,e1,e2,e3,e4,e5,e6]) rfl ?_
  exact .is (fr7 X8.out.2.1 (.inr lz9) _ _ _ _ _ _ _) (RD.fr (S:=fun k=>k=w.heap.size) X8.out.1 (fr7 (S:=fun k=>k=w.heap.size) (Fr.refl _ _) (.inl rfl) _ _ _ _ _ _ _) (by omega)) ⟨_,C,rfl,RR.mono (rr7 hrr hbs _ _ _ _ _ _ _) (Nat.le_of_lt hbs),X8.out.2.2.2.2⟩
theorem vG{w:World}{b:Nat}{s:ByteArray}{m:Md}{p last:Nat}{tv:Value}(hG:Glb w)(h:RD w b s m p tv)(hk:LK w b tv last)(hb:3 < b)(hp:p < s.size)(hs:s.size<=2000)(hx:bt s p=36)(hend:lK s p=false) :
  Calls Tryz.prog 66 #[.pointer (some ⟨b,0,none⟩)] w (Outs w b s m tv (cR w.heap.size) (xZ m (chr m s p))):=by
 have lb:=h.lt
 have HX:=And.intro hb hs
 clear HX
 have hbz:¬ b=w.heap.size:=by omega
 have hzb:¬ w.heap.size=b:=by omega
 have w1:IntKind.wrap .i64 ((p:Int)+1)=(p:Int)+1:=wrap_small _ (by omega) (by omega)
 have W1:Hid (Below w.heap.size w (w.alloc cE)):=bz9
 have H:Hid (RD w b s m p tv):=h
 have K:Hid (LK w b tv last):=hk
 have GL:Hid (Glb w):=hG
 clear h hk hG
 have e92:aJ s p [92]=false:=by rw [aN hp];simp [hx]
 have S92:Hid (∀ W,Below w.heap.size w W->Calls Tryz.prog 105 #[.pointer (some ⟨b,0,none⟩),.string ⟨#[92]⟩] W fun e w'=>e=.returned (.bool false)/\Below W.heap.size W w'):=fun W hW=>by have:=aT (H.out.kept hW) (Nat.le_of_lt hp) ⟨#[92]⟩;rw [show aJ s p (ByteArray.data ⟨#[92]⟩).toList=false from e92] at this;exact this
 have e42:aJ s p [42]=false:=by rw [aN hp];simp [hx]
 have S42:Hid (∀ W,Below w.heap.size w W->Calls Tryz.prog 105 #[.pointer (some ⟨b,0,none⟩),.string ⟨#[42]⟩] W fun e w'=>e=.returned (.bool false)/\Below W.heap.size W w'):=fun W hW=>by have:=aT (H.out.kept hW) (Nat.le_of_lt hp) ⟨#[42]⟩;rw [show aJ s p (ByteArray.data ⟨#[42]⟩).toList=false from e42] at this;exact this
 have e94:aJ s p [94]=false:=by rw [aN hp];simp [hx]
 have S94:Hid (∀ W,Below w.heap.size w W->Calls Tryz.prog 105 #[.pointer (some ⟨b,0,none⟩),.string ⟨#[94]⟩] W fun e w'=>e=.returned (.bool false)/\Below W.heap.size W w'):=fun W hW=>by have:=aT (H.out.kept hW) (Nat.le_of_lt hp) ⟨#[94]⟩;rw [show aJ s p (ByteArray.data ⟨#[94]⟩).toList=false from e94] at this;exact this
 have e36:aJ s p [36]=true:=by rw [aN hp];simp [hx]
 have S36:Hid (∀ W,Below w.heap.size w W->Calls Tryz.prog 105 #[.pointer (some ⟨b,0,none⟩),.string ⟨#[36]⟩] W fun e w'=>e=.returned (.bool true)/\Below W.heap.size W w'):=fun W hW=>by have:=aT (H.out.kept hW) (Nat.le_of_lt hp) ⟨#[36]⟩;rw [show aJ s p (ByteArray.data ⟨#[36]⟩).toList=true from e36] at this;exact this
 have HE:Hid (∀ W,Below w.heap.size w W->Calls Tryz.prog 110 #[.pointer (some ⟨b,0,none⟩)] W fun e w'=>e=.returned (.bool false)/\Below W.heap.size W w'):=fun W hW=>by have:=aV5 (H.out.kept hW) hp hs;rw [hend] at this;exact this
 have e46:aJ s p [46]=false:=by rw [aN hp];simp [hx]
 have S46:Hid (∀ W,Below w.heap.size w W->Calls Tryz.prog 105 #[.pointer (some ⟨b,0,none⟩),.string ⟨#[46]⟩] W fun e w'=>e=.returned (.bool false)/\Below W.heap.size W w'):=fun W hW=>by have:=aT (H.out.kept hW) (Nat.le_of_lt hp) ⟨#[46]⟩;rw [show aJ s p (ByteArray.data ⟨#[46]⟩).toList=false from e46] at this;exact this
 have e91:aJ s p [91]=false:=by rw [aN hp];simp [hx]
 have S91:Hid (∀ W,Below w.heap.size w W->Calls Tryz.prog 105 #[.pointer (some ⟨b,0,none⟩),.string ⟨#[91]⟩] W fun e w'=>e=.returned (.bool false)/\Below W.heap.size W w'):=fun W hW=>by have:=aT (H.out.kept hW) (Nat.le_of_lt hp) ⟨#[91]⟩;rw [show aJ s p (ByteArray.data ⟨#[91]⟩).toList=false from e91] at this;exact this
 cases hr:chr m s p with
 | error x=>
  rw [oC m (by omega)] at hr;cases hr
 | ok x=>
  obtain⟨c,qq⟩:=x
  have hfit:=qU hr
  change Calls Tryz.prog 66 #[.pointer (some ⟨b,0,none⟩)] w (Outs w b s m tv (cR w.heap.size) (.ok (bJ m [(c,c)] false,qq)))
  go_enter Tryz.func66,Tryz.ntmps66
  go_wp2_with first
   |(go_at_call 105;(with_reducible refine(S92.out _ W1.out).mono ?_);rintro e w20 ⟨rfl,h1⟩;have X20:Hid (Below w.heap.size w w20/\TZ w20 w.heap.size):=⟨aD W1.out h1 lz9,(TZ.new w).kept h1 (aA (TZ.new w))⟩;clear h1;have c3_20:=(H.out.kept X20.out.1).c3)
   |(go_at_call 105;(with_reducible refine(S42.out _ X20.out.1).mono ?_);rintro e w21 ⟨rfl,h1⟩;have X21:Hid (Below w.heap.size w w21/\TZ w21 w.heap.size):=⟨aD X20.out.1 h1 lz9,X20.out.2.kept h1 (aA X20.out.2)⟩;clear h1;have c3_21:=(H.out.kept X21.out.1).c3)
   |(go_at_call 105;(with_reducible refine(S94.out _ X21.out.1).mono ?_);rintro e w22 ⟨rfl,h1⟩;have X22:Hid (Below w.heap.size w w22/\TZ w22 w.heap.size):=⟨aD X21.out.1 h1 lz9,X21.out.2.kept h1 (aA X21.out.2)⟩;clear h1;have c3_22:=(H.out.kept X22.out.1).c3)
   |(go_at_call 105;(with_reducible refine(S36.out _ X22.out.1).mono ?_);rintro e w23 ⟨rfl,h1⟩;have X23:Hid (Below w.heap.size w w23/\TZ w23 w.heap.size):=⟨aD X22.out.1 h1 lz9,X22.out.2.kept h1 (aA X22.out.2)⟩;clear h1;have c3_23:=(H.out.kept X23.out.1).c3)
   |(go_at_call 110;(with_reducible refine(HE.out _ X23.out.1).mono ?_);rintro e w24 ⟨rfl,h1⟩;have X24:Hid (Below w.heap.size w w24/\TZ w24 w.heap.size):=⟨aD X23.out.1 h1 lz9,X23.out.2.kept h1 (aA X23.out.2)⟩;clear h1;have c3_24:=(H.out.kept X24.out.1).c3)
   |(go_at_call 105;(with_reducible refine(S46.out _ X24.out.1).mono ?_);rintro e w25 ⟨rfl,h1⟩;have X25:Hid (Below w.heap.size w w25/\TZ w25 w.heap.size):=⟨aD X24.out.1 h1 lz9,X24.out.2.kept h1 (aA X24.out.2)⟩;clear h1;have c3_25:=(H.out.kept X25.out.1).c3)
   |(go_at_call 105;(with_reducible refine(S91.out _ X25.out.1).mono ?_);rintro e w26 ⟨rfl,h1⟩;have X26:Hid (Below w.heap.size w w26/\TZ w26 w.heap.size):=⟨aD X25.out.1 h1 lz9,X25.out.2.kept h1 (aA X25.out.2)⟩;clear h1;have c3_26:=(H.out.kept X26.out.1).c3)
   |(go_at_call 114;have hih:=dO (GL.out.kept X26.out.1) (H.out.kept X26.out.1) hp hs;rw [hr] at hih;(with_reducible refine hih.mono ?_);clear hih;rintro e w9 ⟨h1,v9,rfl,h2,rfl⟩;have X9:Hid (RD w9 b s m qq tv/\Fr (At b) w w9/\TZ w9 w.heap.size):=⟨h2,(Fr.of_below X26.out.1).trans h1,X26.out.2.fr h1 (by intro q;have:w.heap.size=b:=q;omega)⟩;clear h1 h2)
   |(go_at_call 113;refine(eT c _).mono ?_;rintro e w6 ⟨v6,rfl,h6,h7⟩;obtain⟨q6,k6,rfl⟩:=h6.shape;have X6:Hid (RD w6 b s m qq tv/\Fr (At b) w w6/\TZ w6 w.heap.size/\ArgR w6 (.slice q6 1 k6) [(c,c)]/\w.heap.size < w6.heap.size):=⟨X9.out.1.kept h7,X9.out.2.1.then h7,X9.out.2.2.kept h7 (aA X9.out.2.2),h6.arg,aA (X9.out.2.2.kept h7 (aA X9.out.2.2))⟩;clear h6 h7)
   |(go_at_call 111;refine(iA X6.out.1 X6.out.2.2.2.1 (cS hfit hfit) (by simp) false).mono ?_;rintro e w8 ⟨v8,he,⟨rv,C,hv,h5,h6⟩,h4⟩;obtain⟨q8,k8,hsh⟩:=h5.shape;rw [dJ] at hv;subst hsh;subst hv;subst he;have X8:Hid (RD w8 b s m qq tv/\Fr (At b) w w8/\TZ w8 w.heap.size/\(∃ base,w.heap.size < base/\RR base w8 (.slice q8 C.length k8) C)/\IsC C (eN m [(c,c)] false)):=⟨X6.out.1.kept h4,X6.out.2.1.then h4,X6.out.2.2.1.kept h4 (aA X6.out.2.2.1),⟨_,X6.out.2.2.2.2,h5⟩,h6⟩;obtain⟨z0,z1,z2,z3,z4,z5,z6,y0,y1,y2,y3,y4,y5,y6⟩:=X8.out.2.2.1.all;clear h4 h5 h6)
  obtain⟨bs,hbs,hrr⟩:=X8.out.2.2.2.1
  refine bodyPost_ret (v:=tkV (bJ m [(c,c)] false) 0 0 (.slice q8 C.length k8)) (by obtain⟨e0,e1,e2,e3,e4,e5,e6⟩:=aR X8.out.2.2.1 (.int .i64 1) (.int .i64 0) (.int .i64 0) (.int .i64 0) (.int .i64 0) (.int .i64 0) (.slice q8 C.length k8);simp [results,Tryz.results66,go_sem,tkV,bJ,e0,e1,e2,e3,e4,e5,e6]) rfl ?_
  exact .is (fr7 X8.out.2.1 (.inr lz9) _ _ _ _ _ _ _) (RD.fr (S:=fun k=>k=w.heap.size) X8.out.1 (fr7 (S:=fun k=>k=w.heap.size) (Fr.refl _ _) (.inl rfl) _ _ _ _ _ _ _) (by omega)) ⟨_,C,rfl,RR.mono (rr7 hrr hbs _ _ _ _ _ _ _) (Nat.le_of_lt hbs),X8.out.2.2.2.2⟩
structure bP1(x:Nat):Prop where
 h92:¬ x=92
 h42:¬ x=42
 h94:¬ x=94
 h36:¬ x=36
 h46:¬ x=46
 h91:¬ x=91
theorem aI4{w:World}{b:Nat}{s:ByteArray}{m:Md}{p last:Nat}{tv:Value}(hG:Glb w)(h:RD w b s m p tv)(hk:LK w b tv last)(hb:3 < b)(hp:p < s.size)(hs:s.size<=2000)(hx:bP1 (bt s p)) :
  Calls Tryz.prog 66 #[.pointer (some ⟨b,0,none⟩)] w (Outs w b s m tv (cR w.heap.size) (xZ m (chr m s p))):=by
 have lb:=h.lt
 have HX:=And.intro hb hs
 clear HX
 have hbz:¬ b=w.heap.size:=by omega
 have hzb:¬ w.heap.size=b:=by omega
 have w1:IntKind.wrap .i64 ((p:Int)+1)=(p:Int)+1:=wrap_small _ (by omega) (by omega)
 have W1:Hid (Below w.heap.size w (w.alloc cE)):=bz9
 have H:Hid (RD w b s m p tv):=h
 have K:Hid (LK w b tv last):=hk
 have GL:Hid (Glb w):=hG
 clear h hk hG
 have e92:aJ s p [92]=false:=by rw [aN hp];simp [hx.h92]
 have S92:Hid (∀ W,Below w.heap.size w W->Calls Tryz.prog 105 #[.pointer (some ⟨b,0,none⟩),.string ⟨#[92]⟩] W fun e w'=>e=.returned (.bool false)/\Below W.heap.size W w'):=fun W hW=>by have:=aT (H.out.kept hW) (Nat.le_of_lt hp) ⟨#[92]⟩;rw [show aJ s p (ByteArray.data ⟨#[92]⟩).toList=false from e92] at this;exact this
 have e42:aJ s p [42]=false:=by rw [aN hp];simp [hx.h42]
 have S42:Hid (∀ W,Below w.heap.size w W->Calls Tryz.prog 105 #[.pointer (some ⟨b,0,none⟩),.string ⟨#[42]⟩] W fun e w'=>e=.returned (.bool false)/\Below W.heap.size W w'):=fun W hW=>by have:=aT (H.out.kept hW) (Nat.le_of_lt hp) ⟨#[42]⟩;rw [show aJ s p (ByteArray.data ⟨#[42]⟩).toList=false from e42] at this;exact this
 have e94:aJ s p [94]=false:=by rw [aN hp];simp [hx.h94]
 have S94:Hid (∀ W,Below w.heap.size w W->Calls Tryz.prog 105 #[.pointer (some ⟨b,0,none⟩),.string ⟨#[94]⟩] W fun e w'=>e=.returned (.bool false)/\Below W.heap.size W w'):=fun W hW=>by have:=aT (H.out.kept hW) (Nat.le_of_lt hp) ⟨#[94]⟩;rw [show aJ s p (ByteArray.data ⟨#[94]⟩).toList=false from e94] at this;exact this
 have e36:aJ s p [36]=false:=by rw [aN hp];simp [hx.h36]
 have S36:Hid (∀ W,Below w.heap.size w W->Calls Tryz.prog 105 #[.pointer (some ⟨b,0,none⟩),.string ⟨#[36]⟩] W fun e w'=>e=.returned (.bool false)/\Below W.heap.size W w'):=fun W hW=>by have:=aT (H.out.kept hW) (Nat.le_of_lt hp) ⟨#[36]⟩;rw [show aJ s p (ByteArray.data ⟨#[36]⟩).toList=false from e36] at this;exact this
 have e46:aJ s p [46]=false:=by rw [aN hp];simp [hx.h46]
 have S46:Hid (∀ W,Below w.heap.size w W->Calls Tryz.prog 105 #[.pointer (some ⟨b,0,none⟩),.string ⟨#[46]⟩] W fun e w'=>e=.returned (.bool false)/\Below W.heap.size W w'):=fun W hW=>by have:=aT (H.out.kept hW) (Nat.le_of_lt hp) ⟨#[46]⟩;rw [show aJ s p (ByteArray.data ⟨#[46]⟩).toList=false from e46] at this;exact this
 have e91:aJ s p [91]=false:=by rw [aN hp];simp [hx.h91]
 have S91:Hid (∀ W,Below w.heap.size w W->Calls Tryz.prog 105 #[.pointer (some ⟨b,0,none⟩),.string ⟨#[91]⟩] W fun e w'=>e=.returned (.bool false)/\Below W.heap.size W w'):=fun W hW=>by have:=aT (H.out.kept hW) (Nat.le_of_lt hp) ⟨#[91]⟩;rw [show aJ s p (ByteArray.data ⟨#[91]⟩).toList=false from e91] at this;exact this
 cases hr:chr m s p with
 | error x=>
  change Calls Tryz.prog 66 #[.pointer (some ⟨b,0,none⟩)] w (Outs w b s m tv (cR w.heap.size) (.error x))
  go_enter Tryz.func66,Tryz.ntmps66
  go_wp2_with first
   |(go_at_call 105;(with_reducible refine(S92.out _ W1.out).mono ?_);rintro e w20 ⟨rfl,h1⟩;have X20:Hid (Below w.heap.size w w20/\TZ w20 w.heap.size):=⟨aD W1.out h1 lz9,(TZ.new w).kept h1 (aA (TZ.new w))⟩;clear h1;have c3_20:=(H.out.kept X20.out.1).c3)
   |(go_at_call 105;(with_reducible refine(S42.out _ X20.out.1).mono ?_);rintro e w21 ⟨rfl,h1⟩;have X21:Hid (Below w.heap.size w w21/\TZ w21 w.heap.size):=⟨aD X20.out.1 h1 lz9,X20.out.2.kept h1 (aA X20.out.2)⟩;clear h1;have c3_21:=(H.out.kept X21.out.1).c3)
   |(go_at_call 105;(with_reducible refine(S94.out _ X21.out.1).mono ?_);rintro e w22 ⟨rfl,h1⟩;have X22:Hid (Below w.heap.size w w22/\TZ w22 w.heap.size):=⟨aD X21.out.1 h1 lz9,X21.out.2.kept h1 (aA X21.out.2)⟩;clear h1;have c3_22:=(H.out.kept X22.out.1).c3)
   |(go_at_call 105;(with_reducible refine(S36.out _ X22.out.1).mono ?_);rintro e w23 ⟨rfl,h1⟩;have X23:Hid (Below w.heap.size w w23/\TZ w23 w.heap.size):=⟨aD X22.out.1 h1 lz9,X22.out.2.kept h1 (aA X22.out.2)⟩;clear h1;have c3_23:=(H.out.kept X23.out.1).c3)
   |(go_at_call 105;(with_reducible refine(S46.out _ X23.out.1).mono ?_);rintro e w24 ⟨rfl,h1⟩;have X24:Hid (Below w.heap.size w w24/\TZ w24 w.heap.size):=⟨aD X23.out.1 h1 lz9,X23.out.2.kept h1 (aA X23.out.2)⟩;clear h1;have c3_24:=(H.out.kept X24.out.1).c3)
   |(go_at_call 105;(with_reducible refine(S91.out _ X24.out.1).mono ?_);rintro e w25 ⟨rfl,h1⟩;have X25:Hid (Below w.heap.size w w25/\TZ w25 w.heap.size):=⟨aD X24.out.1 h1 lz9,X24.out.2.kept h1 (aA X24.out.2)⟩;clear h1;have c3_25:=(H.out.kept X25.out.1).c3)
   |(go_at_call 114;have hih:=dO (GL.out.kept X25.out.1) (H.out.kept X25.out.1) hp hs;rw [hr] at hih;(with_reducible refine hih.mono ?_);rintro e w8 ⟨h1,g,h2,rfl,h4⟩)
  exact⟨rfl,.err ((Fr.of_below X25.out.1).trans h1) (Nat.le_trans X25.out.1.size h2) h4⟩
 | ok x=>
  obtain⟨c,qq⟩:=x
  have hfit:=qU hr
  change Calls Tryz.prog 66 #[.pointer (some ⟨b,0,none⟩)] w (Outs w b s m tv (cR w.heap.size) (.ok (bJ m [(c,c)] false,qq)))
  go_enter Tryz.func66,Tryz.ntmps66
  go_wp2_with first
   |(go_at_call 105;(with_reducible refine(S92.out _ W1.out).mono ?_);rintro e w20 ⟨rfl,h1⟩;have X20:Hid (Below w.heap.size w w20/\TZ w20 w.heap.size):=⟨aD W1.out h1 lz9,(TZ.new w).kept h1 (aA (TZ.new w))⟩;clear h1;have c3_20:=(H.out.kept X20.out.1).c3)
   |(go_at_call 105;(with_reducible refine(S42.out _ X20.out.1).mono ?_);rintro e w21 ⟨rfl,h1⟩;have X21:Hid (Below w.heap.size w w21/\TZ w21 w.heap.size):=⟨aD X20.out.1 h1 lz9,X20.out.2.kept h1 (aA X20.out.2)⟩;clear h1;have c3_21:=(H.out.kept X21.out.1).c3)
   |(go_at_call 105;(with_reducible refine(S94.out _ X21.out.1).mono ?_);rintro e w22 ⟨rfl,h1⟩;have X22:Hid (Below w.heap.size w w22/\TZ w22 w.heap.size):=⟨aD X21.out.1 h1 lz9,X21.out.2.kept h1 (aA X21.out.2)⟩;clear h1;have c3_22:=(H.out.kept X22.out.1).c3)
   |(go_at_call 105;(with_reducible refine(S36.out _ X22.out.1).mono ?_);rintro e w23 ⟨rfl,h1⟩;have X23:Hid (Below w.heap.size w w23/\TZ w23 w.heap.size):=⟨aD X22.out.1 h1 lz9,X22.out.2.kept h1 (aA X22.out.2)⟩;clear h1;have c3_23:=(H.out.kept X23.out.1).c3)
   |(go_at_call 105;(with_reducible refine(S46.out _ X23.out.1).mono ?_);rintro e w24 ⟨rfl,h1⟩;have X24:Hid (Below w.heap.size w w24/\TZ w24 w.heap.size):=⟨aD X23.out.1 h1 lz9,X23.out.2.kept h1 (aA X23.out.2)⟩;clear h1;have c3_24:=(H.out.kept X24.out.1).c3)
   |(go_at_call 105;(with_reducible refine(S91.out _ X24.out.1).mono ?_);rintro e w25 ⟨rfl,h1⟩;have X25:Hid (Below w.heap.size w w25/\TZ w25 w.heap.size):=⟨aD X24.out.1 h1 lz9,X24.out.2.kept h1 (aA X24.out.2)⟩;clear h1;have c3_25:=(H.out.kept X25.out.1).c3)
   |(go_at_call 114;have hih:=dO (GL.out.kept X25.out.1) (H.out.kept X25.out.1) hp hs;rw [hr] at hih;(with_reducible refine hih.mono ?_);clear hih;rintro e w9 ⟨h1,v9,rfl,h2,rfl⟩;have X9:Hid (RD w9 b s m qq tv/\Fr (At b) w w9/\TZ w9 w.heap.size):=⟨h2,(Fr.of_below X25.out.1).trans h1,X25.out.2.fr h1 (by intro q;have:w.heap.size=b:=q;omega)⟩;clear h1 h2)
   |(go_at_call 113;refine(eT c _).mono ?_;rintro e w6 ⟨v6,rfl,h6,h7⟩;obtain⟨q6,k6,rfl⟩:=h6.shape;have X6:Hid (RD w6 b s m qq tv/\Fr (At b) w w6/\TZ w6 w.heap.size/\ArgR w6 (.slice q6 1 k6) [(c,c)]/\w.heap.size < w6.heap.size):=⟨X9.out.1.kept h7,X9.out.2.1.then h7,X9.out.2.2.kept h7 (aA X9.out.2.2),h6.arg,aA (X9.out.2.2.kept h7 (aA X9.out.2.2))⟩;clear h6 h7)
   |(go_at_call 111;refine(iA X6.out.1 X6.out.2.2.2.1 (cS hfit hfit) (by simp) false).mono ?_;rintro e w8 ⟨v8,he,⟨rv,C,hv,h5,h6⟩,h4⟩;obtain⟨q8,k8,hsh⟩:=h5.shape;rw [dJ] at hv;subst hsh;subst hv;subst he;have X8:Hid (RD w8 b s m qq tv/\Fr (At b) w w8/\TZ w8 w.heap.size/\(∃ base,w.heap.size < base/\RR base w8 (.slice q8 C.length k8) C)/\IsC C (eN m [(c,c)] false)):=⟨X6.out.1.kept h4,X6.out.2.1.then h4,X6.out.2.2.1.kept h4 (aA X6.out.2.2.1),⟨_,X6.out.2.2.2.2,h5⟩,h6⟩;obtain⟨z0,z1,z2,z3,z4,z5,z6,y0,y1,y2,y3,y4,y5,y6⟩:=X8.out.2.2.1.all;clear h4 h5 h6)
  obtain⟨bs,hbs,hrr⟩:=X8.out.2.2.2.1
  refine bodyPost_ret (v:=tkV (bJ m [(c,c)] false) 0 0 (.slice q8 C.length k8)) (by obtain⟨e0,e1,e2,e3,e4,e5,e6⟩:=aR X8.out.2.2.1 (.int .i64 1) (.int .i64 0) (.int .i64 0) (.int .i64 0) (.int .i64 0) (.int .i64 0) (.slice q8 C.length k8);simp [results,Tryz.results66,go_sem,tkV,bJ,e0,e1,e2,e3,e4,e5,e6]) rfl ?_
  exact .is (fr7 X8.out.2.1 (.inr lz9) _ _ _ _ _ _ _) (RD.fr (S:=fun k=>k=w.heap.size) X8.out.1 (fr7 (S:=fun k=>k=w.heap.size) (Fr.refl _ _) (.inl rfl) _ _ _ _ _ _ _) (by omega)) ⟨_,C,rfl,RR.mono (rr7 hrr hbs _ _ _ _ _ _ _) (Nat.le_of_lt hbs),X8.out.2.2.2.2⟩
theorem aD5{w:World}{b:Nat}{s:ByteArray}{m:Md}{p last:Nat}{tv:Value}(hG:Glb w)(h:RD w b s m p tv)(hk:LK w b tv last)(hb:3 < b)(hp:p < s.size)(hs:s.size<=2000) :
  Calls Tryz.prog 66 #[.pointer (some ⟨b,0,none⟩)] w (Outs w b s m tv (cR w.heap.size) (tok m s p last)):=by
 have sd:∀ c:UInt8,aJ s p [c]=decide (bt s p=c.toNat):=aN hp
 have t92:=sd 92
 have t42:=sd 42
 have t94:=sd 94
 have t36:=sd 36
 have t46:=sd 46
 have t91:=sd 91
 simp only [show (92:UInt8).toNat=92 from rfl,show (42:UInt8).toNat=42 from rfl,show (94:UInt8).toNat=94 from rfl,show (36:UInt8).toNat=36 from rfl,show (46:UInt8).toNat=46 from rfl,show (91:UInt8).toNat=91 from rfl] at t92 t42 t94 t36 t46 t91
 by_cases x92:bt s p=92
 ·have e:tok m s p last=esc m s p last:=by unfold tok;simp [t92,x92]
  rw [e];exact aI1 hG h hk hb hp hs x92
 by_cases x42:bt s p=42
 ·cases hbeg:fM last with
  | false=>
   have e:tok m s p last=.ok (dK 0 (-1),p+1):=by unfold tok;simp [t92,t42,x42,hbeg]
   rw [e];exact yU hG h hk hb hp hs x42 hbeg
  | true=>
   have e:tok m s p last=xZ m (chr m s p):=by unfold tok;simp [t92,t42,t94,t36,t46,t91,x42,hbeg];rfl
   rw [e];exact vF hG h hk hb hp hs x42 hbeg
 by_cases x94:bt s p=94
 ·by_cases hp0:p=0
  ·have hpb:(p==0)=true:=by simp [hp0]
   have e:tok m s p last=.ok (kT 7,p+1):=by unfold tok;rw [hpb];simp [t92,t42,t94,x94]
   rw [e];exact yX hG h hk hb hp hs x94 hp0
  by_cases h3:last=3
  ·have e:tok m s p last=.ok (kT 7,p+1):=by unfold tok;simp [t92,t42,t94,x94,h3]
   rw [e];exact yW hG h hk hb hp hs x94 hp0 h3
  by_cases h5:last=5
  ·have e:tok m s p last=.ok (kT 7,p+1):=by unfold tok;simp [t92,t42,t94,x94,h5]
   rw [e];exact yV hG h hk hb hp hs x94 hp0 h5
  have e:tok m s p last=xZ m (chr m s p):=by unfold tok;simp [t92,t42,t94,t36,t46,t91,x94,hp0,h3,h5];rfl
  rw [e];exact vE hG h hk hb hp hs x94 hp0 h3 h5
 by_cases x36:bt s p=36
 ·cases hend:lK s p with
  | true=>
   have e:tok m s p last=.ok (kT 8,p+1):=by unfold tok;simp [t92,t42,t94,t36,x36,hend]
   rw [e];exact aI2 hG h hk hb hp hs x36 hend
  | false=>
   have e:tok m s p last=xZ m (chr m s p):=by unfold tok;simp [t92,t42,t94,t36,t46,t91,x36,hend];rfl
   rw [e];exact vG hG h hk hb hp hs x36 hend
 by_cases x46:bt s p=46
 ·have e:tok m s p last=.ok (bJ m [] true,p+1):=by unfold tok;simp [t92,t42,t94,t36,t46,x46]
  rw [e];exact aI3 hG h hk hb hp hs x46
 by_cases x91:bt s p=91
 ·have e:tok m s p last=brk m s p:=by unfold tok;simp [t92,t42,t94,t36,t46,t91,x91]
  rw [e];exact aI5 hG h hk hb hp hs x91
 have e:tok m s p last=xZ m (chr m s p):=by unfold tok;simp [t92,t42,t94,t36,t46,t91,x92,x42,x94,x36,x46,x91];rfl
 rw [e];exact aI4 hG h hk hb hp hs ⟨x92,x42,x94,x36,x46,x91⟩
end Go.Proofs.YticfnglebbakkaaGreatDoor
