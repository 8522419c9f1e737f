/-
  Parts of the proof.
-/
import Derived.Test.YticfnglebbakkaaGreatDoorAgainProofB28
set_option maxRecDepth 100000
set_option maxHeartbeats 8000000
namespace Go.Proofs.YticfnglebbakkaaGreatDoor
open Go Go.RowKit
attribute [local go_sem] aV
theorem aB0{w:World}{b:Nat}{s:ByteArray}{m:Md}{p:Nat}{tv:Value}(h:RD w b s m p tv)(hp:p < s.size)(hs:s.size<=2000)(he:¬ p+1=s.size)(x:Nat)(hx:x=46\/x=91\/x=93\/x=42\/x=94\/x=36\/x=92\/x=47)(hbx:bt s (p+1)=x) :
  Calls Tryz.prog 106 #[.pointer (some ⟨b,0,none⟩)] w (Outs w b s m tv (cR w.heap.size) (.ok (bJ m [((x:Int),(x:Int))] false,p+2))):=by
 have lb:=h.lt
 have c0:=h.c0
 have c3:=h.c3
 have f3:=h.frz 3
 have hbz:¬ b=w.heap.size:=by omega
 have w1:IntKind.wrap .i64 ((p:Int)+1)=(p:Int)+1:=wrap_small _ (by omega) (by omega)
 have w2:IntKind.wrap .i64 ((p:Int)+2)=(p:Int)+2:=wrap_small _ (by omega) (by omega)
 have R1:Hid (RD ((w.setCell ⟨b,3,none⟩ (.int .i64 ((p:Int)+2))).alloc cE) b s m (p+2) tv):=RD.kept (h.to (p+2) (by omega)) (bz9)
 have F1:Hid (Fr (At b) w ((w.setCell ⟨b,3,none⟩ (.int .i64 ((p:Int)+2))).alloc cE)):=Fr.alloc (Fr.setCell (S:=At b) (Fr.refl _ _) (p:=⟨b,3,none⟩) rfl _) _
 have hz:(w.setCell ⟨b,3,none⟩ (.int .i64 ((p:Int)+2))).heap.size=w.heap.size:=by simp
 have Z1:Hid (TZ ((w.setCell ⟨b,3,none⟩ (.int .i64 ((p:Int)+2))).alloc cE) w.heap.size):=by
  have:=TZ.new (w.setCell ⟨b,3,none⟩ (.int .i64 ((p:Int)+2)))
  rw [hz] at this
  exact this
 have L1:Hid (w.heap.size < ((w.setCell ⟨b,3,none⟩ (.int .i64 ((p:Int)+2))).alloc cE).heap.size):=aA Z1.out
 have d0:((p:Int)+1==(s.size:Int))=false:=by simp;omega
 have hlt:p+1 < s.size:=by omega
 have i0:(0:Int)<=(p:Int)+1:=by omega
 have i1:(p:Int)+1 < (s.size:Int):=by omega
 have n1:((p:Int)+1).toNat=p+1:=by omega
 have hix:=mF s (p+1) hlt
 rw [hbx] at hix
 obtain⟨qq,hqq⟩:∃ qq,qq=p+2:=⟨_,rfl⟩
 rw [<- hqq]
 rw [<- hqq] at R1
 clear h he hbx hz hqq
 rcases hx with rfl | rfl | rfl | rfl | rfl | rfl | rfl | rfl
 ·have hfit:(0:Int)<=46/\(46:Int)<=1114111:=by omega
  change Calls Tryz.prog 106 #[.pointer (some ⟨b,0,none⟩)] w (Outs w b s m tv (cR w.heap.size) (.ok (bJ m [(46,46)] false,qq)))
  go_enter Tryz.func106,Tryz.ntmps106
  go_wp2_with first
   |(go_at_call 113;refine(eT 46 _).mono ?_;rintro e w6 ⟨v6,rfl,h6,h7⟩;obtain⟨q6,k6,rfl⟩:=h6.shape;have X6:Hid (RD w6 b s m qq tv/\Fr (At b) w w6/\TZ w6 w.heap.size/\ArgR w6 (.slice q6 1 k6) [(46,46)]/\w.heap.size < w6.heap.size):=⟨R1.out.kept h7,F1.out.then h7,Z1.out.kept h7 (aA Z1.out),h6.arg,aA (Z1.out.kept h7 (aA Z1.out))⟩;clear h6 h7)
   |(go_at_call 111;refine(iA X6.out.1 X6.out.2.2.2.1 (cS hfit hfit) (by simp) false).mono ?_;rintro e w8 ⟨v8,he,⟨rv,C,hv,h5,h6⟩,h4⟩;obtain⟨q8,k8,hsh⟩:=h5.shape;rw [dJ] at hv;subst hsh;subst hv;subst he;have X8:Hid (RD w8 b s m qq tv/\Fr (At b) w w8/\TZ w8 w.heap.size/\(∃ base,w.heap.size < base/\RR base w8 (.slice q8 C.length k8) C)/\IsC C (eN m [(46,46)] false)):=⟨X6.out.1.kept h4,X6.out.2.1.then h4,X6.out.2.2.1.kept h4 (aA X6.out.2.2.1),⟨_,X6.out.2.2.2.2,h5⟩,h6⟩;obtain⟨z0,z1,z2,z3,z4,z5,z6,y0,y1,y2,y3,y4,y5,y6⟩:=X8.out.2.2.1.all;clear h4 h5 h6)
  obtain⟨bs,hbs,hrr⟩:=X8.out.2.2.2.1
  refine bodyPost_ret (v:=tkV (bJ m [(46,46)] false) 0 0 (.slice q8 C.length k8)) (by obtain⟨e0,e1,e2,e3,e4,e5,e6⟩:=aR X8.out.2.2.1 (.int .i64 1) (.int .i64 0) (.int .i64 0) (.int .i64 0) (.int .i64 0) (.int .i64 0) (.slice q8 C.length k8);simp [results,Tryz.results106,go_sem,tkV,bJ,e0,e1,e2,e3,e4,e5,e6]) rfl ?_
  exact .is (fr7 X8.out.2.1 (.inr lz9) _ _ _ _ _ _ _) (RD.fr (S:=fun k=>k=w.heap.size) X8.out.1 (fr7 (S:=fun k=>k=w.heap.size) (Fr.refl _ _) (.inl rfl) _ _ _ _ _ _ _) (by omega)) ⟨_,C,rfl,RR.mono (rr7 hrr hbs _ _ _ _ _ _ _) (Nat.le_of_lt hbs),X8.out.2.2.2.2⟩
 ·have hfit:(0:Int)<=91/\(91:Int)<=1114111:=by omega
  change Calls Tryz.prog 106 #[.pointer (some ⟨b,0,none⟩)] w (Outs w b s m tv (cR w.heap.size) (.ok (bJ m [(91,91)] false,qq)))
  go_enter Tryz.func106,Tryz.ntmps106
  go_wp2_with first
   |(go_at_call 113;refine(eT 91 _).mono ?_;rintro e w6 ⟨v6,rfl,h6,h7⟩;obtain⟨q6,k6,rfl⟩:=h6.shape;have X6:Hid (RD w6 b s m qq tv/\Fr (At b) w w6/\TZ w6 w.heap.size/\ArgR w6 (.slice q6 1 k6) [(91,91)]/\w.heap.size < w6.heap.size):=⟨R1.out.kept h7,F1.out.then h7,Z1.out.kept h7 (aA Z1.out),h6.arg,aA (Z1.out.kept h7 (aA Z1.out))⟩;clear h6 h7)
   |(go_at_call 111;refine(iA X6.out.1 X6.out.2.2.2.1 (cS hfit hfit) (by simp) false).mono ?_;rintro e w8 ⟨v8,he,⟨rv,C,hv,h5,h6⟩,h4⟩;obtain⟨q8,k8,hsh⟩:=h5.shape;rw [dJ] at hv;subst hsh;subst hv;subst he;have X8:Hid (RD w8 b s m qq tv/\Fr (At b) w w8/\TZ w8 w.heap.size/\(∃ base,w.heap.size < base/\RR base w8 (.slice q8 C.length k8) C)/\IsC C (eN m [(91,91)] false)):=⟨X6.out.1.kept h4,X6.out.2.1.then h4,X6.out.2.2.1.kept h4 (aA X6.out.2.2.1),⟨_,X6.out.2.2.2.2,h5⟩,h6⟩;obtain⟨z0,z1,z2,z3,z4,z5,z6,y0,y1,y2,y3,y4,y5,y6⟩:=X8.out.2.2.1.all;clear h4 h5 h6)
  obtain⟨bs,hbs,hrr⟩:=X8.out.2.2.2.1
  refine bodyPost_ret (v:=tkV (bJ m [(91,91)] false) 0 0 (.slice q8 C.length k8)) (by obtain⟨e0,e1,e2,e3,e4,e5,e6⟩:=aR X8.out.2.2.1 (.int .i64 1) (.int .i64 0) (.int .i64 0) (.int .i64 0) (.int .i64 0) (.int .i64 0) (.slice q8 C.length k8);simp [results,Tryz.results106,go_sem,tkV,bJ,e0,e1,e2,e3,e4,e5,e6]) rfl ?_
  exact .is (fr7 X8.out.2.1 (.inr lz9) _ _ _ _ _ _ _) (RD.fr (S:=fun k=>k=w.heap.size) X8.out.1 (fr7 (S:=fun k=>k=w.heap.size) (Fr.refl _ _) (.inl rfl) _ _ _ _ _ _ _) (by omega)) ⟨_,C,rfl,RR.mono (rr7 hrr hbs _ _ _ _ _ _ _) (Nat.le_of_lt hbs),X8.out.2.2.2.2⟩
 ·have hfit:(0:Int)<=93/\(93:Int)<=1114111:=by omega
  change Calls Tryz.prog 106 #[.pointer (some ⟨b,0,none⟩)] w (Outs w b s m tv (cR w.heap.size) (.ok (bJ m [(93,93)] false,qq)))
  go_enter Tryz.func106,Tryz.ntmps106
  go_wp2_with first
   |(go_at_call 113;refine(eT 93 _).mono ?_;rintro e w6 ⟨v6,rfl,h6,h7⟩;obtain⟨q6,k6,rfl⟩:=h6.shape;have X6:Hid (RD w6 b s m qq tv/\Fr (At b) w w6/\TZ w6 w.heap.size/\ArgR w6 (.slice q6 1 k6) [(93,93)]/\w.heap.size < w6.heap.size):=⟨R1.out.kept h7,F1.out.then h7,Z1.out.kept h7 (aA Z1.out),h6.arg,aA (Z1.out.kept h7 (aA Z1.out))⟩;clear h6 h7)
   |(go_at_call 111;refine(iA X6.out.1 X6.out.2.2.2.1 (cS hfit hfit) (by simp) false).mono ?_;rintro e w8 ⟨v8,he,⟨rv,C,hv,h5,h6⟩,h4⟩;obtain⟨q8,k8,hsh⟩:=h5.shape;rw [dJ] at hv;subst hsh;subst hv;subst he;have X8:Hid (RD w8 b s m qq tv/\Fr (At b) w w8/\TZ w8 w.heap.size/\(∃ base,w.heap.size < base/\RR base w8 (.slice q8 C.length k8) C)/\IsC C (eN m [(93,93)] false)):=⟨X6.out.1.kept h4,X6.out.2.1.then h4,X6.out.2.2.1.kept h4 (aA X6.out.2.2.1),⟨_,X6.out.2.2.2.2,h5⟩,h6⟩;obtain⟨z0,z1,z2,z3,z4,z5,z6,y0,y1,y2,y3,y4,y5,y6⟩:=X8.out.2.2.1.all;clear h4 h5 h6)
  obtain⟨bs,hbs,hrr⟩:=X8.out.2.2.2.1
  refine bodyPost_ret (v:=tkV (bJ m [(93,93)] false) 0 0 (.slice q8 C.length k8)) (by obtain⟨e0,e1,e2,e3,e4,e5,e6⟩:=aR X8.out.2.2.1 (.int .i64 1) (.int .i64 0) (.int .i64 0) (.int .i64 0) (.int .i64 0) (.int .i64 0) (.slice q8 C.length k8);simp [results,Tryz.results106,go_sem,tkV,bJ,e0,e1,e2,e3,e4,e5,e6]) rfl ?_
  exact .is (fr7 X8.out.2.1 (.inr lz9) _ _ _ _ _ _ _) (RD.fr (S:=fun k=>k=w.heap.size) X8.out.1 (fr7 (S:=fun k=>k=w.heap.size) (Fr.refl _ _) (.inl rfl) _ _ _ _ _ _ _) (by omega)) ⟨_,C,rfl,RR.mono (rr7 hrr hbs _ _ _ _ _ _ _) (Nat.le_of_lt hbs),X8.out.2.2.2.2⟩
 ·have hfit:(0:Int)<=42/\(42:Int)<=1114111:=by omega
  change Calls Tryz.prog 106 #[.pointer (some ⟨b,0,none⟩)] w (Outs w b s m tv (cR w.heap.size) (.ok (bJ m [(42,42)] false,qq)))
  go_enter Tryz.func106,Tryz.ntmps106
  go_wp2_with first
   |(go_at_call 113;refine(eT 42 _).mono ?_;rintro e w6 ⟨v6,rfl,h6,h7⟩;obtain⟨q6,k6,rfl⟩:=h6.shape;have X6:Hid (RD w6 b s m qq tv/\Fr (At b) w w6/\TZ w6 w.heap.size/\ArgR w6 (.slice q6 1 k6) [(42,42)]/\w.heap.size < w6.heap.size):=⟨R1.out.kept h7,F1.out.then h7,Z1.out.kept h7 (aA Z1.out),h6.arg,aA (Z1.out.kept h7 (aA Z1.out))⟩;clear h6 h7)
   |(go_at_call 111;refine(iA X6.out.1 X6.out.2.2.2.1 (cS hfit hfit) (by simp) false).mono ?_;rintro e w8 ⟨v8,he,⟨rv,C,hv,h5,h6⟩,h4⟩;obtain⟨q8,k8,hsh⟩:=h5.shape;rw [dJ] at hv;subst hsh;subst hv;subst he;have X8:Hid (RD w8 b s m qq tv/\Fr (At b) w w8/\TZ w8 w.heap.size/\(∃ base,w.heap.size < base/\RR base w8 (.slice q8 C.length k8) C)/\IsC C (eN m [(42,42)] false)):=⟨X6.out.1.kept h4,X6.out.2.1.then h4,X6.out.2.2.1.kept h4 (aA X6.out.2.2.1),⟨_,X6.out.2.2.2.2,h5⟩,h6⟩;obtain⟨z0,z1,z2,z3,z4,z5,z6,y0,y1,y2,y3,y4,y5,y6⟩:=X8.out.2.2.1.all;clear h4 h5 h6)
  obtain⟨bs,hbs,hrr⟩:=X8.out.2.2.2.1
  refine bodyPost_ret (v:=tkV (bJ m [(42,42)] false) 0 0 (.slice q8 C.length k8)) (by obtain⟨e0,e1,e2,e3,e4,e5,e6⟩:=aR X8.out.2.2.1 (.int .i64 1) (.int .i64 0) (.int .i64 0) (.int .i64 0) (.int .i64 0) (.int .i64 0) (.slice q8 C.length k8);simp [results,Tryz.results106,go_sem,tkV,bJ,e0,e1,e2,e3,e4,e5,e6]) rfl ?_
  exact .is (fr7 X8.out.2.1 (.inr lz9) _ _ _ _ _ _ _) (RD.fr (S:=fun k=>k=w.heap.size) X8.out.1 (fr7 (S:=fun k=>k=w.heap.size) (Fr.refl _ _) (.inl rfl) _ _ _ _ _ _ _) (by omega)) ⟨_,C,rfl,RR.mono (rr7 hrr hbs _ _ _ _ _ _ _) (Nat.le_of_lt hbs),X8.out.2.2.2.2⟩
 ·have hfit:(0:Int)<=94/\(94:Int)<=1114111:=by omega
  change Calls Tryz.prog 106 #[.pointer (some ⟨b,0,none⟩)] w (Outs w b s m tv (cR w.heap.size) (.ok (bJ m [(94,94)] false,qq)))
  go_enter Tryz.func106,Tryz.ntmps106
  go_wp2_with first
   |(go_at_call 113;refine(eT 94 _).mono ?_;rintro e w6 ⟨v6,rfl,h6,h7⟩;obtain⟨q6,k6,rfl⟩:=h6.shape;have X6:Hid (RD w6 b s m qq tv/\Fr (At b) w w6/\TZ w6 w.heap.size/\ArgR w6 (.slice q6 1 k6) [(94,94)]/\w.heap.size < w6.heap.size):=⟨R1.out.kept h7,F1.out.then h7,Z1.out.kept h7 (aA Z1.out),h6.arg,aA (Z1.out.kept h7 (aA Z1.out))⟩;clear h6 h7)
   |(go_at_call 111;refine(iA X6.out.1 X6.out.2.2.2.1 (cS hfit hfit) (by simp) false).mono ?_;rintro e w8 ⟨v8,he,⟨rv,C,hv,h5,h6⟩,h4⟩;obtain⟨q8,k8,hsh⟩:=h5.shape;rw [dJ] at hv;subst hsh;subst hv;subst he;have X8:Hid (RD w8 b s m qq tv/\Fr (At b) w w8/\TZ w8 w.heap.size/\(∃ base,w.heap.size < base/\RR base w8 (.slice q8 C.length k8) C)/\IsC C (eN m [(94,94)] false)):=⟨X6.out.1.kept h4,X6.out.2.1.then h4,X6.out.2.2.1.kept h4 (aA X6.out.2.2.1),⟨_,X6.out.2.2.2.2,h5⟩,h6⟩;obtain⟨z0,z1,z2,z3,z4,z5,z6,y0,y1,y2,y3,y4,y5,y6⟩:=X8.out.2.2.1.all;clear h4 h5 h6)
  obtain⟨bs,hbs,hrr⟩:=X8.out.2.2.2.1
  refine bodyPost_ret (v:=tkV (bJ m [(94,94)] false) 0 0 (.slice q8 C.length k8)) (by obtain⟨e0,e1,e2,e3,e4,e5,e6⟩:=aR X8.out.2.2.1 (.int .i64 1) (.int .i64 0) (.int .i64 0) (.int .i64 0) (.int .i64 0) (.int .i64 0) (.slice q8 C.length k8);simp [results,Tryz.results106,go_sem,tkV,bJ,e0,e1,e2,e3,e4,e5,e6]) rfl ?_
  exact .is (fr7 X8.out.2.1 (.inr lz9) _ _ _ _ _ _ _) (RD.fr (S:=fun k=>k=w.heap.size) X8.out.1 (fr7 (S:=fun k=>k=w.heap.size) (Fr.refl _ _) (.inl rfl) _ _ _ _ _ _ _) (by omega)) ⟨_,C,rfl,RR.mono (rr7 hrr hbs _ _ _ _ _ _ _) (Nat.le_of_lt hbs),X8.out.2.2.2.2⟩
 ·have hfit:(0:Int)<=36/\(36:Int)<=1114111:=by omega
  change Calls Tryz.prog 106 #[.pointer (some ⟨b,0,none⟩)] w (Outs w b s m tv (cR w.heap.size) (.ok (bJ m [(36,36)] false,qq)))
  go_enter Tryz.func106,Tryz.ntmps106
  go_wp2_with first
   |(go_at_call 113;refine(eT 36 _).mono ?_;rintro e w6 ⟨v6,rfl,h6,h7⟩;obtain⟨q6,k6,rfl⟩:=h6.shape;have X6:Hid (RD w6 b s m qq tv/\Fr (At b) w w6/\TZ w6 w.heap.size/\ArgR w6 (.slice q6 1 k6) [(36,36)]/\w.heap.size < w6.heap.size):=⟨R1.out.kept h7,F1.out.then h7,Z1.out.kept h7 (aA Z1.out),h6.arg,aA (Z1.out.kept h7 (aA Z1.out))⟩;clear h6 h7)
   |(go_at_call 111;refine(iA X6.out.1 X6.out.2.2.2.1 (cS hfit hfit) (by simp) false).mono ?_;rintro e w8 ⟨v8,he,⟨rv,C,hv,h5,h6⟩,h4⟩;obtain⟨q8,k8,hsh⟩:=h5.shape;rw [dJ] at hv;subst hsh;subst hv;subst he;have X8:Hid (RD w8 b s m qq tv/\Fr (At b) w w8/\TZ w8 w.heap.size/\(∃ base,w.heap.size < base/\RR base w8 (.slice q8 C.length k8) C)/\IsC C (eN m [(36,36)] false)):=⟨X6.out.1.kept h4,X6.out.2.1.then h4,X6.out.2.2.1.kept h4 (aA X6.out.2.2.1),⟨_,X6.out.2.2.2.2,h5⟩,h6⟩;obtain⟨z0,z1,z2,z3,z4,z5,z6,y0,y1,y2,y3,y4,y5,y6⟩:=X8.out.2.2.1.all;clear h4 h5 h6)
  obtain⟨bs,hbs,hrr⟩:=X8.out.2.2.2.1
  refine bodyPost_ret (v:=tkV (bJ m [(36,36)] false) 0 0 (.slice q8 C.length k8)) (by obtain⟨e0,e1,e2,e3,e4,e5,e6⟩:=aR X8.out.2.2.1 (.int .i64 1) (.int .i64 0) (.int .i64 0) (.int .i64 0) (.int .i64 0) (.int .i64 0) (.slice q8 C.length k8);simp [results,Tryz.results106,go_sem,tkV,bJ,e0,e1,e2,e3,e4,e5,e6]) rfl ?_
  exact .is (fr7 X8.out.2.1 (.inr lz9) _ _ _ _ _ _ _) (RD.fr (S:=fun k=>k=w.heap.size) X8.out.1 (fr7 (S:=fun k=>k=w.heap.size) (Fr.refl _ _) (.inl rfl) _ _ _ _ _ _ _) (by omega)) ⟨_,C,rfl,RR.mono (rr7 hrr hbs _ _ _ _ _ _ _) (Nat.le_of_lt hbs),X8.out.2.2.2.2⟩
 ·have hfit:(0:Int)<=92/\(92:Int)<=1114111:=by omega
  change Calls Tryz.prog 106 #[.pointer (some ⟨b,0,none⟩)] w (Outs w b s m tv (cR w.heap.size) (.ok (bJ m [(92,92)] false,qq)))
  go_enter Tryz.func106,Tryz.ntmps106
  go_wp2_with first
   |(go_at_call 113;refine(eT 92 _).mono ?_;rintro e w6 ⟨v6,rfl,h6,h7⟩;obtain⟨q6,k6,rfl⟩:=h6.shape;have X6:Hid (RD w6 b s m qq tv/\Fr (At b) w w6/\TZ w6 w.heap.size/\ArgR w6 (.slice q6 1 k6) [(92,92)]/\w.heap.size < w6.heap.size):=⟨R1.out.kept h7,F1.out.then h7,Z1.out.kept h7 (aA Z1.out),h6.arg,aA (Z1.out.kept h7 (aA Z1.out))⟩;clear h6 h7)
   |(go_at_call 111;refine(iA X6.out.1 X6.out.2.2.2.1 (cS hfit hfit) (by simp) false).mono ?_;rintro e w8 ⟨v8,he,⟨rv,C,hv,h5,h6⟩,h4⟩;obtain⟨q8,k8,hsh⟩:=h5.shape;rw [dJ] at hv;subst hsh;subst hv;subst he;have X8:Hid (RD w8 b s m qq tv/\Fr (At b) w w8/\TZ w8 w.heap.size/\(∃ base,w.heap.size < base/\RR base w8 (.slice q8 C.length k8) C)/\IsC C (eN m [(92,92)] false)):=⟨X6.out.1.kept h4,X6.out.2.1.then h4,X6.out.2.2.1.kept h4 (aA X6.out.2.2.1),⟨_,X6.out.2.2.2.2,h5⟩,h6⟩;obtain⟨z0,z1,z2,z3,z4,z5,z6,y0,y1,y2,y3,y4,y5,y6⟩:=X8.out.2.2.1.all;clear h4 h5 h6)
  obtain⟨bs,hbs,hrr⟩:=X8.out.2.2.2.1
  refine bodyPost_ret (v:=tkV (bJ m [(92,92)] false) 0 0 (.slice q8 C.length k8)) (by obtain⟨e0,e1,e2,e3,e4,e5,e6⟩:=aR X8.out.2.2.1 (.int .i64 1) (.int .i64 0) (.int .i64 0) (.int .i64 0) (.int .i64 0) (.int .i64 0) (.slice q8 C.length k8);simp [results,Tryz.results106,go_sem,tkV,bJ,e0,e1,e2,e3,e4,e5,e6]) rfl ?_
  exact .is (fr7 X8.out.2.1 (.inr lz9) _ _ _ _ _ _ _) (RD.fr (S:=fun k=>k=w.heap.size) X8.out.1 (fr7 (S:=fun k=>k=w.heap.size) (Fr.refl _ _) (.inl rfl) _ _ _ _ _ _ _) (by omega)) ⟨_,C,rfl,RR.mono (rr7 hrr hbs _ _ _ _ _ _ _) (Nat.le_of_lt hbs),X8.out.2.2.2.2⟩
 ·have hfit:(0:Int)<=47/\(47:Int)<=1114111:=by omega
  change Calls Tryz.prog 106 #[.pointer (some ⟨b,0,none⟩)] w (Outs w b s m tv (cR w.heap.size) (.ok (bJ m [(47,47)] false,qq)))
  go_enter Tryz.func106,Tryz.ntmps106
  go_wp2_with first
   |(go_at_call 113;refine(eT 47 _).mono ?_;rintro e w6 ⟨v6,rfl,h6,h7⟩;obtain⟨q6,k6,rfl⟩:=h6.shape;have X6:Hid (RD w6 b s m qq tv/\Fr (At b) w w6/\TZ w6 w.heap.size/\ArgR w6 (.slice q6 1 k6) [(47,47)]/\w.heap.size < w6.heap.size):=⟨R1.out.kept h7,F1.out.then h7,Z1.out.kept h7 (aA Z1.out),h6.arg,aA (Z1.out.kept h7 (aA Z1.out))⟩;clear h6 h7)
   |(go_at_call 111;refine(iA X6.out.1 X6.out.2.2.2.1 (cS hfit hfit) (by simp) false).mono ?_;rintro e w8 ⟨v8,he,⟨rv,C,hv,h5,h6⟩,h4⟩;obtain⟨q8,k8,hsh⟩:=h5.shape;rw [dJ] at hv;subst hsh;subst hv;subst he;have X8:Hid (RD w8 b s m qq tv/\Fr (At b) w w8/\TZ w8 w.heap.size/\(∃ base,w.heap.size < base/\RR base w8 (.slice q8 C.length k8) C)/\IsC C (eN m [(47,47)] false)):=⟨X6.out.1.kept h4,X6.out.2.1.then h4,X6.out.2.2.1.kept h4 (aA X6.out.2.2.1),⟨_,X6.out.2.2.2.2,h5⟩,h6⟩;obtain⟨z0,z1,z2,z3,z4,z5,z6,y0,y1,y2,y3,y4,y5,y6⟩:=X8.out.2.2.1.all;clear h4 h5 h6)
  obtain⟨bs,hbs,hrr⟩:=X8.out.2.2.2.1
  refine bodyPost_ret (v:=tkV (bJ m [(47,47)] false) 0 0 (.slice q8 C.length k8)) (by obtain⟨e0,e1,e2,e3,e4,e5,e6⟩:=aR X8.out.2.2.1 (.int .i64 1) (.int .i64 0) (.int .i64 0) (.int .i64 0) (.int .i64 0) (.int .i64 0) (.slice q8 C.length k8);simp [results,Tryz.results106,go_sem,tkV,bJ,e0,e1,e2,e3,e4,e5,e6]) rfl ?_
  exact .is (fr7 X8.out.2.1 (.inr lz9) _ _ _ _ _ _ _) (RD.fr (S:=fun k=>k=w.heap.size) X8.out.1 (fr7 (S:=fun k=>k=w.heap.size) (Fr.refl _ _) (.inl rfl) _ _ _ _ _ _ _) (by omega)) ⟨_,C,rfl,RR.mono (rr7 hrr hbs _ _ _ _ _ _ _) (Nat.le_of_lt hbs),X8.out.2.2.2.2⟩
end Go.Proofs.YticfnglebbakkaaGreatDoor
