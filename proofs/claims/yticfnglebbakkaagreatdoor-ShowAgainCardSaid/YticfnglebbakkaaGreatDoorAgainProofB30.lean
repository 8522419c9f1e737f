/-
  Parts of the proof.
-/
import Derived.Test.YticfnglebbakkaaGreatDoorAgainProofB28
set_option maxRecDepth 100000
set_option maxHeartbeats 8000000
namespace Go.Proofs.YticfnglebbakkaaGreatDoor
open Go Go.RowKit
attribute [local go_sem] aV
theorem bE1(m:Md)(s:ByteArray)(p last:Nat)(h1:¬ p+1=s.size)(hx:bt s (p+1)=43\/bt s (p+1)=63\/bt s (p+1)=123):esc m s p last=zK s p last (bt s (p+1)):=by
 unfold esc zK
 rw [if_neg h1,if_neg (by omega),if_neg (by omega),if_neg (by omega),if_neg (by omega),if_pos hx]
theorem bD9(m:Md)(s:ByteArray)(p last:Nat)(h1:¬ p+1=s.size)(hx:bt s (p+1)=46\/bt s (p+1)=91\/bt s (p+1)=93\/bt s (p+1)=42\/bt s (p+1)=94\/bt s (p+1)=36\/bt s (p+1)=92\/bt s (p+1)=47):esc m s p last=.ok (bJ m [((bt s (p+1):Int),(bt s (p+1):Int))] false,p+2):=by
 unfold esc
 rw [if_neg h1,if_neg (by omega),if_neg (by omega),if_neg (by omega),if_neg (by omega),if_neg (by omega),if_pos hx]
theorem aV1(m:Md)(s:ByteArray)(p last:Nat)(h1:¬ p+1=s.size)(hx:49<=bt s (p+1)/\bt s (p+1)<=57):esc m s p last=.ok (cZ (bt s (p+1) - 48),p+2):=by
 unfold esc
 rw [if_neg h1,if_neg (by omega),if_neg (by omega),if_neg (by omega),if_pos hx]
theorem aB2{w:World}{b:Nat}{s:ByteArray}{m:Md}{p last:Nat}{tv:Value}(h:RD w b s m p tv)(hs:s.size<=2000)(he:p+1=s.size) :
  Calls Tryz.prog 106 #[.pointer (some ⟨b,0,none⟩)] w (Outs w b s m tv (cR w.heap.size) (esc m s p last)):=by
 have lb:=h.lt
 have c0:=h.c0
 have c3:=h.c3
 have f3:=h.frz 3
 have hbz:¬ b=w.heap.size:=by omega
 have w1:IntKind.wrap .i64 ((p:Int)+1)=(p:Int)+1:=wrap_small _ (by omega) (by omega)
 have w2:IntKind.wrap .i64 ((p:Int)+2)=(p:Int)+2:=wrap_small _ (by omega) (by omega)
 have d0:((p:Int)+1==(s.size:Int))=true:=by simp;omega
 unfold esc
 rw [if_pos he]
 clear h he f3
 go_enter Tryz.func106,Tryz.ntmps106
 go_wp2_with first
  |(go_at_call 65;refine(bX 31 p _).mono ?_;rintro e w11 ⟨rfl,h6,h7⟩;have X11:Hid (bI w11 (w.heap.size+1) 31 p/\Below (w.alloc cE).heap.size (w.alloc cE) w11):=⟨by simpa using h6,h7⟩;clear h6 h7)
 exact⟨rfl,.err (Fr.of_below (aD ((Below.refl _ _).alloc lz9 cE) X11.out.2 lz9)) (by omega) X11.out.1⟩
theorem kH{w:World}{b:Nat}{s:ByteArray}{m:Md}{p:Nat}{tv:Value}(h:RD w b s m p tv)(hp:p < s.size)(hs:s.size<=2000)(he:¬ p+1=s.size)(k x:Nat)(hx:x=40/\k=3\/x=41/\k=4\/x=124/\k=5)(hbx:bt s (p+1)=x) :
  Calls Tryz.prog 106 #[.pointer (some ⟨b,0,none⟩)] w (Outs w b s m tv (cR w.heap.size) (.ok (kT k,p+2))):=by
 have lb:=h.lt
 have c0:=h.c0
 have c3:=h.c3
 have f3:=h.frz 3
 have hbz:¬ b=w.heap.size:=by omega
 have w1:IntKind.wrap .i64 ((p:Int)+1)=(p:Int)+1:=wrap_small _ (by omega) (by omega)
 have w2:IntKind.wrap .i64 ((p:Int)+2)=(p:Int)+2:=wrap_small _ (by omega) (by omega)
 have R1:Hid (RD ((w.setCell ⟨b,3,none⟩ (.int .i64 ((p:Int)+2))).alloc cE) b s m (p+2) tv):=RD.kept (h.to (p+2) (by omega)) (bz9)
 have F1:Hid (Fr (At b) w ((w.setCell ⟨b,3,none⟩ (.int .i64 ((p:Int)+2))).alloc cE)):=Fr.alloc (Fr.setCell (S:=At b) (Fr.refl _ _) (p:=⟨b,3,none⟩) rfl _) _
 have hz:(w.setCell ⟨b,3,none⟩ (.int .i64 ((p:Int)+2))).heap.size=w.heap.size:=by simp
 have Z1:Hid (TZ ((w.setCell ⟨b,3,none⟩ (.int .i64 ((p:Int)+2))).alloc cE) w.heap.size):=by
  have:=TZ.new (w.setCell ⟨b,3,none⟩ (.int .i64 ((p:Int)+2)))
  rw [hz] at this
  exact this
 have L1:Hid (w.heap.size < ((w.setCell ⟨b,3,none⟩ (.int .i64 ((p:Int)+2))).alloc cE).heap.size):=aA Z1.out
 have d0:((p:Int)+1==(s.size:Int))=false:=by simp;omega
 have hlt:p+1 < s.size:=by omega
 have i0:(0:Int)<=(p:Int)+1:=by omega
 have i1:(p:Int)+1 < (s.size:Int):=by omega
 have n1:((p:Int)+1).toNat=p+1:=by omega
 have hix:=mF s (p+1) hlt
 rw [hbx] at hix
 have R2:Hid (RD (w.setCell ⟨b,3,none⟩ (.int .i64 ((p:Int)+2))) b s m (p+2) tv):=h.to (p+2) (by omega)
 clear h he hbx hz
 rcases hx with⟨rfl,rfl⟩ | ⟨rfl,rfl⟩ | ⟨rfl,rfl⟩
 ·go_enter Tryz.func106,Tryz.ntmps106
  go_wp2
  refine bodyPost_ret (v:=tkV (kT 3) 0 0 (.slice none 0 0)) (by simp [results,Tryz.results106,go_sem,tkV,kT]) rfl ?_
  exact .is (Fr.alloc (Fr.setCell (S:=At b) (Fr.refl _ _) (p:=⟨b,3,none⟩) rfl _) _) (R2.out.kept (bz9)) (bR _ _ rfl)
 ·go_enter Tryz.func106,Tryz.ntmps106
  go_wp2
  refine bodyPost_ret (v:=tkV (kT 4) 0 0 (.slice none 0 0)) (by simp [results,Tryz.results106,go_sem,tkV,kT]) rfl ?_
  exact .is (Fr.alloc (Fr.setCell (S:=At b) (Fr.refl _ _) (p:=⟨b,3,none⟩) rfl _) _) (R2.out.kept (bz9)) (bR _ _ rfl)
 ·go_enter Tryz.func106,Tryz.ntmps106
  go_wp2
  refine bodyPost_ret (v:=tkV (kT 5) 0 0 (.slice none 0 0)) (by simp [results,Tryz.results106,go_sem,tkV,kT]) rfl ?_
  exact .is (Fr.alloc (Fr.setCell (S:=At b) (Fr.refl _ _) (p:=⟨b,3,none⟩) rfl _) _) (R2.out.kept (bz9)) (bR _ _ rfl)
theorem xP{w:World}{b:Nat}{s:ByteArray}{m:Md}{p:Nat}{tv:Value}(h:RD w b s m p tv)(hp:p < s.size)(hs:s.size<=2000)(he:¬ p+1=s.size)(n:Nat)(hn:1<=n/\n<=9)(hbx:bt s (p+1)=48+n) :
  Calls Tryz.prog 106 #[.pointer (some ⟨b,0,none⟩)] w (Outs w b s m tv (cR w.heap.size) (.ok (cZ n,p+2))):=by
 have lb:=h.lt
 have c0:=h.c0
 have c3:=h.c3
 have f3:=h.frz 3
 have hbz:¬ b=w.heap.size:=by omega
 have w1:IntKind.wrap .i64 ((p:Int)+1)=(p:Int)+1:=wrap_small _ (by omega) (by omega)
 have w2:IntKind.wrap .i64 ((p:Int)+2)=(p:Int)+2:=wrap_small _ (by omega) (by omega)
 have R1:Hid (RD ((w.setCell ⟨b,3,none⟩ (.int .i64 ((p:Int)+2))).alloc cE) b s m (p+2) tv):=RD.kept (h.to (p+2) (by omega)) (bz9)
 have F1:Hid (Fr (At b) w ((w.setCell ⟨b,3,none⟩ (.int .i64 ((p:Int)+2))).alloc cE)):=Fr.alloc (Fr.setCell (S:=At b) (Fr.refl _ _) (p:=⟨b,3,none⟩) rfl _) _
 have hz:(w.setCell ⟨b,3,none⟩ (.int .i64 ((p:Int)+2))).heap.size=w.heap.size:=by simp
 have Z1:Hid (TZ ((w.setCell ⟨b,3,none⟩ (.int .i64 ((p:Int)+2))).alloc cE) w.heap.size):=by
  have:=TZ.new (w.setCell ⟨b,3,none⟩ (.int .i64 ((p:Int)+2)))
  rw [hz] at this
  exact this
 have L1:Hid (w.heap.size < ((w.setCell ⟨b,3,none⟩ (.int .i64 ((p:Int)+2))).alloc cE).heap.size):=aA Z1.out
 have d0:((p:Int)+1==(s.size:Int))=false:=by simp;omega
 have hlt:p+1 < s.size:=by omega
 have i0:(0:Int)<=(p:Int)+1:=by omega
 have i1:(p:Int)+1 < (s.size:Int):=by omega
 have n1:((p:Int)+1).toNat=p+1:=by omega
 have hix:=mF s (p+1) hlt
 rw [hbx] at hix
 have R2:Hid (RD (w.setCell ⟨b,3,none⟩ (.int .i64 ((p:Int)+2))) b s m (p+2) tv):=h.to (p+2) (by omega)
 clear h he hbx hz
 have hn':n=1\/n=2\/n=3\/n=4\/n=5\/n=6\/n=7\/n=8\/n=9:=by omega
 clear hn
 rcases hn' with rfl | rfl | rfl | rfl | rfl | rfl | rfl | rfl | rfl
 ·go_enter Tryz.func106,Tryz.ntmps106
  go_wp2
  refine bodyPost_ret (v:=tkV (cZ 1) 0 0 (.slice none 0 0)) (by simp [results,Tryz.results106,go_sem,tkV,cZ]) rfl ?_
  exact .is (Fr.alloc (Fr.setCell (S:=At b) (Fr.refl _ _) (p:=⟨b,3,none⟩) rfl _) _) (R2.out.kept (bz9)) (bR _ _ rfl)
 ·go_enter Tryz.func106,Tryz.ntmps106
  go_wp2
  refine bodyPost_ret (v:=tkV (cZ 2) 0 0 (.slice none 0 0)) (by simp [results,Tryz.results106,go_sem,tkV,cZ]) rfl ?_
  exact .is (Fr.alloc (Fr.setCell (S:=At b) (Fr.refl _ _) (p:=⟨b,3,none⟩) rfl _) _) (R2.out.kept (bz9)) (bR _ _ rfl)
 ·go_enter Tryz.func106,Tryz.ntmps106
  go_wp2
  refine bodyPost_ret (v:=tkV (cZ 3) 0 0 (.slice none 0 0)) (by simp [results,Tryz.results106,go_sem,tkV,cZ]) rfl ?_
  exact .is (Fr.alloc (Fr.setCell (S:=At b) (Fr.refl _ _) (p:=⟨b,3,none⟩) rfl _) _) (R2.out.kept (bz9)) (bR _ _ rfl)
 ·go_enter Tryz.func106,Tryz.ntmps106
  go_wp2
  refine bodyPost_ret (v:=tkV (cZ 4) 0 0 (.slice none 0 0)) (by simp [results,Tryz.results106,go_sem,tkV,cZ]) rfl ?_
  exact .is (Fr.alloc (Fr.setCell (S:=At b) (Fr.refl _ _) (p:=⟨b,3,none⟩) rfl _) _) (R2.out.kept (bz9)) (bR _ _ rfl)
 ·go_enter Tryz.func106,Tryz.ntmps106
  go_wp2
  refine bodyPost_ret (v:=tkV (cZ 5) 0 0 (.slice none 0 0)) (by simp [results,Tryz.results106,go_sem,tkV,cZ]) rfl ?_
  exact .is (Fr.alloc (Fr.setCell (S:=At b) (Fr.refl _ _) (p:=⟨b,3,none⟩) rfl _) _) (R2.out.kept (bz9)) (bR _ _ rfl)
 ·go_enter Tryz.func106,Tryz.ntmps106
  go_wp2
  refine bodyPost_ret (v:=tkV (cZ 6) 0 0 (.slice none 0 0)) (by simp [results,Tryz.results106,go_sem,tkV,cZ]) rfl ?_
  exact .is (Fr.alloc (Fr.setCell (S:=At b) (Fr.refl _ _) (p:=⟨b,3,none⟩) rfl _) _) (R2.out.kept (bz9)) (bR _ _ rfl)
 ·go_enter Tryz.func106,Tryz.ntmps106
  go_wp2
  refine bodyPost_ret (v:=tkV (cZ 7) 0 0 (.slice none 0 0)) (by simp [results,Tryz.results106,go_sem,tkV,cZ]) rfl ?_
  exact .is (Fr.alloc (Fr.setCell (S:=At b) (Fr.refl _ _) (p:=⟨b,3,none⟩) rfl _) _) (R2.out.kept (bz9)) (bR _ _ rfl)
 ·go_enter Tryz.func106,Tryz.ntmps106
  go_wp2
  refine bodyPost_ret (v:=tkV (cZ 8) 0 0 (.slice none 0 0)) (by simp [results,Tryz.results106,go_sem,tkV,cZ]) rfl ?_
  exact .is (Fr.alloc (Fr.setCell (S:=At b) (Fr.refl _ _) (p:=⟨b,3,none⟩) rfl _) _) (R2.out.kept (bz9)) (bR _ _ rfl)
 ·go_enter Tryz.func106,Tryz.ntmps106
  go_wp2
  refine bodyPost_ret (v:=tkV (cZ 9) 0 0 (.slice none 0 0)) (by simp [results,Tryz.results106,go_sem,tkV,cZ]) rfl ?_
  exact .is (Fr.alloc (Fr.setCell (S:=At b) (Fr.refl _ _) (p:=⟨b,3,none⟩) rfl _) _) (R2.out.kept (bz9)) (bR _ _ rfl)
theorem aB1{w:World}{b:Nat}{s:ByteArray}{m:Md}{p last:Nat}{tv:Value}(h:RD w b s m p tv)(hk:LK w b tv last)(hp:p < s.size)(hs:s.size<=2000)(he:¬ p+1=s.size)(x:Nat)(hx:x=43\/x=63\/x=123)(hbx:bt s (p+1)=x) :
  Calls Tryz.prog 106 #[.pointer (some ⟨b,0,none⟩)] w (Outs w b s m tv (cR w.heap.size) (zK s p last x)):=by
 have lb:=h.lt
 have c0:=h.c0
 have c3:=h.c3
 have f3:=h.frz 3
 have hbz:¬ b=w.heap.size:=by omega
 have w1:IntKind.wrap .i64 ((p:Int)+1)=(p:Int)+1:=wrap_small _ (by omega) (by omega)
 have w2:IntKind.wrap .i64 ((p:Int)+2)=(p:Int)+2:=wrap_small _ (by omega) (by omega)
 have R1:Hid (RD ((w.setCell ⟨b,3,none⟩ (.int .i64 ((p:Int)+2))).alloc cE) b s m (p+2) tv):=RD.kept (h.to (p+2) (by omega)) (bz9)
 have F1:Hid (Fr (At b) w ((w.setCell ⟨b,3,none⟩ (.int .i64 ((p:Int)+2))).alloc cE)):=Fr.alloc (Fr.setCell (S:=At b) (Fr.refl _ _) (p:=⟨b,3,none⟩) rfl _) _
 have hz:(w.setCell ⟨b,3,none⟩ (.int .i64 ((p:Int)+2))).heap.size=w.heap.size:=by simp
 have Z1:Hid (TZ ((w.setCell ⟨b,3,none⟩ (.int .i64 ((p:Int)+2))).alloc cE) w.heap.size):=by
  have:=TZ.new (w.setCell ⟨b,3,none⟩ (.int .i64 ((p:Int)+2)))
  rw [hz] at this
  exact this
 have L1:Hid (w.heap.size < ((w.setCell ⟨b,3,none⟩ (.int .i64 ((p:Int)+2))).alloc cE).heap.size):=aA Z1.out
 have d0:((p:Int)+1==(s.size:Int))=false:=by simp;omega
 have hlt:p+1 < s.size:=by omega
 have i0:(0:Int)<=(p:Int)+1:=by omega
 have i1:(p:Int)+1 < (s.size:Int):=by omega
 have n1:((p:Int)+1).toNat=p+1:=by omega
 have hix:=mF s (p+1) hlt
 rw [hbx] at hix
 have K1:Hid (LK ((w.setCell ⟨b,3,none⟩ (.int .i64 ((p:Int)+2))).alloc cE) b tv last):=hk.fr F1.out
 have HR:Hid (∀ W,RD W b s m (p+2) tv->LK W b tv last->Calls Tryz.prog 144 #[.pointer (some ⟨b,0,none⟩),.int .i64 (p:Int),.int .u8 (x:Int)] W (Outs W b s m tv (cR W.heap.size) (zK s p last x))):=fun W h1 h2=>tP h1 h2 (by omega) hs x hx
 clear h hk he hbx hz
 generalize zK s p last x=res at *
 cases res with
 | error y=>
  rcases hx with rfl | rfl | rfl
  ·go_enter Tryz.func106,Tryz.ntmps106
   go_wp2_with first
    |(go_at_call 144;(refine(HR.out _ R1.out K1.out).mono ?_);rintro e w8 ⟨h1,g,h2,rfl,h4⟩)
   exact⟨rfl,.err (F1.out.trans h1) (Nat.le_trans F1.out.size h2) h4⟩
  ·go_enter Tryz.func106,Tryz.ntmps106
   go_wp2_with first
    |(go_at_call 144;(refine(HR.out _ R1.out K1.out).mono ?_);rintro e w8 ⟨h1,g,h2,rfl,h4⟩)
   exact⟨rfl,.err (F1.out.trans h1) (Nat.le_trans F1.out.size h2) h4⟩
  ·go_enter Tryz.func106,Tryz.ntmps106
   go_wp2_with first
    |(go_at_call 144;(refine(HR.out _ R1.out K1.out).mono ?_);rintro e w8 ⟨h1,g,h2,rfl,h4⟩)
   exact⟨rfl,.err (F1.out.trans h1) (Nat.le_trans F1.out.size h2) h4⟩
 | ok y=>
  obtain⟨tt,qq⟩:=y
  rcases hx with rfl | rfl | rfl
  ·go_enter Tryz.func106,Tryz.ntmps106
   go_wp2_with first
    |(go_at_call 144;(refine(HR.out _ R1.out K1.out).mono ?_);rintro e w8 ⟨h1,v8,rfl,h2,rv,C,hv,h5,h6⟩;obtain⟨q8,k8,hsh⟩:=h5.shape;subst hsh;unfold tkV at hv;subst hv;have X8:Hid (RD w8 b s m qq tv/\Fr (At b) w w8/\TZ w8 w.heap.size/\(∃ base,w.heap.size < base/\RR base w8 (.slice q8 C.length k8) C)/\IsC C tt.q):=⟨h2,F1.out.trans h1,Z1.out.fr h1 (by intro q;have:w.heap.size=b:=q;omega),⟨_,L1.out,h5⟩,h6⟩;obtain⟨z0,z1,z2,z3,z4,z5,z6,y0,y1,y2,y3,y4,y5,y6⟩:=X8.out.2.2.1.all;clear h1 h2 h5 h6)
   obtain⟨bs,hbs,hrr⟩:=X8.out.2.2.2.1
   refine bodyPost_ret (v:=tkV tt 0 0 (.slice q8 C.length k8)) (by obtain⟨e0,e1,e2,e3,e4,e5,e6⟩:=aR X8.out.2.2.1 (.int .i64 (tt.kind:Int)) (.int .i64 0) (.int .i64 0) (.int .i64 (tt.n:Int)) (.int .i64 tt.mn) (.int .i64 tt.mx) (.slice q8 C.length k8);simp [results,Tryz.results106,go_sem,tkV,e0,e1,e2,e3,e4,e5,e6]) rfl ?_
   exact .is (fr7 X8.out.2.1 (.inr lz9) _ _ _ _ _ _ _) (RD.fr (S:=fun k=>k=w.heap.size) X8.out.1 (fr7 (S:=fun k=>k=w.heap.size) (Fr.refl _ _) (.inl rfl) _ _ _ _ _ _ _) (by omega)) ⟨_,C,rfl,RR.mono (rr7 hrr hbs _ _ _ _ _ _ _) (Nat.le_of_lt hbs),X8.out.2.2.2.2⟩
  ·go_enter Tryz.func106,Tryz.ntmps106
   go_wp2_with first
    |(go_at_call 144;(refine(HR.out _ R1.out K1.out).mono ?_);rintro e w8 ⟨h1,v8,rfl,h2,rv,C,hv,h5,h6⟩;obtain⟨q8,k8,hsh⟩:=h5.shape;subst hsh;unfold tkV at hv;subst hv;have X8:Hid (RD w8 b s m qq tv/\Fr (At b) w w8/\TZ w8 w.heap.size/\(∃ base,w.heap.size < base/\RR base w8 (.slice q8 C.length k8) C)/\IsC C tt.q):=⟨h2,F1.out.trans h1,Z1.out.fr h1 (by intro q;have:w.heap.size=b:=q;omega),⟨_,L1.out,h5⟩,h6⟩;obtain⟨z0,z1,z2,z3,z4,z5,z6,y0,y1,y2,y3,y4,y5,y6⟩:=X8.out.2.2.1.all;clear h1 h2 h5 h6)
   obtain⟨bs,hbs,hrr⟩:=X8.out.2.2.2.1
   refine bodyPost_ret (v:=tkV tt 0 0 (.slice q8 C.length k8)) (by obtain⟨e0,e1,e2,e3,e4,e5,e6⟩:=aR X8.out.2.2.1 (.int .i64 (tt.kind:Int)) (.int .i64 0) (.int .i64 0) (.int .i64 (tt.n:Int)) (.int .i64 tt.mn) (.int .i64 tt.mx) (.slice q8 C.length k8);simp [results,Tryz.results106,go_sem,tkV,e0,e1,e2,e3,e4,e5,e6]) rfl ?_
   exact .is (fr7 X8.out.2.1 (.inr lz9) _ _ _ _ _ _ _) (RD.fr (S:=fun k=>k=w.heap.size) X8.out.1 (fr7 (S:=fun k=>k=w.heap.size) (Fr.refl _ _) (.inl rfl) _ _ _ _ _ _ _) (by omega)) ⟨_,C,rfl,RR.mono (rr7 hrr hbs _ _ _ _ _ _ _) (Nat.le_of_lt hbs),X8.out.2.2.2.2⟩
  ·go_enter Tryz.func106,Tryz.ntmps106
   go_wp2_with first
    |(go_at_call 144;(refine(HR.out _ R1.out K1.out).mono ?_);rintro e w8 ⟨h1,v8,rfl,h2,rv,C,hv,h5,h6⟩;obtain⟨q8,k8,hsh⟩:=h5.shape;subst hsh;unfold tkV at hv;subst hv;have X8:Hid (RD w8 b s m qq tv/\Fr (At b) w w8/\TZ w8 w.heap.size/\(∃ base,w.heap.size < base/\RR base w8 (.slice q8 C.length k8) C)/\IsC C tt.q):=⟨h2,F1.out.trans h1,Z1.out.fr h1 (by intro q;have:w.heap.size=b:=q;omega),⟨_,L1.out,h5⟩,h6⟩;obtain⟨z0,z1,z2,z3,z4,z5,z6,y0,y1,y2,y3,y4,y5,y6⟩:=X8.out.2.2.1.all;clear h1 h2 h5 h6)
   obtain⟨bs,hbs,hrr⟩:=X8.out.2.2.2.1
   refine bodyPost_ret (v:=tkV tt 0 0 (.slice q8 C.length k8)) (by obtain⟨e0,e1,e2,e3,e4,e5,e6⟩:=aR X8.out.2.2.1 (.int .i64 (tt.kind:Int)) (.int .i64 0) (.int .i64 0) (.int .i64 (tt.n:Int)) (.int .i64 tt.mn) (.int .i64 tt.mx) (.slice q8 C.length k8);simp [results,Tryz.results106,go_sem,tkV,e0,e1,e2,e3,e4,e5,e6]) rfl ?_
   exact .is (fr7 X8.out.2.1 (.inr lz9) _ _ _ _ _ _ _) (RD.fr (S:=fun k=>k=w.heap.size) X8.out.1 (fr7 (S:=fun k=>k=w.heap.size) (Fr.refl _ _) (.inl rfl) _ _ _ _ _ _ _) (by omega)) ⟨_,C,rfl,RR.mono (rr7 hrr hbs _ _ _ _ _ _ _) (Nat.le_of_lt hbs),X8.out.2.2.2.2⟩
end Go.Proofs.YticfnglebbakkaaGreatDoor
