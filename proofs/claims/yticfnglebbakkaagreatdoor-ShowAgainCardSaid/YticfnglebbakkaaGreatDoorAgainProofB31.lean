/-
  Parts of the proof.
-/
import Derived.Test.YticfnglebbakkaaGreatDoorAgainProofB29
import Derived.Test.YticfnglebbakkaaGreatDoorAgainProofB30
set_option maxRecDepth 100000
set_option maxHeartbeats 8000000
namespace Go.Proofs.YticfnglebbakkaaGreatDoor
open Go Go.RowKit
attribute [local go_sem] aV
theorem xN{w:World}{b:Nat}{s:ByteArray}{m:Md}{p:Nat}{tv:Value}(h:RD w b s m p tv)(hp:p < s.size)(hs:s.size<=2000)(he:¬ p+1=s.size)(hx:∀ c∈[40,41,124,49,50,51,52,53,54,55,56,57,43,63,123,46,91,93,42,94,36,92,47],¬ bt s (p+1)=c) :
  Calls Tryz.prog 106 #[.pointer (some ⟨b,0,none⟩)] w (Outs w b s m tv (cR w.heap.size) (.error (32,p))):=by
 have lb:=h.lt
 have c0:=h.c0
 have c3:=h.c3
 have f3:=h.frz 3
 have hbz:¬ b=w.heap.size:=by omega
 have w1:IntKind.wrap .i64 ((p:Int)+1)=(p:Int)+1:=wrap_small _ (by omega) (by omega)
 have w2:IntKind.wrap .i64 ((p:Int)+2)=(p:Int)+2:=wrap_small _ (by omega) (by omega)
 have R1:Hid (RD ((w.setCell ⟨b,3,none⟩ (.int .i64 ((p:Int)+2))).alloc cE) b s m (p+2) tv):=RD.kept (h.to (p+2) (by omega)) (bz9)
 have F1:Hid (Fr (At b) w ((w.setCell ⟨b,3,none⟩ (.int .i64 ((p:Int)+2))).alloc cE)):=Fr.alloc (Fr.setCell (S:=At b) (Fr.refl _ _) (p:=⟨b,3,none⟩) rfl _) _
 have hz:(w.setCell ⟨b,3,none⟩ (.int .i64 ((p:Int)+2))).heap.size=w.heap.size:=by simp
 have Z1:Hid (TZ ((w.setCell ⟨b,3,none⟩ (.int .i64 ((p:Int)+2))).alloc cE) w.heap.size):=by
  have:=TZ.new (w.setCell ⟨b,3,none⟩ (.int .i64 ((p:Int)+2)))
  rw [hz] at this
  exact this
 have L1:Hid (w.heap.size < ((w.setCell ⟨b,3,none⟩ (.int .i64 ((p:Int)+2))).alloc cE).heap.size):=aA Z1.out
 have d0:((p:Int)+1==(s.size:Int))=false:=by simp;omega
 have hlt:p+1 < s.size:=by omega
 have i0:(0:Int)<=(p:Int)+1:=by omega
 have i1:(p:Int)+1 < (s.size:Int):=by omega
 have n1:((p:Int)+1).toNat=p+1:=by omega
 have hix:=mF s (p+1) hlt
 obtain⟨x,hbx⟩:∃ x,bt s (p+1)=x:=⟨_,rfl⟩
 rw [hbx] at hix hx
 have hxs:s[p+1]'hlt=UInt8.ofNat x:=UInt8.toNat_inj.1 (by have:=oP s (p+1);rw [hix];simp [UInt8.toNat_ofNat'];omega)
 clear hxs
 have e40:((x:Int)==40)=false:=by have:=hx 40 (by simp);simp;omega
 have e41:((x:Int)==41)=false:=by have:=hx 41 (by simp);simp;omega
 have e124:((x:Int)==124)=false:=by have:=hx 124 (by simp);simp;omega
 have e49:((x:Int)==49)=false:=by have:=hx 49 (by simp);simp;omega
 have e50:((x:Int)==50)=false:=by have:=hx 50 (by simp);simp;omega
 have e51:((x:Int)==51)=false:=by have:=hx 51 (by simp);simp;omega
 have e52:((x:Int)==52)=false:=by have:=hx 52 (by simp);simp;omega
 have e53:((x:Int)==53)=false:=by have:=hx 53 (by simp);simp;omega
 have e54:((x:Int)==54)=false:=by have:=hx 54 (by simp);simp;omega
 have e55:((x:Int)==55)=false:=by have:=hx 55 (by simp);simp;omega
 have e56:((x:Int)==56)=false:=by have:=hx 56 (by simp);simp;omega
 have e57:((x:Int)==57)=false:=by have:=hx 57 (by simp);simp;omega
 have e43:((x:Int)==43)=false:=by have:=hx 43 (by simp);simp;omega
 have e63:((x:Int)==63)=false:=by have:=hx 63 (by simp);simp;omega
 have e123:((x:Int)==123)=false:=by have:=hx 123 (by simp);simp;omega
 have e46:((x:Int)==46)=false:=by have:=hx 46 (by simp);simp;omega
 have e91:((x:Int)==91)=false:=by have:=hx 91 (by simp);simp;omega
 have e93:((x:Int)==93)=false:=by have:=hx 93 (by simp);simp;omega
 have e42:((x:Int)==42)=false:=by have:=hx 42 (by simp);simp;omega
 have e94:((x:Int)==94)=false:=by have:=hx 94 (by simp);simp;omega
 have e36:((x:Int)==36)=false:=by have:=hx 36 (by simp);simp;omega
 have e92:((x:Int)==92)=false:=by have:=hx 92 (by simp);simp;omega
 have e47:((x:Int)==47)=false:=by have:=hx 47 (by simp);simp;omega
 clear h he hbx hz hx
 go_enter Tryz.func106,Tryz.ntmps106
 go_wp2_with first
  |(go_at_call 65;refine(bX 32 p _).mono ?_;rintro e w11 ⟨rfl,h6,h7⟩;have X11:Hid (bI w11 (w.heap.size+1) 32 p/\Below ((w.setCell ⟨b,3,none⟩ (.int .i64 ((p:Int)+2))).alloc cE).heap.size ((w.setCell ⟨b,3,none⟩ (.int .i64 ((p:Int)+2))).alloc cE) w11):=⟨by simpa using h6,h7⟩;clear h6 h7)
 exact⟨rfl,.err (F1.out.then X11.out.2) (by omega) X11.out.1⟩
theorem xO{w:World}{b:Nat}{s:ByteArray}{m:Md}{p last:Nat}{tv:Value}(h:RD w b s m p tv)(hk:LK w b tv last)(hp:p < s.size)(hs:s.size<=2000) :
  Calls Tryz.prog 106 #[.pointer (some ⟨b,0,none⟩)] w (Outs w b s m tv (cR w.heap.size) (esc m s p last)):=by
 by_cases he:p+1=s.size
 ·exact aB2 h hs he
 by_cases h1:bt s (p+1)=43\/bt s (p+1)=63\/bt s (p+1)=123
 ·rw [bE1 m s p last he h1]
  exact aB1 h hk hp hs he _ h1 rfl
 by_cases h2:bt s (p+1)=46\/bt s (p+1)=91\/bt s (p+1)=93\/bt s (p+1)=42\/bt s (p+1)=94\/bt s (p+1)=36\/bt s (p+1)=92\/bt s (p+1)=47
 ·rw [bD9 m s p last he h2]
  exact aB0 h hp hs he _ h2 rfl
 by_cases h3:49<=bt s (p+1)/\bt s (p+1)<=57
 ·rw [aV1 m s p last he h3]
  exact xP h hp hs he _ (by omega) (by omega)
 unfold esc
 rw [if_neg he]
 split
 ·rename_i q;exact kH h hp hs he 3 40 (.inl ⟨rfl,rfl⟩) q
 split
 ·rename_i q;exact kH h hp hs he 4 41 (.inr (.inl ⟨rfl,rfl⟩)) q
 split
 ·rename_i q;exact kH h hp hs he 5 124 (.inr (.inr ⟨rfl,rfl⟩)) q
 refine xN h hp hs he fun c hc=>?_
 simp at hc
 omega
end Go.Proofs.YticfnglebbakkaaGreatDoor
