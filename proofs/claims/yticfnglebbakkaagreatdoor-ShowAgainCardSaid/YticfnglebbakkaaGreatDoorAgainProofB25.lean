/-
  Parts of the proof.
-/
import Derived.Test.YticfnglebbakkaaGreatDoorAgainProofB24
set_option maxRecDepth 100000
set_option maxHeartbeats 8000000
namespace Go.Proofs.YticfnglebbakkaaGreatDoor
open Go Go.RowKit
theorem wX(w:World):Calls Tryz.prog 185 #[.string ⟨#[97,108,110,117,109]⟩] w (eM w [(48,57),(65,90),(97,122)]):=by
 obtain⟨t0,ti,hz0,hz1,hz2⟩:=aP bF
 have n0:((⟨#[97,108,110,117,109]⟩:ByteArray)==(⟨#[112,114,105,110,116]⟩:ByteArray))=false:=by decide
 have n1:((⟨#[97,108,110,117,109]⟩:ByteArray)==(⟨#[103,114,97,112,104]⟩:ByteArray))=false:=by decide
 have n2:((⟨#[97,108,110,117,109]⟩:ByteArray)==(⟨#[97,108,110,117,109]⟩:ByteArray))=true:=by decide
 have n3:((⟨#[97,108,110,117,109]⟩:ByteArray)==(⟨#[97,108,112,104,97]⟩:ByteArray))=false:=by decide
 have n4:((⟨#[97,108,110,117,109]⟩:ByteArray)==(⟨#[108,111,119,101,114]⟩:ByteArray))=false:=by decide
 have n5:((⟨#[97,108,110,117,109]⟩:ByteArray)==(⟨#[120,100,105,103,105,116]⟩:ByteArray))=false:=by decide
 have n6:((⟨#[97,108,110,117,109]⟩:ByteArray)==(⟨#[100,105,103,105,116]⟩:ByteArray))=false:=by decide
 have n7:((⟨#[97,108,110,117,109]⟩:ByteArray)==(⟨#[115,112,97,99,101]⟩:ByteArray))=false:=by decide
 have n8:((⟨#[97,108,110,117,109]⟩:ByteArray)==(⟨#[98,108,97,110,107]⟩:ByteArray))=false:=by decide
 have n9:((⟨#[97,108,110,117,109]⟩:ByteArray)==(⟨#[99,110,116,114,108]⟩:ByteArray))=false:=by decide
 have n10:((⟨#[97,108,110,117,109]⟩:ByteArray)==(⟨#[112,117,110,99,116]⟩:ByteArray))=false:=by decide
 have n11:((⟨#[97,108,110,117,109]⟩:ByteArray)==(⟨#[117,112,112,101,114]⟩:ByteArray))=false:=by decide
 go_enter Tryz.func185,Tryz.ntmps185
 go_wp2_with first
  |(go_at_call 129;have hx:=X3.out;clear hx;refine(bQ X3.out.1.arg (eI (by decide)) (by simp)).mono ?_;rintro e wz ⟨vz,Cz,rfl,h1,h2,h3,h4⟩;have XZ:Hid (RR w3.heap.size wz vz Cz/\IsC Cz (In [(48,57),(65,90),(97,122)])/\Below w3.heap.size w3 wz):=⟨h1,h2,h4⟩;clear h1 h2 h3 h4)
  |(at_builtin;have hx:=X2.out;clear hx;refine wpList_append_own_at _ rfl _ _ 22 rfl w.heap.size 48 t0 (.agg #[.int .i64 0,.int .i64 0]) 2 16 aS ti hz0 hz1 hz2 rfl (by decide) (.slice (some ⟨g2,0,none⟩) 2 c2) 2 (aM [(48,57),(65,90)]) rfl (World.ownsRow.alloc X2.out.1 (.cells #[.int .i64 97,.int .i64 122] 48)) ⟨w2.heap.size,0,none⟩ 1 1 [.int .i64 97,.int .i64 122] rfl rfl (bG _ #[.int .i64 97,.int .i64 122] _) (by simp [Value.oneCell']) (by unfold maxLen;omega) (by omega) (by simp;try omega) ?_;intro v' w3 hown' hgrow _ hblk;obtain⟨g3,c3,rfl⟩:=aH hown' (Nat.succ_pos _);have X3:Hid (RR w.heap.size w3 (.slice (some ⟨g3,0,none⟩) 3 c3) [(48,57),(65,90),(97,122)]/\Below w.heap.size w w3):=⟨hown',aW (Below.alloc X2.out.2 z2 _) (World.ownsRow.alloc X2.out.1 _) hgrow⟩;have z3:w.heap.size<=w3.heap.size:=X3.out.2.size;clear hown' hgrow hblk)
  |(at_builtin;have hx:=X1.out;clear hx;refine wpList_append_own_at _ rfl _ _ 22 rfl w.heap.size 48 t0 (.agg #[.int .i64 0,.int .i64 0]) 2 16 aS ti hz0 hz1 hz2 rfl (by decide) (.slice (some ⟨g1,0,none⟩) 1 c1) 1 (aM [(48,57)]) rfl (World.ownsRow.alloc X1.out.1 (.cells #[.int .i64 65,.int .i64 90] 48)) ⟨w1.heap.size,0,none⟩ 1 1 [.int .i64 65,.int .i64 90] rfl rfl (bG _ #[.int .i64 65,.int .i64 90] _) (by simp [Value.oneCell']) (by unfold maxLen;omega) (by omega) (by simp;try omega) ?_;intro v' w2 hown' hgrow _ hblk;obtain⟨g2,c2,rfl⟩:=aH hown' (Nat.succ_pos _);have X2:Hid (RR w.heap.size w2 (.slice (some ⟨g2,0,none⟩) 2 c2) [(48,57),(65,90)]/\Below w.heap.size w w2):=⟨hown',aW (Below.alloc X1.out.2 z1 _) (World.ownsRow.alloc X1.out.1 _) hgrow⟩;have z2:w.heap.size<=w2.heap.size:=X2.out.2.size;clear hown' hgrow hblk)
  |(at_builtin;refine wpList_append_own_at _ rfl _ _ 22 rfl w.heap.size 48 t0 (.agg #[.int .i64 0,.int .i64 0]) 2 16 aS ti hz0 hz1 hz2 rfl (by decide) (.slice none 0 0) 0 (aM []) rfl (World.ownsRow.alloc (RR.nil _ _) (.cells #[.int .i64 48,.int .i64 57] 48)) ⟨w.heap.size,0,none⟩ 1 1 [.int .i64 48,.int .i64 57] rfl rfl (bG _ #[.int .i64 48,.int .i64 57] _) (by simp [Value.oneCell']) (by unfold maxLen;omega) (by omega) (by simp;try omega) ?_;intro v' w1 hown' hgrow _ hblk;obtain⟨g1,c1,rfl⟩:=aH hown' (Nat.succ_pos _);have X1:Hid (RR w.heap.size w1 (.slice (some ⟨g1,0,none⟩) 1 c1) [(48,57)]/\Below w.heap.size w w1):=⟨hown',aW (Below.alloc (Below.refl _ _) lz9 _) (World.ownsRow.alloc (RR.nil _ _) _) hgrow⟩;have z1:w.heap.size<=w1.heap.size:=X1.out.2.size;clear hown' hgrow hblk)
 go_ret2
 have e:Cz=[(48,57),(65,90),(97,122)]:=XZ.out.2.1.one (gB (by decide) (by decide) (by decide)) fun c=>by(try simp only [bD,cG,or_false]);(try omega)
 exact⟨_,rfl,by rw [<- e];exact XZ.out.1.mono X3.out.2.size,aD X3.out.2 XZ.out.2.2 lz9⟩
theorem wW(w:World):Calls Tryz.prog 185 #[.string ⟨#[97,108,112,104,97]⟩] w (eM w [(65,90),(97,122)]):=by
 obtain⟨t0,ti,hz0,hz1,hz2⟩:=aP bF
 have n0:((⟨#[97,108,112,104,97]⟩:ByteArray)==(⟨#[112,114,105,110,116]⟩:ByteArray))=false:=by decide
 have n1:((⟨#[97,108,112,104,97]⟩:ByteArray)==(⟨#[103,114,97,112,104]⟩:ByteArray))=false:=by decide
 have n2:((⟨#[97,108,112,104,97]⟩:ByteArray)==(⟨#[97,108,110,117,109]⟩:ByteArray))=false:=by decide
 have n3:((⟨#[97,108,112,104,97]⟩:ByteArray)==(⟨#[97,108,112,104,97]⟩:ByteArray))=true:=by decide
 have n4:((⟨#[97,108,112,104,97]⟩:ByteArray)==(⟨#[108,111,119,101,114]⟩:ByteArray))=false:=by decide
 have n5:((⟨#[97,108,112,104,97]⟩:ByteArray)==(⟨#[120,100,105,103,105,116]⟩:ByteArray))=false:=by decide
 have n6:((⟨#[97,108,112,104,97]⟩:ByteArray)==(⟨#[100,105,103,105,116]⟩:ByteArray))=false:=by decide
 have n7:((⟨#[97,108,112,104,97]⟩:ByteArray)==(⟨#[115,112,97,99,101]⟩:ByteArray))=false:=by decide
 have n8:((⟨#[97,108,112,104,97]⟩:ByteArray)==(⟨#[98,108,97,110,107]⟩:ByteArray))=false:=by decide
 have n9:((⟨#[97,108,112,104,97]⟩:ByteArray)==(⟨#[99,110,116,114,108]⟩:ByteArray))=false:=by decide
 have n10:((⟨#[97,108,112,104,97]⟩:ByteArray)==(⟨#[112,117,110,99,116]⟩:ByteArray))=false:=by decide
 have n11:((⟨#[97,108,112,104,97]⟩:ByteArray)==(⟨#[117,112,112,101,114]⟩:ByteArray))=false:=by decide
 go_enter Tryz.func185,Tryz.ntmps185
 go_wp2_with first
  |(go_at_call 129;have hx:=X2.out;clear hx;refine(bQ X2.out.1.arg (eI (by decide)) (by simp)).mono ?_;rintro e wz ⟨vz,Cz,rfl,h1,h2,h3,h4⟩;have XZ:Hid (RR w2.heap.size wz vz Cz/\IsC Cz (In [(65,90),(97,122)])/\Below w2.heap.size w2 wz):=⟨h1,h2,h4⟩;clear h1 h2 h3 h4)
  |(at_builtin;have hx:=X1.out;clear hx;refine wpList_append_own_at _ rfl _ _ 22 rfl w.heap.size 48 t0 (.agg #[.int .i64 0,.int .i64 0]) 2 16 aS ti hz0 hz1 hz2 rfl (by decide) (.slice (some ⟨g1,0,none⟩) 1 c1) 1 (aM [(65,90)]) rfl (World.ownsRow.alloc X1.out.1 (.cells #[.int .i64 97,.int .i64 122] 48)) ⟨w1.heap.size,0,none⟩ 1 1 [.int .i64 97,.int .i64 122] rfl rfl (bG _ #[.int .i64 97,.int .i64 122] _) (by simp [Value.oneCell']) (by unfold maxLen;omega) (by omega) (by simp;try omega) ?_;intro v' w2 hown' hgrow _ hblk;obtain⟨g2,c2,rfl⟩:=aH hown' (Nat.succ_pos _);have X2:Hid (RR w.heap.size w2 (.slice (some ⟨g2,0,none⟩) 2 c2) [(65,90),(97,122)]/\Below w.heap.size w w2):=⟨hown',aW (Below.alloc X1.out.2 z1 _) (World.ownsRow.alloc X1.out.1 _) hgrow⟩;have z2:w.heap.size<=w2.heap.size:=X2.out.2.size;clear hown' hgrow hblk)
  |(at_builtin;refine wpList_append_own_at _ rfl _ _ 22 rfl w.heap.size 48 t0 (.agg #[.int .i64 0,.int .i64 0]) 2 16 aS ti hz0 hz1 hz2 rfl (by decide) (.slice none 0 0) 0 (aM []) rfl (World.ownsRow.alloc (RR.nil _ _) (.cells #[.int .i64 65,.int .i64 90] 48)) ⟨w.heap.size,0,none⟩ 1 1 [.int .i64 65,.int .i64 90] rfl rfl (bG _ #[.int .i64 65,.int .i64 90] _) (by simp [Value.oneCell']) (by unfold maxLen;omega) (by omega) (by simp;try omega) ?_;intro v' w1 hown' hgrow _ hblk;obtain⟨g1,c1,rfl⟩:=aH hown' (Nat.succ_pos _);have X1:Hid (RR w.heap.size w1 (.slice (some ⟨g1,0,none⟩) 1 c1) [(65,90)]/\Below w.heap.size w w1):=⟨hown',aW (Below.alloc (Below.refl _ _) lz9 _) (World.ownsRow.alloc (RR.nil _ _) _) hgrow⟩;have z1:w.heap.size<=w1.heap.size:=X1.out.2.size;clear hown' hgrow hblk)
 go_ret2
 have e:Cz=[(65,90),(97,122)]:=XZ.out.2.1.one (gB (by decide) (by decide) (by decide)) fun c=>by(try simp only [bD,cG,or_false]);(try omega)
 exact⟨_,rfl,by rw [<- e];exact XZ.out.1.mono X2.out.2.size,aD X2.out.2 XZ.out.2.2 lz9⟩
theorem wU(w:World):Calls Tryz.prog 185 #[.string ⟨#[99,110,116,114,108]⟩] w (eM w [(0,31),(127,127)]):=by
 obtain⟨t0,ti,hz0,hz1,hz2⟩:=aP bF
 have n0:((⟨#[99,110,116,114,108]⟩:ByteArray)==(⟨#[112,114,105,110,116]⟩:ByteArray))=false:=by decide
 have n1:((⟨#[99,110,116,114,108]⟩:ByteArray)==(⟨#[103,114,97,112,104]⟩:ByteArray))=false:=by decide
 have n2:((⟨#[99,110,116,114,108]⟩:ByteArray)==(⟨#[97,108,110,117,109]⟩:ByteArray))=false:=by decide
 have n3:((⟨#[99,110,116,114,108]⟩:ByteArray)==(⟨#[97,108,112,104,97]⟩:ByteArray))=false:=by decide
 have n4:((⟨#[99,110,116,114,108]⟩:ByteArray)==(⟨#[108,111,119,101,114]⟩:ByteArray))=false:=by decide
 have n5:((⟨#[99,110,116,114,108]⟩:ByteArray)==(⟨#[120,100,105,103,105,116]⟩:ByteArray))=false:=by decide
 have n6:((⟨#[99,110,116,114,108]⟩:ByteArray)==(⟨#[100,105,103,105,116]⟩:ByteArray))=false:=by decide
 have n7:((⟨#[99,110,116,114,108]⟩:ByteArray)==(⟨#[115,112,97,99,101]⟩:ByteArray))=false:=by decide
 have n8:((⟨#[99,110,116,114,108]⟩:ByteArray)==(⟨#[98,108,97,110,107]⟩:ByteArray))=false:=by decide
 have n9:((⟨#[99,110,116,114,108]⟩:ByteArray)==(⟨#[99,110,116,114,108]⟩:ByteArray))=true:=by decide
 have n10:((⟨#[99,110,116,114,108]⟩:ByteArray)==(⟨#[112,117,110,99,116]⟩:ByteArray))=false:=by decide
 have n11:((⟨#[99,110,116,114,108]⟩:ByteArray)==(⟨#[117,112,112,101,114]⟩:ByteArray))=false:=by decide
 go_enter Tryz.func185,Tryz.ntmps185
 go_wp2_with first
  |(go_at_call 129;have hx:=X2.out;clear hx;refine(bQ X2.out.1.arg (eI (by decide)) (by simp)).mono ?_;rintro e wz ⟨vz,Cz,rfl,h1,h2,h3,h4⟩;have XZ:Hid (RR w2.heap.size wz vz Cz/\IsC Cz (In [(0,31),(127,127)])/\Below w2.heap.size w2 wz):=⟨h1,h2,h4⟩;clear h1 h2 h3 h4)
  |(at_builtin;have hx:=X1.out;clear hx;refine wpList_append_own_at _ rfl _ _ 22 rfl w.heap.size 48 t0 (.agg #[.int .i64 0,.int .i64 0]) 2 16 aS ti hz0 hz1 hz2 rfl (by decide) (.slice none 0 0) 0 (aM []) rfl (World.ownsRow.alloc X1.out.1 (.cells #[.int .i64 0,.int .i64 31,.int .i64 127,.int .i64 127] 48)) ⟨w1.heap.size,0,none⟩ 2 2 [.int .i64 0,.int .i64 31,.int .i64 127,.int .i64 127] rfl rfl (bG _ #[.int .i64 0,.int .i64 31,.int .i64 127,.int .i64 127] _) (by simp [Value.oneCell']) (by unfold maxLen;omega) (by omega) (by simp;try omega) ?_;intro v' w2 hown' hgrow _ hblk;obtain⟨g2,c2,rfl⟩:=aH hown' (Nat.succ_pos _);have X2:Hid (RR w.heap.size w2 (.slice (some ⟨g2,0,none⟩) 2 c2) [(0,31),(127,127)]/\Below w.heap.size w w2):=⟨hown',aW (Below.alloc X1.out.2 z1 _) (World.ownsRow.alloc X1.out.1 _) hgrow⟩;have z2:w.heap.size<=w2.heap.size:=X2.out.2.size;clear hown' hgrow hblk)
  |(go_at_call 193;refine(sI 127 _).mono ?_;rintro e w1 ⟨rfl,h1⟩;have X1:Hid (RR w.heap.size w1 (.slice none 0 0) []/\Below w.heap.size w w1):=⟨RR.kept (RR.nil _ _) h1,aD (Below.refl _ _) h1 lz9⟩;have z1:w.heap.size<=w1.heap.size:=X1.out.2.size;clear h1)
 go_ret2
 have e:Cz=[(0,31),(127,127)]:=XZ.out.2.1.one (gB (by decide) (by decide) (by decide)) fun c=>by(try simp only [bD,cG,or_false]);(try omega)
 exact⟨_,rfl,by rw [<- e];exact XZ.out.1.mono X2.out.2.size,aD X2.out.2 XZ.out.2.2 lz9⟩
theorem wT(w:World):Calls Tryz.prog 185 #[.string ⟨#[100,105,103,105,116]⟩] w (eM w [(48,57)]):=by
 obtain⟨t0,ti,hz0,hz1,hz2⟩:=aP bF
 have n0:((⟨#[100,105,103,105,116]⟩:ByteArray)==(⟨#[112,114,105,110,116]⟩:ByteArray))=false:=by decide
 have n1:((⟨#[100,105,103,105,116]⟩:ByteArray)==(⟨#[103,114,97,112,104]⟩:ByteArray))=false:=by decide
 have n2:((⟨#[100,105,103,105,116]⟩:ByteArray)==(⟨#[97,108,110,117,109]⟩:ByteArray))=false:=by decide
 have n3:((⟨#[100,105,103,105,116]⟩:ByteArray)==(⟨#[97,108,112,104,97]⟩:ByteArray))=false:=by decide
 have n4:((⟨#[100,105,103,105,116]⟩:ByteArray)==(⟨#[108,111,119,101,114]⟩:ByteArray))=false:=by decide
 have n5:((⟨#[100,105,103,105,116]⟩:ByteArray)==(⟨#[120,100,105,103,105,116]⟩:ByteArray))=false:=by decide
 have n6:((⟨#[100,105,103,105,116]⟩:ByteArray)==(⟨#[100,105,103,105,116]⟩:ByteArray))=true:=by decide
 have n7:((⟨#[100,105,103,105,116]⟩:ByteArray)==(⟨#[115,112,97,99,101]⟩:ByteArray))=false:=by decide
 have n8:((⟨#[100,105,103,105,116]⟩:ByteArray)==(⟨#[98,108,97,110,107]⟩:ByteArray))=false:=by decide
 have n9:((⟨#[100,105,103,105,116]⟩:ByteArray)==(⟨#[99,110,116,114,108]⟩:ByteArray))=false:=by decide
 have n10:((⟨#[100,105,103,105,116]⟩:ByteArray)==(⟨#[112,117,110,99,116]⟩:ByteArray))=false:=by decide
 have n11:((⟨#[100,105,103,105,116]⟩:ByteArray)==(⟨#[117,112,112,101,114]⟩:ByteArray))=false:=by decide
 go_enter Tryz.func185,Tryz.ntmps185
 go_wp2_with first
  |(go_at_call 129;have hx:=X1.out;clear hx;refine(bQ X1.out.1.arg (eI (by decide)) (by simp)).mono ?_;rintro e wz ⟨vz,Cz,rfl,h1,h2,h3,h4⟩;have XZ:Hid (RR w1.heap.size wz vz Cz/\IsC Cz (In [(48,57)])/\Below w1.heap.size w1 wz):=⟨h1,h2,h4⟩;clear h1 h2 h3 h4)
  |(at_builtin;refine wpList_append_own_at _ rfl _ _ 22 rfl w.heap.size 48 t0 (.agg #[.int .i64 0,.int .i64 0]) 2 16 aS ti hz0 hz1 hz2 rfl (by decide) (.slice none 0 0) 0 (aM []) rfl (World.ownsRow.alloc (RR.nil _ _) (.cells #[.int .i64 48,.int .i64 57] 48)) ⟨w.heap.size,0,none⟩ 1 1 [.int .i64 48,.int .i64 57] rfl rfl (bG _ #[.int .i64 48,.int .i64 57] _) (by simp [Value.oneCell']) (by unfold maxLen;omega) (by omega) (by simp;try omega) ?_;intro v' w1 hown' hgrow _ hblk;obtain⟨g1,c1,rfl⟩:=aH hown' (Nat.succ_pos _);have X1:Hid (RR w.heap.size w1 (.slice (some ⟨g1,0,none⟩) 1 c1) [(48,57)]/\Below w.heap.size w w1):=⟨hown',aW (Below.alloc (Below.refl _ _) lz9 _) (World.ownsRow.alloc (RR.nil _ _) _) hgrow⟩;have z1:w.heap.size<=w1.heap.size:=X1.out.2.size;clear hown' hgrow hblk)
 go_ret2
 have e:Cz=[(48,57)]:=XZ.out.2.1.one (gB (by decide) (by decide) (by decide)) fun c=>by(try simp only [bD,cG,or_false]);(try omega)
 exact⟨_,rfl,by rw [<- e];exact XZ.out.1.mono X1.out.2.size,aD X1.out.2 XZ.out.2.2 lz9⟩
theorem wR(w:World):Calls Tryz.prog 185 #[.string ⟨#[108,111,119,101,114]⟩] w (eM w [(97,122)]):=by
 obtain⟨t0,ti,hz0,hz1,hz2⟩:=aP bF
 have n0:((⟨#[108,111,119,101,114]⟩:ByteArray)==(⟨#[112,114,105,110,116]⟩:ByteArray))=false:=by decide
 have n1:((⟨#[108,111,119,101,114]⟩:ByteArray)==(⟨#[103,114,97,112,104]⟩:ByteArray))=false:=by decide
 have n2:((⟨#[108,111,119,101,114]⟩:ByteArray)==(⟨#[97,108,110,117,109]⟩:ByteArray))=false:=by decide
 have n3:((⟨#[108,111,119,101,114]⟩:ByteArray)==(⟨#[97,108,112,104,97]⟩:ByteArray))=false:=by decide
 have n4:((⟨#[108,111,119,101,114]⟩:ByteArray)==(⟨#[108,111,119,101,114]⟩:ByteArray))=true:=by decide
 have n5:((⟨#[108,111,119,101,114]⟩:ByteArray)==(⟨#[120,100,105,103,105,116]⟩:ByteArray))=false:=by decide
 have n6:((⟨#[108,111,119,101,114]⟩:ByteArray)==(⟨#[100,105,103,105,116]⟩:ByteArray))=false:=by decide
 have n7:((⟨#[108,111,119,101,114]⟩:ByteArray)==(⟨#[115,112,97,99,101]⟩:ByteArray))=false:=by decide
 have n8:((⟨#[108,111,119,101,114]⟩:ByteArray)==(⟨#[98,108,97,110,107]⟩:ByteArray))=false:=by decide
 have n9:((⟨#[108,111,119,101,114]⟩:ByteArray)==(⟨#[99,110,116,114,108]⟩:ByteArray))=false:=by decide
 have n10:((⟨#[108,111,119,101,114]⟩:ByteArray)==(⟨#[112,117,110,99,116]⟩:ByteArray))=false:=by decide
 have n11:((⟨#[108,111,119,101,114]⟩:ByteArray)==(⟨#[117,112,112,101,114]⟩:ByteArray))=false:=by decide
 go_enter Tryz.func185,Tryz.ntmps185
 go_wp2_with first
  |(go_at_call 129;have hx:=X1.out;clear hx;refine(bQ X1.out.1.arg (eI (by decide)) (by simp)).mono ?_;rintro e wz ⟨vz,Cz,rfl,h1,h2,h3,h4⟩;have XZ:Hid (RR w1.heap.size wz vz Cz/\IsC Cz (In [(97,122)])/\Below w1.heap.size w1 wz):=⟨h1,h2,h4⟩;clear h1 h2 h3 h4)
  |(at_builtin;refine wpList_append_own_at _ rfl _ _ 22 rfl w.heap.size 48 t0 (.agg #[.int .i64 0,.int .i64 0]) 2 16 aS ti hz0 hz1 hz2 rfl (by decide) (.slice none 0 0) 0 (aM []) rfl (World.ownsRow.alloc (RR.nil _ _) (.cells #[.int .i64 97,.int .i64 122] 48)) ⟨w.heap.size,0,none⟩ 1 1 [.int .i64 97,.int .i64 122] rfl rfl (bG _ #[.int .i64 97,.int .i64 122] _) (by simp [Value.oneCell']) (by unfold maxLen;omega) (by omega) (by simp;try omega) ?_;intro v' w1 hown' hgrow _ hblk;obtain⟨g1,c1,rfl⟩:=aH hown' (Nat.succ_pos _);have X1:Hid (RR w.heap.size w1 (.slice (some ⟨g1,0,none⟩) 1 c1) [(97,122)]/\Below w.heap.size w w1):=⟨hown',aW (Below.alloc (Below.refl _ _) lz9 _) (World.ownsRow.alloc (RR.nil _ _) _) hgrow⟩;have z1:w.heap.size<=w1.heap.size:=X1.out.2.size;clear hown' hgrow hblk)
 go_ret2
 have e:Cz=[(97,122)]:=XZ.out.2.1.one (gB (by decide) (by decide) (by decide)) fun c=>by(try simp only [bD,cG,or_false]);(try omega)
 exact⟨_,rfl,by rw [<- e];exact XZ.out.1.mono X1.out.2.size,aD X1.out.2 XZ.out.2.2 lz9⟩
theorem wN(w:World):Calls Tryz.prog 185 #[.string ⟨#[117,112,112,101,114]⟩] w (eM w [(65,90)]):=by
 obtain⟨t0,ti,hz0,hz1,hz2⟩:=aP bF
 have n0:((⟨#[117,112,112,101,114]⟩:ByteArray)==(⟨#[112,114,105,110,116]⟩:ByteArray))=false:=by decide
 have n1:((⟨#[117,112,112,101,114]⟩:ByteArray)==(⟨#[103,114,97,112,104]⟩:ByteArray))=false:=by decide
 have n2:((⟨#[117,112,112,101,114]⟩:ByteArray)==(⟨#[97,108,110,117,109]⟩:ByteArray))=false:=by decide
 have n3:((⟨#[117,112,112,101,114]⟩:ByteArray)==(⟨#[97,108,112,104,97]⟩:ByteArray))=false:=by decide
 have n4:((⟨#[117,112,112,101,114]⟩:ByteArray)==(⟨#[108,111,119,101,114]⟩:ByteArray))=false:=by decide
 have n5:((⟨#[117,112,112,101,114]⟩:ByteArray)==(⟨#[120,100,105,103,105,116]⟩:ByteArray))=false:=by decide
 have n6:((⟨#[117,112,112,101,114]⟩:ByteArray)==(⟨#[100,105,103,105,116]⟩:ByteArray))=false:=by decide
 have n7:((⟨#[117,112,112,101,114]⟩:ByteArray)==(⟨#[115,112,97,99,101]⟩:ByteArray))=false:=by decide
 have n8:((⟨#[117,112,112,101,114]⟩:ByteArray)==(⟨#[98,108,97,110,107]⟩:ByteArray))=false:=by decide
 have n9:((⟨#[117,112,112,101,114]⟩:ByteArray)==(⟨#[99,110,116,114,108]⟩:ByteArray))=false:=by decide
 have n10:((⟨#[117,112,112,101,114]⟩:ByteArray)==(⟨#[112,117,110,99,116]⟩:ByteArray))=false:=by decide
 have n11:((⟨#[117,112,112,101,114]⟩:ByteArray)==(⟨#[117,112,112,101,114]⟩:ByteArray))=true:=by decide
 go_enter Tryz.func185,Tryz.ntmps185
 go_wp2_with first
  |(go_at_call 129;have hx:=X1.out;clear hx;refine(bQ X1.out.1.arg (eI (by decide)) (by simp)).mono ?_;rintro e wz ⟨vz,Cz,rfl,h1,h2,h3,h4⟩;have XZ:Hid (RR w1.heap.size wz vz Cz/\IsC Cz (In [(65,90)])/\Below w1.heap.size w1 wz):=⟨h1,h2,h4⟩;clear h1 h2 h3 h4)
  |(at_builtin;refine wpList_append_own_at _ rfl _ _ 22 rfl w.heap.size 48 t0 (.agg #[.int .i64 0,.int .i64 0]) 2 16 aS ti hz0 hz1 hz2 rfl (by decide) (.slice none 0 0) 0 (aM []) rfl (World.ownsRow.alloc (RR.nil _ _) (.cells #[.int .i64 65,.int .i64 90] 48)) ⟨w.heap.size,0,none⟩ 1 1 [.int .i64 65,.int .i64 90] rfl rfl (bG _ #[.int .i64 65,.int .i64 90] _) (by simp [Value.oneCell']) (by unfold maxLen;omega) (by omega) (by simp;try omega) ?_;intro v' w1 hown' hgrow _ hblk;obtain⟨g1,c1,rfl⟩:=aH hown' (Nat.succ_pos _);have X1:Hid (RR w.heap.size w1 (.slice (some ⟨g1,0,none⟩) 1 c1) [(65,90)]/\Below w.heap.size w w1):=⟨hown',aW (Below.alloc (Below.refl _ _) lz9 _) (World.ownsRow.alloc (RR.nil _ _) _) hgrow⟩;have z1:w.heap.size<=w1.heap.size:=X1.out.2.size;clear hown' hgrow hblk)
 go_ret2
 have e:Cz=[(65,90)]:=XZ.out.2.1.one (gB (by decide) (by decide) (by decide)) fun c=>by(try simp only [bD,cG,or_false]);(try omega)
 exact⟨_,rfl,by rw [<- e];exact XZ.out.1.mono X1.out.2.size,aD X1.out.2 XZ.out.2.2 lz9⟩
end Go.Proofs.YticfnglebbakkaaGreatDoor
