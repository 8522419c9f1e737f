/-
  Parts of the proof.
-/
import Derived.Test.YticfnglebbakkaaGreatDoorAgainProofB24
set_option maxRecDepth 100000
set_option maxHeartbeats 8000000
namespace Go.Proofs.YticfnglebbakkaaGreatDoor
open Go Go.RowKit
theorem wS(w:World):Calls Tryz.prog 185 #[.string ⟨#[103,114,97,112,104]⟩] w (eM w [(33,126)]):=by
 obtain⟨t0,ti,hz0,hz1,hz2⟩:=aP bF
 have n0:((⟨#[103,114,97,112,104]⟩:ByteArray)==(⟨#[112,114,105,110,116]⟩:ByteArray))=false:=by decide
 have n1:((⟨#[103,114,97,112,104]⟩:ByteArray)==(⟨#[103,114,97,112,104]⟩:ByteArray))=true:=by decide
 have n2:((⟨#[103,114,97,112,104]⟩:ByteArray)==(⟨#[97,108,110,117,109]⟩:ByteArray))=false:=by decide
 have n3:((⟨#[103,114,97,112,104]⟩:ByteArray)==(⟨#[97,108,112,104,97]⟩:ByteArray))=false:=by decide
 have n4:((⟨#[103,114,97,112,104]⟩:ByteArray)==(⟨#[108,111,119,101,114]⟩:ByteArray))=false:=by decide
 have n5:((⟨#[103,114,97,112,104]⟩:ByteArray)==(⟨#[120,100,105,103,105,116]⟩:ByteArray))=false:=by decide
 have n6:((⟨#[103,114,97,112,104]⟩:ByteArray)==(⟨#[100,105,103,105,116]⟩:ByteArray))=false:=by decide
 have n7:((⟨#[103,114,97,112,104]⟩:ByteArray)==(⟨#[115,112,97,99,101]⟩:ByteArray))=false:=by decide
 have n8:((⟨#[103,114,97,112,104]⟩:ByteArray)==(⟨#[98,108,97,110,107]⟩:ByteArray))=false:=by decide
 have n9:((⟨#[103,114,97,112,104]⟩:ByteArray)==(⟨#[99,110,116,114,108]⟩:ByteArray))=false:=by decide
 have n10:((⟨#[103,114,97,112,104]⟩:ByteArray)==(⟨#[112,117,110,99,116]⟩:ByteArray))=false:=by decide
 have n11:((⟨#[103,114,97,112,104]⟩:ByteArray)==(⟨#[117,112,112,101,114]⟩:ByteArray))=false:=by decide
 go_enter Tryz.func185,Tryz.ntmps185
 go_wp2_with first
  |(go_at_call 129;have hx:=X5.out;clear hx;refine(bQ X5.out.1.arg (eI (by decide)) (by simp)).mono ?_;rintro e wz ⟨vz,Cz,rfl,h1,h2,h3,h4⟩;have XZ:Hid (RR w5.heap.size wz vz Cz/\IsC Cz (In [(33,47),(58,64),(91,96),(123,126),(48,57),(65,90),(97,122)])/\Below w5.heap.size w5 wz):=⟨h1,h2,h4⟩;clear h1 h2 h3 h4)
  |(at_builtin;have hx:=X4.out;clear hx;refine wpList_append_own_at _ rfl _ _ 22 rfl w.heap.size 48 t0 (.agg #[.int .i64 0,.int .i64 0]) 2 16 aS ti hz0 hz1 hz2 rfl (by decide) (.slice (some ⟨g4,0,none⟩) 6 c4) 6 (aM [(33,47),(58,64),(91,96),(123,126),(48,57),(65,90)]) rfl (World.ownsRow.alloc X4.out.1 (.cells #[.int .i64 97,.int .i64 122] 48)) ⟨w4.heap.size,0,none⟩ 1 1 [.int .i64 97,.int .i64 122] rfl rfl (bG _ #[.int .i64 97,.int .i64 122] _) (by simp [Value.oneCell']) (by unfold maxLen;omega) (by omega) (by simp;try omega) ?_;intro v' w5 hown' hgrow _ hblk;obtain⟨g5,c5,rfl⟩:=aH hown' (Nat.succ_pos _);have X5:Hid (RR w.heap.size w5 (.slice (some ⟨g5,0,none⟩) 7 c5) [(33,47),(58,64),(91,96),(123,126),(48,57),(65,90),(97,122)]/\Below w.heap.size w w5):=⟨hown',aW (Below.alloc X4.out.2 z4 _) (World.ownsRow.alloc X4.out.1 _) hgrow⟩;have z5:w.heap.size<=w5.heap.size:=X5.out.2.size;clear hown' hgrow hblk)
  |(at_builtin;have hx:=X3.out;clear hx;refine wpList_append_own_at _ rfl _ _ 22 rfl w.heap.size 48 t0 (.agg #[.int .i64 0,.int .i64 0]) 2 16 aS ti hz0 hz1 hz2 rfl (by decide) (.slice (some ⟨g3,0,none⟩) 5 c3) 5 (aM [(33,47),(58,64),(91,96),(123,126),(48,57)]) rfl (World.ownsRow.alloc X3.out.1 (.cells #[.int .i64 65,.int .i64 90] 48)) ⟨w3.heap.size,0,none⟩ 1 1 [.int .i64 65,.int .i64 90] rfl rfl (bG _ #[.int .i64 65,.int .i64 90] _) (by simp [Value.oneCell']) (by unfold maxLen;omega) (by omega) (by simp;try omega) ?_;intro v' w4 hown' hgrow _ hblk;obtain⟨g4,c4,rfl⟩:=aH hown' (Nat.succ_pos _);have X4:Hid (RR w.heap.size w4 (.slice (some ⟨g4,0,none⟩) 6 c4) [(33,47),(58,64),(91,96),(123,126),(48,57),(65,90)]/\Below w.heap.size w w4):=⟨hown',aW (Below.alloc X3.out.2 z3 _) (World.ownsRow.alloc X3.out.1 _) hgrow⟩;have z4:w.heap.size<=w4.heap.size:=X4.out.2.size;clear hown' hgrow hblk)
  |(at_builtin;have hx:=X2.out;clear hx;refine wpList_append_own_at _ rfl _ _ 22 rfl w.heap.size 48 t0 (.agg #[.int .i64 0,.int .i64 0]) 2 16 aS ti hz0 hz1 hz2 rfl (by decide) (.slice (some ⟨g2,0,none⟩) 4 c2) 4 (aM [(33,47),(58,64),(91,96),(123,126)]) rfl (World.ownsRow.alloc X2.out.1 (.cells #[.int .i64 48,.int .i64 57] 48)) ⟨w2.heap.size,0,none⟩ 1 1 [.int .i64 48,.int .i64 57] rfl rfl (bG _ #[.int .i64 48,.int .i64 57] _) (by simp [Value.oneCell']) (by unfold maxLen;omega) (by omega) (by simp;try omega) ?_;intro v' w3 hown' hgrow _ hblk;obtain⟨g3,c3,rfl⟩:=aH hown' (Nat.succ_pos _);have X3:Hid (RR w.heap.size w3 (.slice (some ⟨g3,0,none⟩) 5 c3) [(33,47),(58,64),(91,96),(123,126),(48,57)]/\Below w.heap.size w w3):=⟨hown',aW (Below.alloc X2.out.2 z2 _) (World.ownsRow.alloc X2.out.1 _) hgrow⟩;have z3:w.heap.size<=w3.heap.size:=X3.out.2.size;clear hown' hgrow hblk)
  |(at_builtin;have hx:=X1.out;clear hx;refine wpList_append_own_at _ rfl _ _ 22 rfl w.heap.size 48 t0 (.agg #[.int .i64 0,.int .i64 0]) 2 16 aS ti hz0 hz1 hz2 rfl (by decide) (.slice none 0 0) 0 (aM []) rfl X1.out.1 ⟨w.heap.size,0,none⟩ 4 4 (aM [(33,47),(58,64),(91,96),(123,126)]) rfl rfl N1.out.news (gW _) (by unfold maxLen;omega) (by omega) z1 ?_;intro v' w2 hown' hgrow _ hblk;obtain⟨g2,c2,rfl⟩:=aH hown' (Nat.succ_pos _);have X2:Hid (RR w.heap.size w2 (.slice (some ⟨g2,0,none⟩) 4 c2) [(33,47),(58,64),(91,96),(123,126)]/\Below w.heap.size w w2):=⟨hown',aW X1.out.2 X1.out.1 hgrow⟩;have z2:w.heap.size<=w2.heap.size:=X2.out.2.size;clear hown' hgrow hblk)
  |(go_at_call 194;refine(tR _).mono ?_;rintro e w1 ⟨rfl,h1,h2⟩;have X1:Hid (RR w.heap.size w1 (.slice none 0 0) []/\Below w.heap.size w w1):=⟨RR.kept (RR.nil _ _) h2,aD (Below.refl _ _) h2 lz9⟩;have z1:w.heap.size<=w1.heap.size:=X1.out.2.size;have N1:Hid (ArgR w1 (.slice (some ⟨w.heap.size,0,none⟩) 4 4) [(33,47),(58,64),(91,96),(123,126)]):=h1.arg;clear h1 h2)
 go_ret2
 have e:Cz=[(33,126)]:=XZ.out.2.1.one (gB (by decide) (by decide) (by decide)) fun c=>by(try simp only [bD,cG,or_false]);(try omega)
 exact⟨_,rfl,by rw [<- e];exact XZ.out.1.mono X5.out.2.size,aD X5.out.2 XZ.out.2.2 lz9⟩
theorem wQ(w:World):Calls Tryz.prog 185 #[.string ⟨#[112,114,105,110,116]⟩] w (eM w [(32,126)]):=by
 obtain⟨t0,ti,hz0,hz1,hz2⟩:=aP bF
 have n0:((⟨#[112,114,105,110,116]⟩:ByteArray)==(⟨#[112,114,105,110,116]⟩:ByteArray))=true:=by decide
 have n1:((⟨#[112,114,105,110,116]⟩:ByteArray)==(⟨#[103,114,97,112,104]⟩:ByteArray))=false:=by decide
 have n2:((⟨#[112,114,105,110,116]⟩:ByteArray)==(⟨#[97,108,110,117,109]⟩:ByteArray))=false:=by decide
 have n3:((⟨#[112,114,105,110,116]⟩:ByteArray)==(⟨#[97,108,112,104,97]⟩:ByteArray))=false:=by decide
 have n4:((⟨#[112,114,105,110,116]⟩:ByteArray)==(⟨#[108,111,119,101,114]⟩:ByteArray))=false:=by decide
 have n5:((⟨#[112,114,105,110,116]⟩:ByteArray)==(⟨#[120,100,105,103,105,116]⟩:ByteArray))=false:=by decide
 have n6:((⟨#[112,114,105,110,116]⟩:ByteArray)==(⟨#[100,105,103,105,116]⟩:ByteArray))=false:=by decide
 have n7:((⟨#[112,114,105,110,116]⟩:ByteArray)==(⟨#[115,112,97,99,101]⟩:ByteArray))=false:=by decide
 have n8:((⟨#[112,114,105,110,116]⟩:ByteArray)==(⟨#[98,108,97,110,107]⟩:ByteArray))=false:=by decide
 have n9:((⟨#[112,114,105,110,116]⟩:ByteArray)==(⟨#[99,110,116,114,108]⟩:ByteArray))=false:=by decide
 have n10:((⟨#[112,114,105,110,116]⟩:ByteArray)==(⟨#[112,117,110,99,116]⟩:ByteArray))=false:=by decide
 have n11:((⟨#[112,114,105,110,116]⟩:ByteArray)==(⟨#[117,112,112,101,114]⟩:ByteArray))=false:=by decide
 go_enter Tryz.func185,Tryz.ntmps185
 go_wp2_with first
  |(go_at_call 129;have hx:=X7.out;clear hx;refine(bQ X7.out.1.arg (eI (by decide)) (by simp)).mono ?_;rintro e wz ⟨vz,Cz,rfl,h1,h2,h3,h4⟩;have XZ:Hid (RR w7.heap.size wz vz Cz/\IsC Cz (In [(32,32),(33,47),(58,64),(91,96),(123,126),(48,57),(65,90),(97,122)])/\Below w7.heap.size w7 wz):=⟨h1,h2,h4⟩;clear h1 h2 h3 h4)
  |(at_builtin;have hx:=X6.out;clear hx;refine wpList_append_own_at _ rfl _ _ 22 rfl w.heap.size 48 t0 (.agg #[.int .i64 0,.int .i64 0]) 2 16 aS ti hz0 hz1 hz2 rfl (by decide) (.slice (some ⟨g6,0,none⟩) 7 c6) 7 (aM [(32,32),(33,47),(58,64),(91,96),(123,126),(48,57),(65,90)]) rfl (World.ownsRow.alloc X6.out.1 (.cells #[.int .i64 97,.int .i64 122] 48)) ⟨w6.heap.size,0,none⟩ 1 1 [.int .i64 97,.int .i64 122] rfl rfl (bG _ #[.int .i64 97,.int .i64 122] _) (by simp [Value.oneCell']) (by unfold maxLen;omega) (by omega) (by simp;try omega) ?_;intro v' w7 hown' hgrow _ hblk;obtain⟨g7,c7,rfl⟩:=aH hown' (Nat.succ_pos _);have X7:Hid (RR w.heap.size w7 (.slice (some ⟨g7,0,none⟩) 8 c7) [(32,32),(33,47),(58,64),(91,96),(123,126),(48,57),(65,90),(97,122)]/\Below w.heap.size w w7):=⟨hown',aW (Below.alloc X6.out.2 z6 _) (World.ownsRow.alloc X6.out.1 _) hgrow⟩;have z7:w.heap.size<=w7.heap.size:=X7.out.2.size;clear hown' hgrow hblk)
  |(at_builtin;have hx:=X5.out;clear hx;refine wpList_append_own_at _ rfl _ _ 22 rfl w.heap.size 48 t0 (.agg #[.int .i64 0,.int .i64 0]) 2 16 aS ti hz0 hz1 hz2 rfl (by decide) (.slice (some ⟨g5,0,none⟩) 6 c5) 6 (aM [(32,32),(33,47),(58,64),(91,96),(123,126),(48,57)]) rfl (World.ownsRow.alloc X5.out.1 (.cells #[.int .i64 65,.int .i64 90] 48)) ⟨w5.heap.size,0,none⟩ 1 1 [.int .i64 65,.int .i64 90] rfl rfl (bG _ #[.int .i64 65,.int .i64 90] _) (by simp [Value.oneCell']) (by unfold maxLen;omega) (by omega) (by simp;try omega) ?_;intro v' w6 hown' hgrow _ hblk;obtain⟨g6,c6,rfl⟩:=aH hown' (Nat.succ_pos _);have X6:Hid (RR w.heap.size w6 (.slice (some ⟨g6,0,none⟩) 7 c6) [(32,32),(33,47),(58,64),(91,96),(123,126),(48,57),(65,90)]/\Below w.heap.size w w6):=⟨hown',aW (Below.alloc X5.out.2 z5 _) (World.ownsRow.alloc X5.out.1 _) hgrow⟩;have z6:w.heap.size<=w6.heap.size:=X6.out.2.size;clear hown' hgrow hblk)
  |(at_builtin;have hx:=X4.out;clear hx;refine wpList_append_own_at _ rfl _ _ 22 rfl w.heap.size 48 t0 (.agg #[.int .i64 0,.int .i64 0]) 2 16 aS ti hz0 hz1 hz2 rfl (by decide) (.slice (some ⟨g4,0,none⟩) 5 c4) 5 (aM [(32,32),(33,47),(58,64),(91,96),(123,126)]) rfl (World.ownsRow.alloc X4.out.1 (.cells #[.int .i64 48,.int .i64 57] 48)) ⟨w4.heap.size,0,none⟩ 1 1 [.int .i64 48,.int .i64 57] rfl rfl (bG _ #[.int .i64 48,.int .i64 57] _) (by simp [Value.oneCell']) (by unfold maxLen;omega) (by omega) (by simp;try omega) ?_;intro v' w5 hown' hgrow _ hblk;obtain⟨g5,c5,rfl⟩:=aH hown' (Nat.succ_pos _);have X5:Hid (RR w.heap.size w5 (.slice (some ⟨g5,0,none⟩) 6 c5) [(32,32),(33,47),(58,64),(91,96),(123,126),(48,57)]/\Below w.heap.size w w5):=⟨hown',aW (Below.alloc X4.out.2 z4 _) (World.ownsRow.alloc X4.out.1 _) hgrow⟩;have z5:w.heap.size<=w5.heap.size:=X5.out.2.size;clear hown' hgrow hblk)
  |(at_builtin;have hx:=X3.out;clear hx;refine wpList_append_own_at _ rfl _ _ 22 rfl w.heap.size 48 t0 (.agg #[.int .i64 0,.int .i64 0]) 2 16 aS ti hz0 hz1 hz2 rfl (by decide) (.slice (some ⟨g2,0,none⟩) 1 c2) 1 (aM [(32,32)]) rfl X3.out.1 ⟨w2.heap.size,0,none⟩ 4 4 (aM [(33,47),(58,64),(91,96),(123,126)]) rfl rfl N3.out.news (gW _) (by unfold maxLen;omega) (by omega) z3 ?_;intro v' w4 hown' hgrow _ hblk;obtain⟨g4,c4,rfl⟩:=aH hown' (Nat.succ_pos _);have X4:Hid (RR w.heap.size w4 (.slice (some ⟨g4,0,none⟩) 5 c4) [(32,32),(33,47),(58,64),(91,96),(123,126)]/\Below w.heap.size w w4):=⟨hown',aW X3.out.2 X3.out.1 hgrow⟩;have z4:w.heap.size<=w4.heap.size:=X4.out.2.size;clear hown' hgrow hblk)
  |(go_at_call 194;have hx:=X2.out;clear hx;refine(tR _).mono ?_;rintro e w3 ⟨rfl,h1,h2⟩;have X3:Hid (RR w.heap.size w3 (.slice (some ⟨g2,0,none⟩) 1 c2) [(32,32)]/\Below w.heap.size w w3):=⟨RR.kept X2.out.1 h2,aD X2.out.2 h2 lz9⟩;have z3:w.heap.size<=w3.heap.size:=X3.out.2.size;have N3:Hid (ArgR w3 (.slice (some ⟨w2.heap.size,0,none⟩) 4 4) [(33,47),(58,64),(91,96),(123,126)]):=h1.arg;clear h1 h2)
  |(at_builtin;have hx:=X1.out;clear hx;refine wpList_append_own_at _ rfl _ _ 22 rfl w.heap.size 48 t0 (.agg #[.int .i64 0,.int .i64 0]) 2 16 aS ti hz0 hz1 hz2 rfl (by decide) (.slice none 0 0) 0 (aM []) rfl (World.ownsRow.alloc X1.out.1 (.cells #[.int .i64 32,.int .i64 32] 48)) ⟨w1.heap.size,0,none⟩ 1 1 [.int .i64 32,.int .i64 32] rfl rfl (bG _ #[.int .i64 32,.int .i64 32] _) (by simp [Value.oneCell']) (by unfold maxLen;omega) (by omega) (by simp;try omega) ?_;intro v' w2 hown' hgrow _ hblk;obtain⟨g2,c2,rfl⟩:=aH hown' (Nat.succ_pos _);have X2:Hid (RR w.heap.size w2 (.slice (some ⟨g2,0,none⟩) 1 c2) [(32,32)]/\Below w.heap.size w w2):=⟨hown',aW (Below.alloc X1.out.2 z1 _) (World.ownsRow.alloc X1.out.1 _) hgrow⟩;have z2:w.heap.size<=w2.heap.size:=X2.out.2.size;clear hown' hgrow hblk)
  |(go_at_call 193;refine(sI 32 _).mono ?_;rintro e w1 ⟨rfl,h1⟩;have X1:Hid (RR w.heap.size w1 (.slice none 0 0) []/\Below w.heap.size w w1):=⟨RR.kept (RR.nil _ _) h1,aD (Below.refl _ _) h1 lz9⟩;have z1:w.heap.size<=w1.heap.size:=X1.out.2.size;clear h1)
 go_ret2
 have e:Cz=[(32,126)]:=XZ.out.2.1.one (gB (by decide) (by decide) (by decide)) fun c=>by(try simp only [bD,cG,or_false]);(try omega)
 exact⟨_,rfl,by rw [<- e];exact XZ.out.1.mono X7.out.2.size,aD X7.out.2 XZ.out.2.2 lz9⟩
theorem wP(w:World):Calls Tryz.prog 185 #[.string ⟨#[112,117,110,99,116]⟩] w (eM w [(33,47),(58,64),(91,96),(123,126)]):=by
 obtain⟨t0,ti,hz0,hz1,hz2⟩:=aP bF
 have n0:((⟨#[112,117,110,99,116]⟩:ByteArray)==(⟨#[112,114,105,110,116]⟩:ByteArray))=false:=by decide
 have n1:((⟨#[112,117,110,99,116]⟩:ByteArray)==(⟨#[103,114,97,112,104]⟩:ByteArray))=false:=by decide
 have n2:((⟨#[112,117,110,99,116]⟩:ByteArray)==(⟨#[97,108,110,117,109]⟩:ByteArray))=false:=by decide
 have n3:((⟨#[112,117,110,99,116]⟩:ByteArray)==(⟨#[97,108,112,104,97]⟩:ByteArray))=false:=by decide
 have n4:((⟨#[112,117,110,99,116]⟩:ByteArray)==(⟨#[108,111,119,101,114]⟩:ByteArray))=false:=by decide
 have n5:((⟨#[112,117,110,99,116]⟩:ByteArray)==(⟨#[120,100,105,103,105,116]⟩:ByteArray))=false:=by decide
 have n6:((⟨#[112,117,110,99,116]⟩:ByteArray)==(⟨#[100,105,103,105,116]⟩:ByteArray))=false:=by decide
 have n7:((⟨#[112,117,110,99,116]⟩:ByteArray)==(⟨#[115,112,97,99,101]⟩:ByteArray))=false:=by decide
 have n8:((⟨#[112,117,110,99,116]⟩:ByteArray)==(⟨#[98,108,97,110,107]⟩:ByteArray))=false:=by decide
 have n9:((⟨#[112,117,110,99,116]⟩:ByteArray)==(⟨#[99,110,116,114,108]⟩:ByteArray))=false:=by decide
 have n10:((⟨#[112,117,110,99,116]⟩:ByteArray)==(⟨#[112,117,110,99,116]⟩:ByteArray))=true:=by decide
 have n11:((⟨#[112,117,110,99,116]⟩:ByteArray)==(⟨#[117,112,112,101,114]⟩:ByteArray))=false:=by decide
 go_enter Tryz.func185,Tryz.ntmps185
 go_wp2_with first
  |(go_at_call 129;have hx:=X1.out;clear hx;refine(bQ X1.out.1.arg (eI (by decide)) (by simp)).mono ?_;rintro e wz ⟨vz,Cz,rfl,h1,h2,h3,h4⟩;have XZ:Hid (RR w1.heap.size wz vz Cz/\IsC Cz (In [(33,47),(58,64),(91,96),(123,126)])/\Below w1.heap.size w1 wz):=⟨h1,h2,h4⟩;clear h1 h2 h3 h4)
  |(go_at_call 194;refine(tR _).mono ?_;rintro e w1 ⟨rfl,h1,h2⟩;have X1:Hid (RR w.heap.size w1 (.slice (some ⟨w.heap.size,0,none⟩) 4 4) [(33,47),(58,64),(91,96),(123,126)]/\Below w.heap.size w w1):=⟨h1,h2⟩;clear h1 h2)
 go_ret2
 have e:Cz=[(33,47),(58,64),(91,96),(123,126)]:=XZ.out.2.1.one (gB (by decide) (by decide) (by decide)) fun c=>by(try simp only [bD,cG,or_false]);(try omega)
 exact⟨_,rfl,by rw [<- e];exact XZ.out.1.mono X1.out.2.size,aD X1.out.2 XZ.out.2.2 lz9⟩
theorem wO(w:World):Calls Tryz.prog 185 #[.string ⟨#[115,112,97,99,101]⟩] w (eM w [(9,13),(32,32)]):=by
 obtain⟨t0,ti,hz0,hz1,hz2⟩:=aP bF
 have n0:((⟨#[115,112,97,99,101]⟩:ByteArray)==(⟨#[112,114,105,110,116]⟩:ByteArray))=false:=by decide
 have n1:((⟨#[115,112,97,99,101]⟩:ByteArray)==(⟨#[103,114,97,112,104]⟩:ByteArray))=false:=by decide
 have n2:((⟨#[115,112,97,99,101]⟩:ByteArray)==(⟨#[97,108,110,117,109]⟩:ByteArray))=false:=by decide
 have n3:((⟨#[115,112,97,99,101]⟩:ByteArray)==(⟨#[97,108,112,104,97]⟩:ByteArray))=false:=by decide
 have n4:((⟨#[115,112,97,99,101]⟩:ByteArray)==(⟨#[108,111,119,101,114]⟩:ByteArray))=false:=by decide
 have n5:((⟨#[115,112,97,99,101]⟩:ByteArray)==(⟨#[120,100,105,103,105,116]⟩:ByteArray))=false:=by decide
 have n6:((⟨#[115,112,97,99,101]⟩:ByteArray)==(⟨#[100,105,103,105,116]⟩:ByteArray))=false:=by decide
 have n7:((⟨#[115,112,97,99,101]⟩:ByteArray)==(⟨#[115,112,97,99,101]⟩:ByteArray))=true:=by decide
 have n8:((⟨#[115,112,97,99,101]⟩:ByteArray)==(⟨#[98,108,97,110,107]⟩:ByteArray))=false:=by decide
 have n9:((⟨#[115,112,97,99,101]⟩:ByteArray)==(⟨#[99,110,116,114,108]⟩:ByteArray))=false:=by decide
 have n10:((⟨#[115,112,97,99,101]⟩:ByteArray)==(⟨#[112,117,110,99,116]⟩:ByteArray))=false:=by decide
 have n11:((⟨#[115,112,97,99,101]⟩:ByteArray)==(⟨#[117,112,112,101,114]⟩:ByteArray))=false:=by decide
 go_enter Tryz.func185,Tryz.ntmps185
 go_wp2_with first
  |(go_at_call 129;have hx:=X4.out;clear hx;refine(bQ X4.out.1.arg (eI (by decide)) (by simp)).mono ?_;rintro e wz ⟨vz,Cz,rfl,h1,h2,h3,h4⟩;have XZ:Hid (RR w4.heap.size wz vz Cz/\IsC Cz (In [(10,13),(9,9),(32,32)])/\Below w4.heap.size w4 wz):=⟨h1,h2,h4⟩;clear h1 h2 h3 h4)
  |(at_builtin;have hx:=X3.out;clear hx;refine wpList_append_own_at _ rfl _ _ 22 rfl w.heap.size 48 t0 (.agg #[.int .i64 0,.int .i64 0]) 2 16 aS ti hz0 hz1 hz2 rfl (by decide) (.slice (some ⟨g1,0,none⟩) 1 c1) 1 (aM [(10,13)]) rfl (World.ownsRow.alloc X3.out.1 (.cells #[.int .i64 9,.int .i64 9,.int .i64 32,.int .i64 32] 48)) ⟨w3.heap.size,0,none⟩ 2 2 [.int .i64 9,.int .i64 9,.int .i64 32,.int .i64 32] rfl rfl (bG _ #[.int .i64 9,.int .i64 9,.int .i64 32,.int .i64 32] _) (by simp [Value.oneCell']) (by unfold maxLen;omega) (by omega) (by simp;try omega) ?_;intro v' w4 hown' hgrow _ hblk;obtain⟨g4,c4,rfl⟩:=aH hown' (Nat.succ_pos _);have X4:Hid (RR w.heap.size w4 (.slice (some ⟨g4,0,none⟩) 3 c4) [(10,13),(9,9),(32,32)]/\Below w.heap.size w w4):=⟨hown',aW (Below.alloc X3.out.2 z3 _) (World.ownsRow.alloc X3.out.1 _) hgrow⟩;have z4:w.heap.size<=w4.heap.size:=X4.out.2.size;clear hown' hgrow hblk)
  |(go_at_call 193;have hx:=X2.out;clear hx;refine(sI 32 _).mono ?_;rintro e w3 ⟨rfl,h1⟩;have X3:Hid (RR w.heap.size w3 (.slice (some ⟨g1,0,none⟩) 1 c1) [(10,13)]/\Below w.heap.size w w3):=⟨RR.kept X2.out.1 h1,aD X2.out.2 h1 lz9⟩;have z3:w.heap.size<=w3.heap.size:=X3.out.2.size;clear h1)
  |(go_at_call 193;have hx:=X1.out;clear hx;refine(sI 9 _).mono ?_;rintro e w2 ⟨rfl,h1⟩;have X2:Hid (RR w.heap.size w2 (.slice (some ⟨g1,0,none⟩) 1 c1) [(10,13)]/\Below w.heap.size w w2):=⟨RR.kept X1.out.1 h1,aD X1.out.2 h1 lz9⟩;have z2:w.heap.size<=w2.heap.size:=X2.out.2.size;clear h1)
  |(at_builtin;refine wpList_append_own_at _ rfl _ _ 22 rfl w.heap.size 48 t0 (.agg #[.int .i64 0,.int .i64 0]) 2 16 aS ti hz0 hz1 hz2 rfl (by decide) (.slice none 0 0) 0 (aM []) rfl (World.ownsRow.alloc (RR.nil _ _) (.cells #[.int .i64 10,.int .i64 13] 48)) ⟨w.heap.size,0,none⟩ 1 1 [.int .i64 10,.int .i64 13] rfl rfl (bG _ #[.int .i64 10,.int .i64 13] _) (by simp [Value.oneCell']) (by unfold maxLen;omega) (by omega) (by simp;try omega) ?_;intro v' w1 hown' hgrow _ hblk;obtain⟨g1,c1,rfl⟩:=aH hown' (Nat.succ_pos _);have X1:Hid (RR w.heap.size w1 (.slice (some ⟨g1,0,none⟩) 1 c1) [(10,13)]/\Below w.heap.size w w1):=⟨hown',aW (Below.alloc (Below.refl _ _) lz9 _) (World.ownsRow.alloc (RR.nil _ _) _) hgrow⟩;have z1:w.heap.size<=w1.heap.size:=X1.out.2.size;clear hown' hgrow hblk)
 go_ret2
 have e:Cz=[(9,13),(32,32)]:=XZ.out.2.1.one (gB (by decide) (by decide) (by decide)) fun c=>by(try simp only [bD,cG,or_false]);(try omega)
 exact⟨_,rfl,by rw [<- e];exact XZ.out.1.mono X4.out.2.size,aD X4.out.2 XZ.out.2.2 lz9⟩
theorem uC(w:World):Calls Tryz.prog 185 #[.string ⟨#[120,100,105,103,105,116]⟩] w (eM w [(48,57),(65,70),(97,102)]):=by
 obtain⟨t0,ti,hz0,hz1,hz2⟩:=aP bF
 have n0:((⟨#[120,100,105,103,105,116]⟩:ByteArray)==(⟨#[112,114,105,110,116]⟩:ByteArray))=false:=by decide
 have n1:((⟨#[120,100,105,103,105,116]⟩:ByteArray)==(⟨#[103,114,97,112,104]⟩:ByteArray))=false:=by decide
 have n2:((⟨#[120,100,105,103,105,116]⟩:ByteArray)==(⟨#[97,108,110,117,109]⟩:ByteArray))=false:=by decide
 have n3:((⟨#[120,100,105,103,105,116]⟩:ByteArray)==(⟨#[97,108,112,104,97]⟩:ByteArray))=false:=by decide
 have n4:((⟨#[120,100,105,103,105,116]⟩:ByteArray)==(⟨#[108,111,119,101,114]⟩:ByteArray))=false:=by decide
 have n5:((⟨#[120,100,105,103,105,116]⟩:ByteArray)==(⟨#[120,100,105,103,105,116]⟩:ByteArray))=true:=by decide
 have n6:((⟨#[120,100,105,103,105,116]⟩:ByteArray)==(⟨#[100,105,103,105,116]⟩:ByteArray))=false:=by decide
 have n7:((⟨#[120,100,105,103,105,116]⟩:ByteArray)==(⟨#[115,112,97,99,101]⟩:ByteArray))=false:=by decide
 have n8:((⟨#[120,100,105,103,105,116]⟩:ByteArray)==(⟨#[98,108,97,110,107]⟩:ByteArray))=false:=by decide
 have n9:((⟨#[120,100,105,103,105,116]⟩:ByteArray)==(⟨#[99,110,116,114,108]⟩:ByteArray))=false:=by decide
 have n10:((⟨#[120,100,105,103,105,116]⟩:ByteArray)==(⟨#[112,117,110,99,116]⟩:ByteArray))=false:=by decide
 have n11:((⟨#[120,100,105,103,105,116]⟩:ByteArray)==(⟨#[117,112,112,101,114]⟩:ByteArray))=false:=by decide
 go_enter Tryz.func185,Tryz.ntmps185
 go_wp2_with first
  |(go_at_call 129;have hx:=X2.out;clear hx;refine(bQ X2.out.1.arg (eI (by decide)) (by simp)).mono ?_;rintro e wz ⟨vz,Cz,rfl,h1,h2,h3,h4⟩;have XZ:Hid (RR w2.heap.size wz vz Cz/\IsC Cz (In [(65,70),(97,102),(48,57)])/\Below w2.heap.size w2 wz):=⟨h1,h2,h4⟩;clear h1 h2 h3 h4)
  |(at_builtin;have hx:=X1.out;clear hx;refine wpList_append_own_at _ rfl _ _ 22 rfl w.heap.size 48 t0 (.agg #[.int .i64 0,.int .i64 0]) 2 16 aS ti hz0 hz1 hz2 rfl (by decide) (.slice (some ⟨g1,0,none⟩) 2 c1) 2 (aM [(65,70),(97,102)]) rfl (World.ownsRow.alloc X1.out.1 (.cells #[.int .i64 48,.int .i64 57] 48)) ⟨w1.heap.size,0,none⟩ 1 1 [.int .i64 48,.int .i64 57] rfl rfl (bG _ #[.int .i64 48,.int .i64 57] _) (by simp [Value.oneCell']) (by unfold maxLen;omega) (by omega) (by simp;try omega) ?_;intro v' w2 hown' hgrow _ hblk;obtain⟨g2,c2,rfl⟩:=aH hown' (Nat.succ_pos _);have X2:Hid (RR w.heap.size w2 (.slice (some ⟨g2,0,none⟩) 3 c2) [(65,70),(97,102),(48,57)]/\Below w.heap.size w w2):=⟨hown',aW (Below.alloc X1.out.2 z1 _) (World.ownsRow.alloc X1.out.1 _) hgrow⟩;have z2:w.heap.size<=w2.heap.size:=X2.out.2.size;clear hown' hgrow hblk)
  |(at_builtin;refine wpList_append_own_at _ rfl _ _ 22 rfl w.heap.size 48 t0 (.agg #[.int .i64 0,.int .i64 0]) 2 16 aS ti hz0 hz1 hz2 rfl (by decide) (.slice none 0 0) 0 (aM []) rfl (World.ownsRow.alloc (RR.nil _ _) (.cells #[.int .i64 65,.int .i64 70,.int .i64 97,.int .i64 102] 48)) ⟨w.heap.size,0,none⟩ 2 2 [.int .i64 65,.int .i64 70,.int .i64 97,.int .i64 102] rfl rfl (bG _ #[.int .i64 65,.int .i64 70,.int .i64 97,.int .i64 102] _) (by simp [Value.oneCell']) (by unfold maxLen;omega) (by omega) (by simp;try omega) ?_;intro v' w1 hown' hgrow _ hblk;obtain⟨g1,c1,rfl⟩:=aH hown' (Nat.succ_pos _);have X1:Hid (RR w.heap.size w1 (.slice (some ⟨g1,0,none⟩) 2 c1) [(65,70),(97,102)]/\Below w.heap.size w w1):=⟨hown',aW (Below.alloc (Below.refl _ _) lz9 _) (World.ownsRow.alloc (RR.nil _ _) _) hgrow⟩;have z1:w.heap.size<=w1.heap.size:=X1.out.2.size;clear hown' hgrow hblk)
 go_ret2
 have e:Cz=[(48,57),(65,70),(97,102)]:=XZ.out.2.1.one (gB (by decide) (by decide) (by decide)) fun c=>by(try simp only [bD,cG,or_false]);(try omega)
 exact⟨_,rfl,by rw [<- e];exact XZ.out.1.mono X2.out.2.size,aD X2.out.2 XZ.out.2.2 lz9⟩
end Go.Proofs.YticfnglebbakkaaGreatDoor
