/-
  Parts of the proof.
-/
import Derived.Test.YtpfdapnfkghgkaaGreatDoorReadsProof9B20
import Derived.Test.YtpfdapnfkghgkaaGreatDoorReadsProof9B21
import Derived.Test.YtpfdapnfkghgkaaGreatDoorReadsProof9B22
set_option maxRecDepth 100000
set_option maxHeartbeats 8000000
namespace Go.Proofs.YtpfdapnfkghgkaaGreatDoor
open Go Go.RowKit
theorem eQ(W:World)(L:List (Int × Int))(hl:L.length<=1000):RR W.heap.size (W.alloc (.cells (aM L).toArray 99)) (.slice (some ⟨W.heap.size,0,none⟩) L.length L.length) L:=by
 have:=World.ownsRow_lit (base:=W.heap.size) (e:=99) (size:=2) W (aM L).toArray L.length lz9 (by unfold maxLen;omega) (by simp [cO])
 exact this
theorem aF(l m:List UInt8)(b:Bool)(h:(l==m)=b):((ByteArray.mk l.toArray).toList==m)=b:=by
 rw [ByteArray.toList_mk]
 exact h
theorem sV(w:World):Calls Tryz.prog 157 #[.string ⟨#[97,108,110,117,109]⟩] w (cB w [(48,57),(65,90),(97,122)]):=by
 have n0:((⟨#[97,108,110,117,109]⟩:ByteArray).toList==[97,108,110,117,109])=true:=aF [97,108,110,117,109] _ _ (by decide)
 have n1:((⟨#[97,108,110,117,109]⟩:ByteArray).toList==[97,108,112,104,97])=false:=aF [97,108,110,117,109] _ _ (by decide)
 have n2:((⟨#[97,108,110,117,109]⟩:ByteArray).toList==[98,108,97,110,107])=false:=aF [97,108,110,117,109] _ _ (by decide)
 have n3:((⟨#[97,108,110,117,109]⟩:ByteArray).toList==[99,110,116,114,108])=false:=aF [97,108,110,117,109] _ _ (by decide)
 have n4:((⟨#[97,108,110,117,109]⟩:ByteArray).toList==[100,105,103,105,116])=false:=aF [97,108,110,117,109] _ _ (by decide)
 have n5:((⟨#[97,108,110,117,109]⟩:ByteArray).toList==[103,114,97,112,104])=false:=aF [97,108,110,117,109] _ _ (by decide)
 have n6:((⟨#[97,108,110,117,109]⟩:ByteArray).toList==[108,111,119,101,114])=false:=aF [97,108,110,117,109] _ _ (by decide)
 have n7:((⟨#[97,108,110,117,109]⟩:ByteArray).toList==[112,114,105,110,116])=false:=aF [97,108,110,117,109] _ _ (by decide)
 have n8:((⟨#[97,108,110,117,109]⟩:ByteArray).toList==[112,117,110,99,116])=false:=aF [97,108,110,117,109] _ _ (by decide)
 have n9:((⟨#[97,108,110,117,109]⟩:ByteArray).toList==[115,112,97,99,101])=false:=aF [97,108,110,117,109] _ _ (by decide)
 have n10:((⟨#[97,108,110,117,109]⟩:ByteArray).toList==[117,112,112,101,114])=false:=aF [97,108,110,117,109] _ _ (by decide)
 have n11:((⟨#[97,108,110,117,109]⟩:ByteArray).toList==[120,100,105,103,105,116])=false:=aF [97,108,110,117,109] _ _ (by decide)
 go_enter Tryz.func157,Tryz.ntmps157
 go_wp2
 go_ret2
 exact⟨_,rfl,eQ w [(48,57),(65,90),(97,122)] (by simp),bz9⟩
theorem sU(w:World):Calls Tryz.prog 157 #[.string ⟨#[97,108,112,104,97]⟩] w (cB w [(65,90),(97,122)]):=by
 have n0:((⟨#[97,108,112,104,97]⟩:ByteArray).toList==[97,108,110,117,109])=false:=aF [97,108,112,104,97] _ _ (by decide)
 have n1:((⟨#[97,108,112,104,97]⟩:ByteArray).toList==[97,108,112,104,97])=true:=aF [97,108,112,104,97] _ _ (by decide)
 have n2:((⟨#[97,108,112,104,97]⟩:ByteArray).toList==[98,108,97,110,107])=false:=aF [97,108,112,104,97] _ _ (by decide)
 have n3:((⟨#[97,108,112,104,97]⟩:ByteArray).toList==[99,110,116,114,108])=false:=aF [97,108,112,104,97] _ _ (by decide)
 have n4:((⟨#[97,108,112,104,97]⟩:ByteArray).toList==[100,105,103,105,116])=false:=aF [97,108,112,104,97] _ _ (by decide)
 have n5:((⟨#[97,108,112,104,97]⟩:ByteArray).toList==[103,114,97,112,104])=false:=aF [97,108,112,104,97] _ _ (by decide)
 have n6:((⟨#[97,108,112,104,97]⟩:ByteArray).toList==[108,111,119,101,114])=false:=aF [97,108,112,104,97] _ _ (by decide)
 have n7:((⟨#[97,108,112,104,97]⟩:ByteArray).toList==[112,114,105,110,116])=false:=aF [97,108,112,104,97] _ _ (by decide)
 have n8:((⟨#[97,108,112,104,97]⟩:ByteArray).toList==[112,117,110,99,116])=false:=aF [97,108,112,104,97] _ _ (by decide)
 have n9:((⟨#[97,108,112,104,97]⟩:ByteArray).toList==[115,112,97,99,101])=false:=aF [97,108,112,104,97] _ _ (by decide)
 have n10:((⟨#[97,108,112,104,97]⟩:ByteArray).toList==[117,112,112,101,114])=false:=aF [97,108,112,104,97] _ _ (by decide)
 have n11:((⟨#[97,108,112,104,97]⟩:ByteArray).toList==[120,100,105,103,105,116])=false:=aF [97,108,112,104,97] _ _ (by decide)
 go_enter Tryz.func157,Tryz.ntmps157
 go_wp2
 go_ret2
 exact⟨_,rfl,eQ w [(65,90),(97,122)] (by simp),bz9⟩
theorem sT(w:World):Calls Tryz.prog 157 #[.string ⟨#[98,108,97,110,107]⟩] w (cB w [(9,9),(32,32)]):=by
 have n0:((⟨#[98,108,97,110,107]⟩:ByteArray).toList==[97,108,110,117,109])=false:=aF [98,108,97,110,107] _ _ (by decide)
 have n1:((⟨#[98,108,97,110,107]⟩:ByteArray).toList==[97,108,112,104,97])=false:=aF [98,108,97,110,107] _ _ (by decide)
 have n2:((⟨#[98,108,97,110,107]⟩:ByteArray).toList==[98,108,97,110,107])=true:=aF [98,108,97,110,107] _ _ (by decide)
 have n3:((⟨#[98,108,97,110,107]⟩:ByteArray).toList==[99,110,116,114,108])=false:=aF [98,108,97,110,107] _ _ (by decide)
 have n4:((⟨#[98,108,97,110,107]⟩:ByteArray).toList==[100,105,103,105,116])=false:=aF [98,108,97,110,107] _ _ (by decide)
 have n5:((⟨#[98,108,97,110,107]⟩:ByteArray).toList==[103,114,97,112,104])=false:=aF [98,108,97,110,107] _ _ (by decide)
 have n6:((⟨#[98,108,97,110,107]⟩:ByteArray).toList==[108,111,119,101,114])=false:=aF [98,108,97,110,107] _ _ (by decide)
 have n7:((⟨#[98,108,97,110,107]⟩:ByteArray).toList==[112,114,105,110,116])=false:=aF [98,108,97,110,107] _ _ (by decide)
 have n8:((⟨#[98,108,97,110,107]⟩:ByteArray).toList==[112,117,110,99,116])=false:=aF [98,108,97,110,107] _ _ (by decide)
 have n9:((⟨#[98,108,97,110,107]⟩:ByteArray).toList==[115,112,97,99,101])=false:=aF [98,108,97,110,107] _ _ (by decide)
 have n10:((⟨#[98,108,97,110,107]⟩:ByteArray).toList==[117,112,112,101,114])=false:=aF [98,108,97,110,107] _ _ (by decide)
 have n11:((⟨#[98,108,97,110,107]⟩:ByteArray).toList==[120,100,105,103,105,116])=false:=aF [98,108,97,110,107] _ _ (by decide)
 go_enter Tryz.func157,Tryz.ntmps157
 go_wp2
 go_ret2
 exact⟨_,rfl,eQ w [(9,9),(32,32)] (by simp),bz9⟩
theorem sS(w:World):Calls Tryz.prog 157 #[.string ⟨#[99,110,116,114,108]⟩] w (cB w [(0,31),(127,127)]):=by
 have n0:((⟨#[99,110,116,114,108]⟩:ByteArray).toList==[97,108,110,117,109])=false:=aF [99,110,116,114,108] _ _ (by decide)
 have n1:((⟨#[99,110,116,114,108]⟩:ByteArray).toList==[97,108,112,104,97])=false:=aF [99,110,116,114,108] _ _ (by decide)
 have n2:((⟨#[99,110,116,114,108]⟩:ByteArray).toList==[98,108,97,110,107])=false:=aF [99,110,116,114,108] _ _ (by decide)
 have n3:((⟨#[99,110,116,114,108]⟩:ByteArray).toList==[99,110,116,114,108])=true:=aF [99,110,116,114,108] _ _ (by decide)
 have n4:((⟨#[99,110,116,114,108]⟩:ByteArray).toList==[100,105,103,105,116])=false:=aF [99,110,116,114,108] _ _ (by decide)
 have n5:((⟨#[99,110,116,114,108]⟩:ByteArray).toList==[103,114,97,112,104])=false:=aF [99,110,116,114,108] _ _ (by decide)
 have n6:((⟨#[99,110,116,114,108]⟩:ByteArray).toList==[108,111,119,101,114])=false:=aF [99,110,116,114,108] _ _ (by decide)
 have n7:((⟨#[99,110,116,114,108]⟩:ByteArray).toList==[112,114,105,110,116])=false:=aF [99,110,116,114,108] _ _ (by decide)
 have n8:((⟨#[99,110,116,114,108]⟩:ByteArray).toList==[112,117,110,99,116])=false:=aF [99,110,116,114,108] _ _ (by decide)
 have n9:((⟨#[99,110,116,114,108]⟩:ByteArray).toList==[115,112,97,99,101])=false:=aF [99,110,116,114,108] _ _ (by decide)
 have n10:((⟨#[99,110,116,114,108]⟩:ByteArray).toList==[117,112,112,101,114])=false:=aF [99,110,116,114,108] _ _ (by decide)
 have n11:((⟨#[99,110,116,114,108]⟩:ByteArray).toList==[120,100,105,103,105,116])=false:=aF [99,110,116,114,108] _ _ (by decide)
 go_enter Tryz.func157,Tryz.ntmps157
 go_wp2
 go_ret2
 exact⟨_,rfl,eQ w [(0,31),(127,127)] (by simp),bz9⟩
theorem sR(w:World):Calls Tryz.prog 157 #[.string ⟨#[100,105,103,105,116]⟩] w (cB w [(48,57)]):=by
 have n0:((⟨#[100,105,103,105,116]⟩:ByteArray).toList==[97,108,110,117,109])=false:=aF [100,105,103,105,116] _ _ (by decide)
 have n1:((⟨#[100,105,103,105,116]⟩:ByteArray).toList==[97,108,112,104,97])=false:=aF [100,105,103,105,116] _ _ (by decide)
 have n2:((⟨#[100,105,103,105,116]⟩:ByteArray).toList==[98,108,97,110,107])=false:=aF [100,105,103,105,116] _ _ (by decide)
 have n3:((⟨#[100,105,103,105,116]⟩:ByteArray).toList==[99,110,116,114,108])=false:=aF [100,105,103,105,116] _ _ (by decide)
 have n4:((⟨#[100,105,103,105,116]⟩:ByteArray).toList==[100,105,103,105,116])=true:=aF [100,105,103,105,116] _ _ (by decide)
 have n5:((⟨#[100,105,103,105,116]⟩:ByteArray).toList==[103,114,97,112,104])=false:=aF [100,105,103,105,116] _ _ (by decide)
 have n6:((⟨#[100,105,103,105,116]⟩:ByteArray).toList==[108,111,119,101,114])=false:=aF [100,105,103,105,116] _ _ (by decide)
 have n7:((⟨#[100,105,103,105,116]⟩:ByteArray).toList==[112,114,105,110,116])=false:=aF [100,105,103,105,116] _ _ (by decide)
 have n8:((⟨#[100,105,103,105,116]⟩:ByteArray).toList==[112,117,110,99,116])=false:=aF [100,105,103,105,116] _ _ (by decide)
 have n9:((⟨#[100,105,103,105,116]⟩:ByteArray).toList==[115,112,97,99,101])=false:=aF [100,105,103,105,116] _ _ (by decide)
 have n10:((⟨#[100,105,103,105,116]⟩:ByteArray).toList==[117,112,112,101,114])=false:=aF [100,105,103,105,116] _ _ (by decide)
 have n11:((⟨#[100,105,103,105,116]⟩:ByteArray).toList==[120,100,105,103,105,116])=false:=aF [100,105,103,105,116] _ _ (by decide)
 go_enter Tryz.func157,Tryz.ntmps157
 go_wp2
 go_ret2
 exact⟨_,rfl,eQ w [(48,57)] (by simp),bz9⟩
theorem sQ(w:World):Calls Tryz.prog 157 #[.string ⟨#[103,114,97,112,104]⟩] w (cB w [(33,126)]):=by
 have n0:((⟨#[103,114,97,112,104]⟩:ByteArray).toList==[97,108,110,117,109])=false:=aF [103,114,97,112,104] _ _ (by decide)
 have n1:((⟨#[103,114,97,112,104]⟩:ByteArray).toList==[97,108,112,104,97])=false:=aF [103,114,97,112,104] _ _ (by decide)
 have n2:((⟨#[103,114,97,112,104]⟩:ByteArray).toList==[98,108,97,110,107])=false:=aF [103,114,97,112,104] _ _ (by decide)
 have n3:((⟨#[103,114,97,112,104]⟩:ByteArray).toList==[99,110,116,114,108])=false:=aF [103,114,97,112,104] _ _ (by decide)
 have n4:((⟨#[103,114,97,112,104]⟩:ByteArray).toList==[100,105,103,105,116])=false:=aF [103,114,97,112,104] _ _ (by decide)
 have n5:((⟨#[103,114,97,112,104]⟩:ByteArray).toList==[103,114,97,112,104])=true:=aF [103,114,97,112,104] _ _ (by decide)
 have n6:((⟨#[103,114,97,112,104]⟩:ByteArray).toList==[108,111,119,101,114])=false:=aF [103,114,97,112,104] _ _ (by decide)
 have n7:((⟨#[103,114,97,112,104]⟩:ByteArray).toList==[112,114,105,110,116])=false:=aF [103,114,97,112,104] _ _ (by decide)
 have n8:((⟨#[103,114,97,112,104]⟩:ByteArray).toList==[112,117,110,99,116])=false:=aF [103,114,97,112,104] _ _ (by decide)
 have n9:((⟨#[103,114,97,112,104]⟩:ByteArray).toList==[115,112,97,99,101])=false:=aF [103,114,97,112,104] _ _ (by decide)
 have n10:((⟨#[103,114,97,112,104]⟩:ByteArray).toList==[117,112,112,101,114])=false:=aF [103,114,97,112,104] _ _ (by decide)
 have n11:((⟨#[103,114,97,112,104]⟩:ByteArray).toList==[120,100,105,103,105,116])=false:=aF [103,114,97,112,104] _ _ (by decide)
 go_enter Tryz.func157,Tryz.ntmps157
 go_wp2
 go_ret2
 exact⟨_,rfl,eQ w [(33,126)] (by simp),bz9⟩
theorem sP(w:World):Calls Tryz.prog 157 #[.string ⟨#[108,111,119,101,114]⟩] w (cB w [(97,122)]):=by
 have n0:((⟨#[108,111,119,101,114]⟩:ByteArray).toList==[97,108,110,117,109])=false:=aF [108,111,119,101,114] _ _ (by decide)
 have n1:((⟨#[108,111,119,101,114]⟩:ByteArray).toList==[97,108,112,104,97])=false:=aF [108,111,119,101,114] _ _ (by decide)
 have n2:((⟨#[108,111,119,101,114]⟩:ByteArray).toList==[98,108,97,110,107])=false:=aF [108,111,119,101,114] _ _ (by decide)
 have n3:((⟨#[108,111,119,101,114]⟩:ByteArray).toList==[99,110,116,114,108])=false:=aF [108,111,119,101,114] _ _ (by decide)
 have n4:((⟨#[108,111,119,101,114]⟩:ByteArray).toList==[100,105,103,105,116])=false:=aF [108,111,119,101,114] _ _ (by decide)
 have n5:((⟨#[108,111,119,101,114]⟩:ByteArray).toList==[103,114,97,112,104])=false:=aF [108,111,119,101,114] _ _ (by decide)
 have n6:((⟨#[108,111,119,101,114]⟩:ByteArray).toList==[108,111,119,101,114])=true:=aF [108,111,119,101,114] _ _ (by decide)
 have n7:((⟨#[108,111,119,101,114]⟩:ByteArray).toList==[112,114,105,110,116])=false:=aF [108,111,119,101,114] _ _ (by decide)
 have n8:((⟨#[108,111,119,101,114]⟩:ByteArray).toList==[112,117,110,99,116])=false:=aF [108,111,119,101,114] _ _ (by decide)
 have n9:((⟨#[108,111,119,101,114]⟩:ByteArray).toList==[115,112,97,99,101])=false:=aF [108,111,119,101,114] _ _ (by decide)
 have n10:((⟨#[108,111,119,101,114]⟩:ByteArray).toList==[117,112,112,101,114])=false:=aF [108,111,119,101,114] _ _ (by decide)
 have n11:((⟨#[108,111,119,101,114]⟩:ByteArray).toList==[120,100,105,103,105,116])=false:=aF [108,111,119,101,114] _ _ (by decide)
 go_enter Tryz.func157,Tryz.ntmps157
 go_wp2
 go_ret2
 exact⟨_,rfl,eQ w [(97,122)] (by simp),bz9⟩
theorem sO(w:World):Calls Tryz.prog 157 #[.string ⟨#[112,114,105,110,116]⟩] w (cB w [(32,126)]):=by
 have n0:((⟨#[112,114,105,110,116]⟩:ByteArray).toList==[97,108,110,117,109])=false:=aF [112,114,105,110,116] _ _ (by decide)
 have n1:((⟨#[112,114,105,110,116]⟩:ByteArray).toList==[97,108,112,104,97])=false:=aF [112,114,105,110,116] _ _ (by decide)
 have n2:((⟨#[112,114,105,110,116]⟩:ByteArray).toList==[98,108,97,110,107])=false:=aF [112,114,105,110,116] _ _ (by decide)
 have n3:((⟨#[112,114,105,110,116]⟩:ByteArray).toList==[99,110,116,114,108])=false:=aF [112,114,105,110,116] _ _ (by decide)
 have n4:((⟨#[112,114,105,110,116]⟩:ByteArray).toList==[100,105,103,105,116])=false:=aF [112,114,105,110,116] _ _ (by decide)
 have n5:((⟨#[112,114,105,110,116]⟩:ByteArray).toList==[103,114,97,112,104])=false:=aF [112,114,105,110,116] _ _ (by decide)
 have n6:((⟨#[112,114,105,110,116]⟩:ByteArray).toList==[108,111,119,101,114])=false:=aF [112,114,105,110,116] _ _ (by decide)
 have n7:((⟨#[112,114,105,110,116]⟩:ByteArray).toList==[112,114,105,110,116])=true:=aF [112,114,105,110,116] _ _ (by decide)
 have n8:((⟨#[112,114,105,110,116]⟩:ByteArray).toList==[112,117,110,99,116])=false:=aF [112,114,105,110,116] _ _ (by decide)
 have n9:((⟨#[112,114,105,110,116]⟩:ByteArray).toList==[115,112,97,99,101])=false:=aF [112,114,105,110,116] _ _ (by decide)
 have n10:((⟨#[112,114,105,110,116]⟩:ByteArray).toList==[117,112,112,101,114])=false:=aF [112,114,105,110,116] _ _ (by decide)
 have n11:((⟨#[112,114,105,110,116]⟩:ByteArray).toList==[120,100,105,103,105,116])=false:=aF [112,114,105,110,116] _ _ (by decide)
 go_enter Tryz.func157,Tryz.ntmps157
 go_wp2
 go_ret2
 exact⟨_,rfl,eQ w [(32,126)] (by simp),bz9⟩
theorem sN(w:World):Calls Tryz.prog 157 #[.string ⟨#[112,117,110,99,116]⟩] w (cB w [(33,47),(58,64),(91,96),(123,126)]):=by
 have n0:((⟨#[112,117,110,99,116]⟩:ByteArray).toList==[97,108,110,117,109])=false:=aF [112,117,110,99,116] _ _ (by decide)
 have n1:((⟨#[112,117,110,99,116]⟩:ByteArray).toList==[97,108,112,104,97])=false:=aF [112,117,110,99,116] _ _ (by decide)
 have n2:((⟨#[112,117,110,99,116]⟩:ByteArray).toList==[98,108,97,110,107])=false:=aF [112,117,110,99,116] _ _ (by decide)
 have n3:((⟨#[112,117,110,99,116]⟩:ByteArray).toList==[99,110,116,114,108])=false:=aF [112,117,110,99,116] _ _ (by decide)
 have n4:((⟨#[112,117,110,99,116]⟩:ByteArray).toList==[100,105,103,105,116])=false:=aF [112,117,110,99,116] _ _ (by decide)
 have n5:((⟨#[112,117,110,99,116]⟩:ByteArray).toList==[103,114,97,112,104])=false:=aF [112,117,110,99,116] _ _ (by decide)
 have n6:((⟨#[112,117,110,99,116]⟩:ByteArray).toList==[108,111,119,101,114])=false:=aF [112,117,110,99,116] _ _ (by decide)
 have n7:((⟨#[112,117,110,99,116]⟩:ByteArray).toList==[112,114,105,110,116])=false:=aF [112,117,110,99,116] _ _ (by decide)
 have n8:((⟨#[112,117,110,99,116]⟩:ByteArray).toList==[112,117,110,99,116])=true:=aF [112,117,110,99,116] _ _ (by decide)
 have n9:((⟨#[112,117,110,99,116]⟩:ByteArray).toList==[115,112,97,99,101])=false:=aF [112,117,110,99,116] _ _ (by decide)
 have n10:((⟨#[112,117,110,99,116]⟩:ByteArray).toList==[117,112,112,101,114])=false:=aF [112,117,110,99,116] _ _ (by decide)
 have n11:((⟨#[112,117,110,99,116]⟩:ByteArray).toList==[120,100,105,103,105,116])=false:=aF [112,117,110,99,116] _ _ (by decide)
 go_enter Tryz.func157,Tryz.ntmps157
 go_wp2
 go_ret2
 exact⟨_,rfl,eQ w [(33,47),(58,64),(91,96),(123,126)] (by simp),bz9⟩
theorem sM(w:World):Calls Tryz.prog 157 #[.string ⟨#[115,112,97,99,101]⟩] w (cB w [(9,13),(32,32)]):=by
 have n0:((⟨#[115,112,97,99,101]⟩:ByteArray).toList==[97,108,110,117,109])=false:=aF [115,112,97,99,101] _ _ (by decide)
 have n1:((⟨#[115,112,97,99,101]⟩:ByteArray).toList==[97,108,112,104,97])=false:=aF [115,112,97,99,101] _ _ (by decide)
 have n2:((⟨#[115,112,97,99,101]⟩:ByteArray).toList==[98,108,97,110,107])=false:=aF [115,112,97,99,101] _ _ (by decide)
 have n3:((⟨#[115,112,97,99,101]⟩:ByteArray).toList==[99,110,116,114,108])=false:=aF [115,112,97,99,101] _ _ (by decide)
 have n4:((⟨#[115,112,97,99,101]⟩:ByteArray).toList==[100,105,103,105,116])=false:=aF [115,112,97,99,101] _ _ (by decide)
 have n5:((⟨#[115,112,97,99,101]⟩:ByteArray).toList==[103,114,97,112,104])=false:=aF [115,112,97,99,101] _ _ (by decide)
 have n6:((⟨#[115,112,97,99,101]⟩:ByteArray).toList==[108,111,119,101,114])=false:=aF [115,112,97,99,101] _ _ (by decide)
 have n7:((⟨#[115,112,97,99,101]⟩:ByteArray).toList==[112,114,105,110,116])=false:=aF [115,112,97,99,101] _ _ (by decide)
 have n8:((⟨#[115,112,97,99,101]⟩:ByteArray).toList==[112,117,110,99,116])=false:=aF [115,112,97,99,101] _ _ (by decide)
 have n9:((⟨#[115,112,97,99,101]⟩:ByteArray).toList==[115,112,97,99,101])=true:=aF [115,112,97,99,101] _ _ (by decide)
 have n10:((⟨#[115,112,97,99,101]⟩:ByteArray).toList==[117,112,112,101,114])=false:=aF [115,112,97,99,101] _ _ (by decide)
 have n11:((⟨#[115,112,97,99,101]⟩:ByteArray).toList==[120,100,105,103,105,116])=false:=aF [115,112,97,99,101] _ _ (by decide)
 go_enter Tryz.func157,Tryz.ntmps157
 go_wp2
 go_ret2
 exact⟨_,rfl,eQ w [(9,13),(32,32)] (by simp),bz9⟩
theorem sL(w:World):Calls Tryz.prog 157 #[.string ⟨#[117,112,112,101,114]⟩] w (cB w [(65,90)]):=by
 have n0:((⟨#[117,112,112,101,114]⟩:ByteArray).toList==[97,108,110,117,109])=false:=aF [117,112,112,101,114] _ _ (by decide)
 have n1:((⟨#[117,112,112,101,114]⟩:ByteArray).toList==[97,108,112,104,97])=false:=aF [117,112,112,101,114] _ _ (by decide)
 have n2:((⟨#[117,112,112,101,114]⟩:ByteArray).toList==[98,108,97,110,107])=false:=aF [117,112,112,101,114] _ _ (by decide)
 have n3:((⟨#[117,112,112,101,114]⟩:ByteArray).toList==[99,110,116,114,108])=false:=aF [117,112,112,101,114] _ _ (by decide)
 have n4:((⟨#[117,112,112,101,114]⟩:ByteArray).toList==[100,105,103,105,116])=false:=aF [117,112,112,101,114] _ _ (by decide)
 have n5:((⟨#[117,112,112,101,114]⟩:ByteArray).toList==[103,114,97,112,104])=false:=aF [117,112,112,101,114] _ _ (by decide)
 have n6:((⟨#[117,112,112,101,114]⟩:ByteArray).toList==[108,111,119,101,114])=false:=aF [117,112,112,101,114] _ _ (by decide)
 have n7:((⟨#[117,112,112,101,114]⟩:ByteArray).toList==[112,114,105,110,116])=false:=aF [117,112,112,101,114] _ _ (by decide)
 have n8:((⟨#[117,112,112,101,114]⟩:ByteArray).toList==[112,117,110,99,116])=false:=aF [117,112,112,101,114] _ _ (by decide)
 have n9:((⟨#[117,112,112,101,114]⟩:ByteArray).toList==[115,112,97,99,101])=false:=aF [117,112,112,101,114] _ _ (by decide)
 have n10:((⟨#[117,112,112,101,114]⟩:ByteArray).toList==[117,112,112,101,114])=true:=aF [117,112,112,101,114] _ _ (by decide)
 have n11:((⟨#[117,112,112,101,114]⟩:ByteArray).toList==[120,100,105,103,105,116])=false:=aF [117,112,112,101,114] _ _ (by decide)
 go_enter Tryz.func157,Tryz.ntmps157
 go_wp2
 go_ret2
 exact⟨_,rfl,eQ w [(65,90)] (by simp),bz9⟩
theorem qT(w:World):Calls Tryz.prog 157 #[.string ⟨#[120,100,105,103,105,116]⟩] w (cB w [(48,57),(65,70),(97,102)]):=by
 have n0:((⟨#[120,100,105,103,105,116]⟩:ByteArray).toList==[97,108,110,117,109])=false:=aF [120,100,105,103,105,116] _ _ (by decide)
 have n1:((⟨#[120,100,105,103,105,116]⟩:ByteArray).toList==[97,108,112,104,97])=false:=aF [120,100,105,103,105,116] _ _ (by decide)
 have n2:((⟨#[120,100,105,103,105,116]⟩:ByteArray).toList==[98,108,97,110,107])=false:=aF [120,100,105,103,105,116] _ _ (by decide)
 have n3:((⟨#[120,100,105,103,105,116]⟩:ByteArray).toList==[99,110,116,114,108])=false:=aF [120,100,105,103,105,116] _ _ (by decide)
 have n4:((⟨#[120,100,105,103,105,116]⟩:ByteArray).toList==[100,105,103,105,116])=false:=aF [120,100,105,103,105,116] _ _ (by decide)
 have n5:((⟨#[120,100,105,103,105,116]⟩:ByteArray).toList==[103,114,97,112,104])=false:=aF [120,100,105,103,105,116] _ _ (by decide)
 have n6:((⟨#[120,100,105,103,105,116]⟩:ByteArray).toList==[108,111,119,101,114])=false:=aF [120,100,105,103,105,116] _ _ (by decide)
 have n7:((⟨#[120,100,105,103,105,116]⟩:ByteArray).toList==[112,114,105,110,116])=false:=aF [120,100,105,103,105,116] _ _ (by decide)
 have n8:((⟨#[120,100,105,103,105,116]⟩:ByteArray).toList==[112,117,110,99,116])=false:=aF [120,100,105,103,105,116] _ _ (by decide)
 have n9:((⟨#[120,100,105,103,105,116]⟩:ByteArray).toList==[115,112,97,99,101])=false:=aF [120,100,105,103,105,116] _ _ (by decide)
 have n10:((⟨#[120,100,105,103,105,116]⟩:ByteArray).toList==[117,112,112,101,114])=false:=aF [120,100,105,103,105,116] _ _ (by decide)
 have n11:((⟨#[120,100,105,103,105,116]⟩:ByteArray).toList==[120,100,105,103,105,116])=true:=aF [120,100,105,103,105,116] _ _ (by decide)
 go_enter Tryz.func157,Tryz.ntmps157
 go_wp2
 go_ret2
 exact⟨_,rfl,eQ w [(48,57),(65,70),(97,102)] (by simp),bz9⟩
theorem uO{s:ByteArray}(w:World)(n0:(s.toList==[97,108,110,117,109])=false)(n1:(s.toList==[97,108,112,104,97])=false)(n2:(s.toList==[98,108,97,110,107])=false)(n3:(s.toList==[99,110,116,114,108])=false)(n4:(s.toList==[100,105,103,105,116])=false)(n5:(s.toList==[103,114,97,112,104])=false)(n6:(s.toList==[108,111,119,101,114])=false)(n7:(s.toList==[112,114,105,110,116])=false)(n8:(s.toList==[112,117,110,99,116])=false)(n9:(s.toList==[115,112,97,99,101])=false)(n10:(s.toList==[117,112,112,101,114])=false)(n11:(s.toList==[120,100,105,103,105,116])=false) :
  Calls Tryz.prog 157 #[.string s] w fun e w'=>e=.returned (.tuple #[.slice none 0 0,.bool false])/\w'=w:=by
 go_enter Tryz.func157,Tryz.ntmps157
 go_wp2
 go_ret2
 exact⟨rfl,rfl⟩
theorem rG(s:ByteArray)(w:World):Calls Tryz.prog 157 #[.string s] w (qL w (nmd s).1 (nmd s).2):=by
 unfold nmd
 cases h0:(s.toList==[97,108,110,117,109]) with
 | true=>
  simp only [if_true]
  rw [bZ h0]
  exact sV w
 | false=>
 cases h1:(s.toList==[97,108,112,104,97]) with
 | true=>
  simp only [if_true,Bool.false_eq_true,if_false]
  rw [bZ h1]
  exact sU w
 | false=>
 cases h2:(s.toList==[98,108,97,110,107]) with
 | true=>
  simp only [if_true,Bool.false_eq_true,if_false]
  rw [bZ h2]
  exact sT w
 | false=>
 cases h3:(s.toList==[99,110,116,114,108]) with
 | true=>
  simp only [if_true,Bool.false_eq_true,if_false]
  rw [bZ h3]
  exact sS w
 | false=>
 cases h4:(s.toList==[100,105,103,105,116]) with
 | true=>
  simp only [if_true,Bool.false_eq_true,if_false]
  rw [bZ h4]
  exact sR w
 | false=>
 cases h5:(s.toList==[103,114,97,112,104]) with
 | true=>
  simp only [if_true,Bool.false_eq_true,if_false]
  rw [bZ h5]
  exact sQ w
 | false=>
 cases h6:(s.toList==[108,111,119,101,114]) with
 | true=>
  simp only [if_true,Bool.false_eq_true,if_false]
  rw [bZ h6]
  exact sP w
 | false=>
 cases h7:(s.toList==[112,114,105,110,116]) with
 | true=>
  simp only [if_true,Bool.false_eq_true,if_false]
  rw [bZ h7]
  exact sO w
 | false=>
 cases h8:(s.toList==[112,117,110,99,116]) with
 | true=>
  simp only [if_true,Bool.false_eq_true,if_false]
  rw [bZ h8]
  exact sN w
 | false=>
 cases h9:(s.toList==[115,112,97,99,101]) with
 | true=>
  simp only [if_true,Bool.false_eq_true,if_false]
  rw [bZ h9]
  exact sM w
 | false=>
 cases h10:(s.toList==[117,112,112,101,114]) with
 | true=>
  simp only [if_true,Bool.false_eq_true,if_false]
  rw [bZ h10]
  exact sL w
 | false=>
 cases h11:(s.toList==[120,100,105,103,105,116]) with
 | true=>
  simp only [if_true,Bool.false_eq_true,if_false]
  rw [bZ h11]
  exact qT w
 | false=>
 simp only [Bool.false_eq_true,if_false]
 exact(uO w h0 h1 h2 h3 h4 h5 h6 h7 h8 h9 h10 h11).mono fun e w' ⟨q1,q2⟩=>⟨_,q1,RR.nil _ _,by rw [q2];exact Below.refl _ _⟩
end Go.Proofs.YtpfdapnfkghgkaaGreatDoor
