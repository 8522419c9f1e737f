/-
  What the library does with texts, as it lies in this program. Laid by program at this seat: at another seat lay it anew (NOTES.md). Units of a text: what the program's own calls tell. Next, Valid, Column: contracts. The reader in memory; what stands where it is; what is wrong. The last token; units; a character. Lists of tokens in memory. Parts of a tree in memory, ahead of it; the builder in memory. The builder's calls: sees, take. The builder's things and groups. The builder's items.
-/
import Derived.Shelf.Strings.Search1
import Derived.Shelf.Strings.Search2
import Derived.Shelf.Strings.Search3
import Derived.Shelf.Strings.Prefix
import Derived.Shelf.Unicode.Decode
import Derived.Shelf.Unicode.DecodeSlow
import Derived.Shelf.Unicode.DecodeAny
import Derived.Test.YtpfdapnfkghgkaaGreatDoorProg
import Derived.Test.YtpfdapnfkghgkaaGreatDoorC0
import Derived.Test.YtpfdapnfkghgkaaGreatDoorC1
import Derived.Lib.OthersKept
namespace Go.Proofs
open Go.Shelf
def Tryz.lays217_ren : Go.Shelf.Ren := ⟨fun | 217 => 179 | 266 => 184 | n => n, fun | 9 => 9 | 5 => 5 | 3 => 3 | n => n, fun | n => n⟩
theorem Tryz.lays217 : Go.Proofs.Lays.n217 Tryz.prog Tryz.lays217_ren := {
  mixed := by kernel_rfl
  f217 := Tryz.func179.trans (congrArg some (by kernel_rfl))
  f266 := Tryz.func184.trans (congrArg some (by kernel_rfl))
  t3 := Tryz.underlying3
  a3 := Tryz.isAgg3
  z3 := Tryz.sizeOf3
  v3 := Tryz.zeroValue3
  t5 := Tryz.underlying5
  a5 := Tryz.isAgg5
  z5 := Tryz.sizeOf5
  v5 := Tryz.zeroValue5
  t9 := Tryz.underlying9
  a9 := Tryz.isAgg9
  z9 := Tryz.sizeOf9
  v9 := Tryz.zeroValue9 }
open Go.RowKit Go.Lib in
theorem Tryz.stringslite_IndexByte (s : ByteArray) (c : Int) (w : World) :
    Calls Tryz.prog 179 #[.string s, .int .u8 c] w fun e w' => e = .returned (.int .i64 (Lib.indexByte s.data.toList c.toNat.toUInt8)) ∧ w' = w := Any.stringslite_IndexByte Tryz.lays217 s c w
def Tryz.lays224_ren : Go.Shelf.Ren := ⟨fun | 224 => 181 | n => n, fun | 3 => 3 | n => n, fun | n => n⟩
theorem Tryz.lays224 : Go.Proofs.Lays.n224 Tryz.prog Tryz.lays224_ren := {
  mixed := by kernel_rfl
  f224 := Tryz.func181.trans (congrArg some (by kernel_rfl))
  t3 := Tryz.underlying3
  a3 := Tryz.isAgg3
  z3 := Tryz.sizeOf3
  v3 := Tryz.zeroValue3 }
open Go.RowKit Go.Lib in
theorem Tryz.bytealg_Cutover (n : Int) (h0 : 0 ≤ n) (h1 : n < 4611686018427387904) (w : World) :
    Calls Tryz.prog 181 #[.int .i64 n] w fun e w' => e = .returned (.int .i64 ((n + 16) / 8)) ∧ w' = w := Any.bytealg_Cutover Tryz.lays224 n h0 h1 w
def Tryz.lays314_ren : Go.Shelf.Ren := ⟨fun | 314 => 185 | n => n, fun | 9 => 9 | 51 => 203 | 3 => 3 | 4 => 4 | 5 => 5 | 46 => 189 | n => n, fun | n => n⟩
theorem Tryz.lays314 : Go.Proofs.Lays.n314 Tryz.prog Tryz.lays314_ren := {
  mixed := by kernel_rfl
  f314 := Tryz.func185.trans (congrArg some (by kernel_rfl))
  t3 := Tryz.underlying3
  a3 := Tryz.isAgg3
  z3 := Tryz.sizeOf3
  v3 := Tryz.zeroValue3
  t4 := Tryz.underlying4
  a4 := Tryz.isAgg4
  z4 := Tryz.sizeOf4
  v4 := Tryz.zeroValue4
  t5 := Tryz.underlying5
  a5 := Tryz.isAgg5
  z5 := Tryz.sizeOf5
  v5 := Tryz.zeroValue5
  t9 := Tryz.underlying9
  a9 := Tryz.isAgg9
  z9 := Tryz.sizeOf9
  v9 := Tryz.zeroValue9
  t46 := Tryz.underlying189
  a46 := Tryz.isAgg189
  z46 := Tryz.sizeOf189
  v46 := Tryz.zeroValue189
  t51 := Tryz.underlying203
  a51 := Tryz.isAgg203
  z51 := Tryz.sizeOf203
  v51 := Tryz.zeroValue203 }
open Go.RowKit Go.Lib in
theorem Tryz.bytealg_hashStr (sep : ByteArray) (hs : sep.size < 4294967281) (w : World) :
    Calls Tryz.prog 185 #[.string sep] w fun e w' => e = .returned (.tuple #[.int .u32 (RK.H sep.data.toList % 4294967296), .int .u32 (16777619 ^ sep.size % 4294967296)]) ∧ w' = w := Any.bytealg_hashStr Tryz.lays314 sep hs w
def Tryz.lays267_ren : Go.Shelf.Ren := ⟨fun | 267 => 182 | 314 => 185 | n => n, fun | 9 => 9 | 3 => 3 | 146 => 219 | 51 => 203 | 4 => 4 | 5 => 5 | 46 => 189 | n => n, fun | n => n⟩
theorem Tryz.lays267 : Go.Proofs.Lays.n267 Tryz.prog Tryz.lays267_ren := {
  mixed := by kernel_rfl
  f267 := Tryz.func182.trans (congrArg some (by kernel_rfl))
  f314 := Tryz.func185.trans (congrArg some (by kernel_rfl))
  t3 := Tryz.underlying3
  a3 := Tryz.isAgg3
  z3 := Tryz.sizeOf3
  v3 := Tryz.zeroValue3
  t4 := Tryz.underlying4
  a4 := Tryz.isAgg4
  z4 := Tryz.sizeOf4
  v4 := Tryz.zeroValue4
  t5 := Tryz.underlying5
  a5 := Tryz.isAgg5
  z5 := Tryz.sizeOf5
  v5 := Tryz.zeroValue5
  t9 := Tryz.underlying9
  a9 := Tryz.isAgg9
  z9 := Tryz.sizeOf9
  v9 := Tryz.zeroValue9
  t46 := Tryz.underlying189
  a46 := Tryz.isAgg189
  z46 := Tryz.sizeOf189
  v46 := Tryz.zeroValue189
  t51 := Tryz.underlying203
  a51 := Tryz.isAgg203
  z51 := Tryz.sizeOf203
  v51 := Tryz.zeroValue203
  t146 := Tryz.underlying219
  a146 := Tryz.isAgg219
  z146 := Tryz.sizeOf219
  v146 := Tryz.zeroValue219 }
open Go.RowKit Go.Lib in
theorem Tryz.bytealg_IndexRabinKarp (s sep : ByteArray) (h1 : 1 ≤ sep.size) (h2 : sep.size ≤ s.size) (hs : s.size < 4294967281) (w : World) :
    Calls Tryz.prog 182 #[.string s, .string sep] w fun e w' => e = .returned (.int .i64 (Lib.index s.data.toList sep.data.toList)) ∧ w' = w := Any.bytealg_IndexRabinKarp Tryz.lays267 s sep h1 h2 hs w
def Tryz.lays219_ren : Go.Shelf.Ren := ⟨fun | 219 => 173 | 217 => 179 | 225 => 180 | 224 => 181 | 267 => 182 | 266 => 184 | 314 => 185 | n => n, fun | 9 => 9 | 3 => 3 | 4 => 4 | 5 => 5 | 46 => 189 | 146 => 219 | 51 => 203 | n => n, fun | 1 => 2 | n => n⟩
theorem Tryz.lays219 : Go.Proofs.Lays.n219 Tryz.prog Tryz.lays219_ren := {
  mixed := by kernel_rfl
  f217 := Tryz.func179.trans (congrArg some (by kernel_rfl))
  f219 := Tryz.func173.trans (congrArg some (by kernel_rfl))
  f224 := Tryz.func181.trans (congrArg some (by kernel_rfl))
  f225 := Tryz.func180.trans (congrArg some (by kernel_rfl))
  f266 := Tryz.func184.trans (congrArg some (by kernel_rfl))
  f267 := Tryz.func182.trans (congrArg some (by kernel_rfl))
  f314 := Tryz.func185.trans (congrArg some (by kernel_rfl))
  t3 := Tryz.underlying3
  a3 := Tryz.isAgg3
  z3 := Tryz.sizeOf3
  v3 := Tryz.zeroValue3
  t4 := Tryz.underlying4
  a4 := Tryz.isAgg4
  z4 := Tryz.sizeOf4
  v4 := Tryz.zeroValue4
  t5 := Tryz.underlying5
  a5 := Tryz.isAgg5
  z5 := Tryz.sizeOf5
  v5 := Tryz.zeroValue5
  t9 := Tryz.underlying9
  a9 := Tryz.isAgg9
  z9 := Tryz.sizeOf9
  v9 := Tryz.zeroValue9
  t46 := Tryz.underlying189
  a46 := Tryz.isAgg189
  z46 := Tryz.sizeOf189
  v46 := Tryz.zeroValue189
  t51 := Tryz.underlying203
  a51 := Tryz.isAgg203
  z51 := Tryz.sizeOf203
  v51 := Tryz.zeroValue203
  t146 := Tryz.underlying219
  a146 := Tryz.isAgg219
  z146 := Tryz.sizeOf219
  v146 := Tryz.zeroValue219
  g1 := by kernel_rfl }
open Go.RowKit Go.Lib in
theorem Tryz.stringslite_Index_one (s : ByteArray) (c : UInt8) (w : World) :
    Calls Tryz.prog 173 #[.string s, .string ⟨#[c]⟩] w fun e w' => e = .returned (.int .i64 (Lib.indexByte s.data.toList c)) ∧ w' = w := Any.stringslite_Index_one Tryz.lays219 s c w
open Go.RowKit Go.Lib in
theorem Tryz.stringslite_Index (s sub : ByteArray) (m : Int) (w : World) (hs : s.size < 4294967281) (hm : w.cell? ⟨2, 0, none⟩ = some (.int .i64 m)) :
    Calls Tryz.prog 173 #[.string s, .string sub] w fun e w' => e = .returned (.int .i64 (Lib.index s.data.toList sub.data.toList)) ∧ w' = w := Any.stringslite_Index Tryz.lays219 s sub m w hs hm
def Tryz.lays143_ren : Go.Shelf.Ren := ⟨fun | 143 => 161 | 219 => 173 | 217 => 179 | 225 => 180 | 224 => 181 | 267 => 182 | 266 => 184 | 314 => 185 | n => n, fun | 9 => 9 | 3 => 3 | 4 => 4 | 5 => 5 | 46 => 189 | 146 => 219 | 51 => 203 | n => n, fun | 1 => 2 | n => n⟩
theorem Tryz.lays143 : Go.Proofs.Lays.n143 Tryz.prog Tryz.lays143_ren := {
  mixed := by kernel_rfl
  f143 := Tryz.func161.trans (congrArg some (by kernel_rfl))
  f217 := Tryz.func179.trans (congrArg some (by kernel_rfl))
  f219 := Tryz.func173.trans (congrArg some (by kernel_rfl))
  f224 := Tryz.func181.trans (congrArg some (by kernel_rfl))
  f225 := Tryz.func180.trans (congrArg some (by kernel_rfl))
  f266 := Tryz.func184.trans (congrArg some (by kernel_rfl))
  f267 := Tryz.func182.trans (congrArg some (by kernel_rfl))
  f314 := Tryz.func185.trans (congrArg some (by kernel_rfl))
  t3 := Tryz.underlying3
  a3 := Tryz.isAgg3
  z3 := Tryz.sizeOf3
  v3 := Tryz.zeroValue3
  t4 := Tryz.underlying4
  a4 := Tryz.isAgg4
  z4 := Tryz.sizeOf4
  v4 := Tryz.zeroValue4
  t5 := Tryz.underlying5
  a5 := Tryz.isAgg5
  z5 := Tryz.sizeOf5
  v5 := Tryz.zeroValue5
  t9 := Tryz.underlying9
  a9 := Tryz.isAgg9
  z9 := Tryz.sizeOf9
  v9 := Tryz.zeroValue9
  t46 := Tryz.underlying189
  a46 := Tryz.isAgg189
  z46 := Tryz.sizeOf189
  v46 := Tryz.zeroValue189
  t51 := Tryz.underlying203
  a51 := Tryz.isAgg203
  z51 := Tryz.sizeOf203
  v51 := Tryz.zeroValue203
  t146 := Tryz.underlying219
  a146 := Tryz.isAgg219
  z146 := Tryz.sizeOf219
  v146 := Tryz.zeroValue219
  g1 := by kernel_rfl }
open Go.RowKit Go.Lib in
theorem Tryz.strings_Index_one (s : ByteArray) (c : UInt8) (w : World) :
    Calls Tryz.prog 161 #[.string s, .string ⟨#[c]⟩] w fun e w' => e = .returned (.int .i64 (Lib.indexByte s.data.toList c)) ∧ w' = w := Any.strings_Index_one Tryz.lays143 s c w
open Go.RowKit Go.Lib in
theorem Tryz.strings_Index (s sub : ByteArray) (m : Int) (w : World) (hs : s.size < 4294967281) (hm : w.cell? ⟨2, 0, none⟩ = some (.int .i64 m)) :
    Calls Tryz.prog 161 #[.string s, .string sub] w fun e w' => e = .returned (.int .i64 (Lib.index s.data.toList sub.data.toList)) ∧ w' = w := Any.strings_Index Tryz.lays143 s sub m w hs hm
def Tryz.lays206_ren : Go.Shelf.Ren := ⟨fun | 206 => 126 | n => n, fun | 9 => 9 | 4 => 4 | 3 => 3 | n => n, fun | n => n⟩
theorem Tryz.lays206 : Go.Proofs.Lays.n206 Tryz.prog Tryz.lays206_ren := {
  mixed := by kernel_rfl
  f206 := Tryz.func126.trans (congrArg some (by kernel_rfl))
  t3 := Tryz.underlying3
  a3 := Tryz.isAgg3
  z3 := Tryz.sizeOf3
  v3 := Tryz.zeroValue3
  t4 := Tryz.underlying4
  a4 := Tryz.isAgg4
  z4 := Tryz.sizeOf4
  v4 := Tryz.zeroValue4
  t9 := Tryz.underlying9
  a9 := Tryz.isAgg9
  z9 := Tryz.sizeOf9
  v9 := Tryz.zeroValue9 }
open Go.RowKit Go.Lib in
theorem Tryz.stringslite_HasPrefix (s p : ByteArray) (w : World) :
    Calls Tryz.prog 126 #[.string s, .string p] w fun e w' => e = .returned (.bool (Lib.hasPrefix s.data.toList p.data.toList)) ∧ w' = w := Any.stringslite_HasPrefix Tryz.lays206 s p w
def Tryz.lays99_ren : Go.Shelf.Ren := ⟨fun | 99 => 105 | 206 => 126 | n => n, fun | 9 => 9 | 4 => 4 | 3 => 3 | n => n, fun | n => n⟩
theorem Tryz.lays99 : Go.Proofs.Lays.n99 Tryz.prog Tryz.lays99_ren := {
  mixed := by kernel_rfl
  f99 := Tryz.func105.trans (congrArg some (by kernel_rfl))
  f206 := Tryz.func126.trans (congrArg some (by kernel_rfl))
  t3 := Tryz.underlying3
  a3 := Tryz.isAgg3
  z3 := Tryz.sizeOf3
  v3 := Tryz.zeroValue3
  t4 := Tryz.underlying4
  a4 := Tryz.isAgg4
  z4 := Tryz.sizeOf4
  v4 := Tryz.zeroValue4
  t9 := Tryz.underlying9
  a9 := Tryz.isAgg9
  z9 := Tryz.sizeOf9
  v9 := Tryz.zeroValue9 }
open Go.RowKit Go.Lib in
theorem Tryz.strings_HasPrefix (s p : ByteArray) (w : World) :
    Calls Tryz.prog 105 #[.string s, .string p] w fun e w' => e = .returned (.bool (Lib.hasPrefix s.data.toList p.data.toList)) ∧ w' = w := Any.strings_HasPrefix Tryz.lays99 s p w
def Tryz.lays197_ren : Go.Shelf.Ren := ⟨fun | 197 => 152 | 260 => 162 | n => n, fun | 9 => 9 | 21 => 21 | 3 => 3 | 4 => 4 | 5 => 5 | 105 => 185 | 119 => 206 | 0 => 0 | 46 => 189 | 139 => 209 | 138 => 208 | n => n, fun | 3 => 0 | 4 => 1 | n => n⟩
theorem Tryz.lays197 : Go.Proofs.Lays.n197 Tryz.prog Tryz.lays197_ren := {
  mixed := by kernel_rfl
  f197 := Tryz.func152.trans (congrArg some (by kernel_rfl))
  f260 := Tryz.func162.trans (congrArg some (by kernel_rfl))
  t0 := Tryz.underlying0
  a0 := Tryz.isAgg0
  z0 := Tryz.sizeOf0
  v0 := Tryz.zeroValue0
  t3 := Tryz.underlying3
  a3 := Tryz.isAgg3
  z3 := Tryz.sizeOf3
  v3 := Tryz.zeroValue3
  t4 := Tryz.underlying4
  a4 := Tryz.isAgg4
  z4 := Tryz.sizeOf4
  v4 := Tryz.zeroValue4
  t5 := Tryz.underlying5
  a5 := Tryz.isAgg5
  z5 := Tryz.sizeOf5
  v5 := Tryz.zeroValue5
  t9 := Tryz.underlying9
  a9 := Tryz.isAgg9
  z9 := Tryz.sizeOf9
  v9 := Tryz.zeroValue9
  t21 := Tryz.underlying21
  a21 := Tryz.isAgg21
  z21 := Tryz.sizeOf21
  v21 := Tryz.zeroValue21
  t46 := Tryz.underlying189
  a46 := Tryz.isAgg189
  z46 := Tryz.sizeOf189
  v46 := Tryz.zeroValue189
  t105 := Tryz.underlying185
  a105 := Tryz.isAgg185
  z105 := Tryz.sizeOf185
  v105 := Tryz.zeroValue185
  t119 := Tryz.underlying206
  a119 := Tryz.isAgg206
  z119 := Tryz.sizeOf206
  t138 := Tryz.underlying208
  a138 := Tryz.isAgg208
  z138 := Tryz.sizeOf208
  v138 := Tryz.zeroValue208
  t139 := Tryz.underlying209
  a139 := Tryz.isAgg209
  z139 := Tryz.sizeOf209
  v139 := Tryz.zeroValue209
  g3 := by kernel_rfl
  g4 := by kernel_rfl }
open Go.RowKit Go.Lib in
theorem Tryz.utf8_DecodeRuneInString_ascii (s : ByteArray) (x : UInt8) (w : World) (h0 : s.data.toList[0]? = some x) (hx : x.toNat < 128) :
    Calls Tryz.prog 152 #[.string s] w fun e w' => e = .returned (.tuple #[.int .i32 x.toNat, .int .i64 1]) ∧ w' = w := Any.utf8_DecodeRuneInString_ascii Tryz.lays197 s x w h0 hx
def Tryz.lays260_ren : Go.Shelf.Ren := ⟨fun | 260 => 162 | n => n, fun | 9 => 9 | 21 => 21 | 3 => 3 | 4 => 4 | 5 => 5 | 119 => 206 | 0 => 0 | 46 => 189 | 139 => 209 | 138 => 208 | n => n, fun | 3 => 0 | 4 => 1 | n => n⟩
theorem Tryz.lays260 : Go.Proofs.Lays.n260 Tryz.prog Tryz.lays260_ren := {
  mixed := by kernel_rfl
  f260 := Tryz.func162.trans (congrArg some (by kernel_rfl))
  t0 := Tryz.underlying0
  a0 := Tryz.isAgg0
  z0 := Tryz.sizeOf0
  v0 := Tryz.zeroValue0
  t3 := Tryz.underlying3
  a3 := Tryz.isAgg3
  z3 := Tryz.sizeOf3
  v3 := Tryz.zeroValue3
  t4 := Tryz.underlying4
  a4 := Tryz.isAgg4
  z4 := Tryz.sizeOf4
  v4 := Tryz.zeroValue4
  t5 := Tryz.underlying5
  a5 := Tryz.isAgg5
  z5 := Tryz.sizeOf5
  v5 := Tryz.zeroValue5
  t9 := Tryz.underlying9
  a9 := Tryz.isAgg9
  z9 := Tryz.sizeOf9
  v9 := Tryz.zeroValue9
  t21 := Tryz.underlying21
  a21 := Tryz.isAgg21
  z21 := Tryz.sizeOf21
  v21 := Tryz.zeroValue21
  t46 := Tryz.underlying189
  a46 := Tryz.isAgg189
  z46 := Tryz.sizeOf189
  v46 := Tryz.zeroValue189
  t119 := Tryz.underlying206
  a119 := Tryz.isAgg206
  z119 := Tryz.sizeOf206
  t138 := Tryz.underlying208
  a138 := Tryz.isAgg208
  z138 := Tryz.sizeOf208
  v138 := Tryz.zeroValue208
  t139 := Tryz.underlying209
  a139 := Tryz.isAgg209
  z139 := Tryz.sizeOf209
  v139 := Tryz.zeroValue209
  g3 := by kernel_rfl
  g4 := by kernel_rfl }
open Go.RowKit Go.Lib in
theorem Tryz.utf8_decodeRuneInStringSlow (s : ByteArray) (w : World) (hT : Lib.Utf8Tabs 0 1 w) :
    Calls Tryz.prog 162 #[.string s] w fun e w' => e = .returned (.tuple #[.int .i32 (Lib.decodeGo s).1, .int .i64 (Lib.decodeGo s).2]) ∧ Below w.heap.size w w' := Any.utf8_decodeRuneInStringSlow Tryz.lays260 s w hT
open Go.RowKit Go.Lib in
theorem Tryz.utf8_DecodeRuneInString (s : ByteArray) (w : World) (hT : Lib.Utf8Tabs 0 1 w) :
    Calls Tryz.prog 152 #[.string s] w fun e w' => e = .returned (.tuple #[.int .i32 (Lib.decodeGo s).1, .int .i64 (Lib.decodeGo s).2]) ∧ Below w.heap.size w w' := Any.utf8_DecodeRuneInString Tryz.lays197 s w hT
end Go.Proofs
namespace Go.Proofs.YtpfdapnfkghgkaaGreatDoor
open Go Go.RowKit

abbrev Tabs (w : World) : Prop := Lib.Utf8Tabs 0 1 w
theorem cell_block {w : World} {b o : Nat} {v : Value} (h : w.cell? ⟨b, o, none⟩ = some v) : b < w.heap.size := by
  rcases Nat.lt_or_ge b w.heap.size with g | g
  · exact g
  · have : w.heap[b]? = none := Array.getElem?_eq_none g
    simp [World.cell?, this] at h
theorem Tabs.blocks {w : World} (h : Tabs w) : 0 < w.heap.size ∧ 1 < w.heap.size := ⟨cell_block (h.1 0 (by omega)), cell_block (h.2 0 (by omega)).1⟩
theorem Tabs.to {w w' : World} (h : Tabs w) (h1 : w'.heap[0]? = w.heap[0]?) (h2 : w'.heap[1]? = w.heap[1]?) : Tabs w' := by
  refine ⟨fun c hc => ?_, fun i hi => ?_⟩
  · have := h.1 c hc
    simpa [World.cell?, h1] using this
  · have := h.2 i hi
    simpa [World.cell?, h2] using this
/-- What the program's own variables hold. -/
def Glb (w : World) : Prop := Tabs w ∧ ∃ m, w.cell? ⟨2, 0, none⟩ = some (.int .i64 m)
theorem Glb.size {w : World} (h : Glb w) : 2 < w.heap.size := cell_block h.2.choose_spec
theorem Glb.to {w w' : World} (h : Glb w) (h0 : w'.heap[0]? = w.heap[0]?) (h1 : w'.heap[1]? = w.heap[1]?) (h2 : w'.heap[2]? = w.heap[2]?) : Glb w' := by
  obtain ⟨h3, m, h4⟩ := h
  refine ⟨h3.to h0 h1, m, ?_⟩
  simpa [World.cell?, h2] using h4
theorem Glb.below {n : Nat} {w w' : World} (h : Glb w) (hb : Below n w w') (hn : 2 < n) : Glb w' := h.to (hb.block 0 (by omega)) (hb.block 1 (by omega)) (hb.block 2 hn)
theorem Glb.kept {w w' : World} (h : Glb w) (hb : Below w.heap.size w w') : Glb w' := h.below hb h.size
theorem Glb.fr {S : Nat → Prop} {w w' : World} (h : Glb w) (hb : Fr S w w') (hn : ∀ k, S k → 2 < k) : Glb w' := by
  have := h.size
  exact h.to (hb.block 0 (by omega) fun q => by have := hn 0 q; omega) (hb.block 1 (by omega) fun q => by have := hn 1 q; omega) (hb.block 2 (by omega) fun q => by have := hn 2 q; omega)

set_option maxHeartbeats 4000000 in
set_option maxRecDepth 1000000 in
theorem broken_c (s : ByteArray) (p : Nat) (w : World) (hp : p < s.size) :
    Calls Tryz.prog 89 #[.string s, .int .i64 (p : Int), .int .i32 ((Utf8.decode s p).1 : Int)] w fun e w' => e = .returned (.bool (bad s p)) ∧ w' = w := by
  obtain ⟨r, hr⟩ : ∃ r, (Utf8.decode s p).1 = r := ⟨_, rfl⟩
  rw [hr]
  have h0 : (0 : Int) ≤ (p : Int) := by omega
  have h1 : (p : Int) ≤ (s.size : Int) := by omega
  have h2 : ¬ s.size < p := by omega
  by_cases h : r = 65533
  · subst h
    have hb := bad_iff s p hp hr
    rw [← ext_list] at hb
    clear hr
    go_enter Tryz.func89, Tryz.ntmps89
    go_wp2_with (go_at_call 105; refine (Tryz.strings_HasPrefix _ _ _).mono ?_; rintro e w' ⟨rfl, rfl⟩)
    all_goals (go_ret; refine ⟨?_, rfl⟩)
    all_goals simp_all
  · have hb : bad s p = false := by simp [bad]; intro q; rw [q] at hr; exact h hr.symm
    have hz : ((r : Int) == 65533) = false := by simp; omega
    clear hr
    go_enter Tryz.func89, Tryz.ntmps89
    go_wp2
    go_ret
    exact ⟨by rw [hb]; rfl, rfl⟩
end Go.Proofs.YtpfdapnfkghgkaaGreatDoor
namespace Go.Proofs.YtpfdapnfkghgkaaGreatDoor
open Go Go.RowKit

set_option maxHeartbeats 4000000 in
set_option maxRecDepth 1000000 in
theorem next_in (s : ByteArray) (p : Nat) (w : World) (hT : Tabs w) (hp : p < s.size) (hs : s.size ≤ maxLen) :
    Calls Tryz.prog 134 #[.string s, .int .i64 (p : Int)] w fun e w' => e = .returned (.tuple #[.int .i64 (ch s p), .int .i64 (wd s p : Int)]) ∧ Below w.heap.size w w' := by
  have HT : Hid (Tabs w) := hT
  have HS : Hid (s.size ≤ maxLen) := hs
  unfold maxLen at hs
  have hz : (s.extract p s.size).size = s.size - p := by rw [ByteArray.size_extract]; omega
  have hd : Lib.decodeGo (s.extract p s.size) = Utf8.decode s p := by
    unfold Lib.decodeGo
    rw [if_neg (by rw [hz]; omega), Lib.tail_decode]; rfl
  have h0 : ¬ (p : Int) < 0 := by omega
  have h1 : ¬ (s.size : Int) ≤ (p : Int) := by omega
  have h2 : (0 : Int) ≤ (p : Int) := by omega
  have h3 : (p : Int) ≤ (s.size : Int) := by omega
  have h4 : ¬ s.size < p := by omega
  have HD : Hid (Utf8.decode s p = ((Utf8.decode s p).1, (Utf8.decode s p).2)) := rfl
  have hc := broken_c s p
  have hl := dec_le s p
  rcases hb : bad s p with _ | _
  · have e1 := ch_good hb
    clear hT hz
    go_enter Tryz.func134, Tryz.ntmps134
    go_wp2_with first
      | (go_at_call 152; (with_reducible refine (Tryz.utf8_DecodeRuneInString _ _ HT.out).mono ?_); rw [hd]; rintro e w1 ⟨rfl, hb1⟩)
      | (go_at_call 89; (with_reducible refine (hc _ hp).mono ?_); rw [hb]; rintro e w' ⟨rfl, rfl⟩)
    go_ret2
    rw [e1]
    refine ⟨?_, hb1⟩
    simp only [wd]
    rfl
  · have e1 : Hid _ := ch_bad hb
    clear hT hz
    go_enter Tryz.func134, Tryz.ntmps134
    go_wp2_with first
      | (go_at_call 152; (with_reducible refine (Tryz.utf8_DecodeRuneInString _ _ HT.out).mono ?_); rw [hd]; rintro e w1 ⟨rfl, hb1⟩)
      | (go_at_call 89; (with_reducible refine (hc _ hp).mono ?_); rw [hb]; rintro e w' ⟨rfl, rfl⟩)
    go_ret2
    rw [e1.out.1, e1.out.2.1]
    exact ⟨rfl, hb1⟩
set_option maxHeartbeats 4000000 in
set_option maxRecDepth 1000000 in
theorem next_out (s : ByteArray) (p : Int) (w : World) (hp : p < 0 ∨ (s.size : Int) ≤ p) :
    Calls Tryz.prog 134 #[.string s, .int .i64 p] w fun e w' => e = .returned (.tuple #[.int .i64 0, .int .i64 0]) ∧ w' = w := by
  by_cases h0 : p < 0
  · go_enter Tryz.func134, Tryz.ntmps134
    go_wp2
    go_ret2
    exact ⟨rfl, rfl⟩
  · have h1 : (s.size : Int) ≤ p := by omega
    clear hp
    go_enter Tryz.func134, Tryz.ntmps134
    go_wp2
    go_ret2
    exact ⟨rfl, rfl⟩

/-- The first unit that is no character. -/
def validOf (n : Nat) : List (Nat × Int) → Nat
  | [] => n
  | (p, c) :: t => if c < 0 then p else validOf n t

theorem iter_below {w wr : World} {k n : Nat} {s : ByteArray} (h : Below n w wr) (hk : n ≤ k) (p : Nat) : Below n w (wr.iterAt k s p) := Lib.below_iterAt h hk s p

/-- How many units begin ahead of a place. -/
def colOf (at' : Int) : List (Nat × Int) → Nat
  | [] => 0
  | (p, _) :: t => if at' ≤ (p : Int) then 0 else colOf at' t + 1
theorem colOf_le (x : Int) (l : List (Nat × Int)) : colOf x l ≤ l.length := by
  induction l with
  | nil => simp [colOf]
  | cons a t ih =>
    obtain ⟨p, c⟩ := a
    rw [colOf]
    split <;> simp <;> omega
end Go.Proofs.YtpfdapnfkghgkaaGreatDoor
namespace Go.Proofs.YtpfdapnfkghgkaaGreatDoor
open Go Go.RowKit
attribute [local go_sem] ext_cell

/-- A reader in memory. -/
def RD (w : World) (b : Nat) (s : ByteArray) (m : Md) (p : Nat) (tv : Value) : Prop :=
  w.heap[b]? = some (.cells #[.string s, .bool m.c, .bool m.f, .int .i64 (p : Int), tv] 102 (0, 0))
theorem RD.lt {w : World} {b : Nat} {s : ByteArray} {m : Md} {p : Nat} {tv : Value} (h : RD w b s m p tv) : b < w.heap.size := lt_of_heap h
theorem RD.kept {w w' : World} {b : Nat} {s : ByteArray} {m : Md} {p : Nat} {tv : Value} (h : RD w b s m p tv) (hb : Below w.heap.size w w') : RD w' b s m p tv := (hb.block b h.lt).trans h
theorem RD.below {n : Nat} {w w' : World} {b : Nat} {s : ByteArray} {m : Md} {p : Nat} {tv : Value} (h : RD w b s m p tv) (hb : Below n w w') (hn : b < n) : RD w' b s m p tv := (hb.block b hn).trans h
theorem RD.c0 {w : World} {b : Nat} {s : ByteArray} {m : Md} {p : Nat} {tv : Value} (h : RD w b s m p tv) : w.cell? ⟨b, 0, none⟩ = some (.string s) := cell_row h (i := 0) rfl
theorem RD.c1 {w : World} {b : Nat} {s : ByteArray} {m : Md} {p : Nat} {tv : Value} (h : RD w b s m p tv) : w.cell? ⟨b, 1, none⟩ = some (.bool m.c) := cell_row h (i := 1) rfl
theorem RD.c2 {w : World} {b : Nat} {s : ByteArray} {m : Md} {p : Nat} {tv : Value} (h : RD w b s m p tv) : w.cell? ⟨b, 2, none⟩ = some (.bool m.f) := cell_row h (i := 2) rfl
theorem RD.c3 {w : World} {b : Nat} {s : ByteArray} {m : Md} {p : Nat} {tv : Value} (h : RD w b s m p tv) : w.cell? ⟨b, 3, none⟩ = some (.int .i64 (p : Int)) := cell_row h (i := 3) rfl
theorem RD.c4 {w : World} {b : Nat} {s : ByteArray} {m : Md} {p : Nat} {tv : Value} (h : RD w b s m p tv) : w.cell? ⟨b, 4, none⟩ = some tv := cell_row h (i := 4) rfl
theorem RD.frz {w : World} {b : Nat} {s : ByteArray} {m : Md} {p : Nat} {tv : Value} (h : RD w b s m p tv) (i : Nat) : w.frozen? ⟨b, i, none⟩ = false := frz_row h i
theorem RD.to {w : World} {b : Nat} {s : ByteArray} {m : Md} {p : Nat} {tv : Value} (h : RD w b s m p tv) (q : Nat) {x : Int} (hx : x = (q : Int)) : RD (w.setCell ⟨b, 3, none⟩ (.int .i64 x)) b s m q tv := by
  subst hx
  exact heap_set_in h 3 _
/-- The block that a reader's calls change. -/
abbrev At (b k : Nat) : Prop := k = b

set_option maxRecDepth 100000 in
set_option maxHeartbeats 1000000 in
theorem sees_c {w : World} {b : Nat} {s : ByteArray} {m : Md} {p : Nat} {tv : Value} (h : RD w b s m p tv) (hp : p ≤ s.size) (t : ByteArray) :
    Calls Tryz.prog 76 #[.pointer (some ⟨b, 0, none⟩), .string t] w fun e w' => e = .returned (.bool (sees s p t.data.toList)) ∧ Below w.heap.size w w' := by
  have c0 := h.c0
  have c3 := h.c3
  have lb := h.lt
  have h0 : (0 : Int) ≤ (p : Int) := by omega
  have h1 : (p : Int) ≤ (s.size : Int) := by omega
  have h2 : ¬ s.size < p := by omega
  have hc : ∀ W, Calls Tryz.prog 105 #[.string (s.extract p s.size), .string t] W fun e w' => e = .returned (.bool (sees s p t.data.toList)) ∧ w' = W := fun W => by
    have := Tryz.strings_HasPrefix (s.extract p s.size) t W
    rw [ext_list] at this
    exact this
  clear h
  go_enter Tryz.func76, Tryz.ntmps76
  go_wp2
  refine wp_region_ext (by kernel_rfl) (by kernel_rfl) ?_
  repeat (go_big_quiet_step (first | exact rfl | (go_at_call 105; exact ext_call_same (hc _))))
  refine wpQuiet_nil ?_
  intro w5 hw5
  have B5 : Hid (Below w.heap.size w w5) := ext_of hw5
  clear hw5
  go_wp2
  go_ret
  exact ⟨rfl, B5.out⟩

set_option maxRecDepth 100000 in
set_option maxHeartbeats 1000000 in
theorem skips_yes {w : World} {b : Nat} {s : ByteArray} {m : Md} {p : Nat} {tv : Value} (h : RD w b s m p tv) (hp : p ≤ s.size) (hs : s.size ≤ 2000) (t : ByteArray) (ht : t.size ≤ 2) (hy : sees s p t.data.toList = true) :
    Calls Tryz.prog 109 #[.pointer (some ⟨b, 0, none⟩), .string t] w fun e w' => e = .returned (.bool true) ∧ RD w' b s m (p + t.size) tv ∧ Fr (At b) w w' := by
  have lb := h.lt
  have hw1 : IntKind.wrap .i64 ((p : Int) + (t.size : Int)) = (p : Int) + (t.size : Int) := wrap_small _ (by omega) (by omega)
  have hc := sees_c h hp t
  rw [hy] at hc
  have H : Hid (RD w b s m p tv) := h
  clear h
  go_enter Tryz.func109, Tryz.ntmps109
  go_wp2_with (go_at_call 76; refine hc.mono ?_; rintro e w5 ⟨rfl, h5⟩; have X5 : Hid (RD w5 b s m p tv ∧ Below w.heap.size w w5) := ⟨H.out.kept h5, h5⟩; have c3 := X5.out.1.c3; have f3 := X5.out.1.frz 3; clear h5)
  go_ret
  exact ⟨rfl, X5.out.1.to _ (by omega), Fr.setCell (S := At b) (Fr.of_below X5.out.2) (p := ⟨b, 3, none⟩) rfl _⟩
set_option maxRecDepth 100000 in
set_option maxHeartbeats 1000000 in
theorem skips_no {w : World} {b : Nat} {s : ByteArray} {m : Md} {p : Nat} {tv : Value} (h : RD w b s m p tv) (hp : p ≤ s.size) (t : ByteArray) (hy : sees s p t.data.toList = false) :
    Calls Tryz.prog 109 #[.pointer (some ⟨b, 0, none⟩), .string t] w fun e w' => e = .returned (.bool false) ∧ Below w.heap.size w w' := by
  have hc := sees_c h hp t
  rw [hy] at hc
  clear h
  go_enter Tryz.func109, Tryz.ntmps109
  go_wp2_with (go_at_call 76; refine hc.mono ?_; rintro e w5 ⟨rfl, h5⟩; have X5 : Hid (Below w.heap.size w w5) := h5; clear h5)
  go_ret
  exact ⟨rfl, X5.out⟩
/-- What is wrong, in memory. -/
def BadAt (w : World) (g : Nat) (c a : Nat) : Prop := w.heap[g]? = some (.cells #[.int .i64 (c : Int), .int .i64 (a : Int)] 65 (0, 0))
theorem wrong_c (c a : Nat) (w : World) : Calls Tryz.prog 48 #[.int .i64 (c : Int), .int .i64 (a : Int)] w fun e w' => e = .returned (.pointer (some ⟨w.heap.size, 0, none⟩)) ∧ BadAt w' w.heap.size c a ∧ Below w.heap.size w w' := by
  go_enter Tryz.func48, Tryz.ntmps48
  go_wp2
  go_ret
  exact ⟨rfl, alloc_new _ _, (Below.refl _ _).alloc (Nat.le_refl _) _⟩
/-- A token as a value. -/
def tkV (t : Tk) (a e : Nat) (rv : Value) : Value := .agg #[.int .i64 (t.kind : Int), .int .i64 (a : Int), .int .i64 (e : Int), .int .i64 (t.n : Int), .int .i64 t.mn, .int .i64 t.mx, rv]
theorem repeat_c (x y : Int) (w : World) : Calls Tryz.prog 79 #[.int .i64 x, .int .i64 y] w fun e w' => e = .returned (tkV (repT x y) 0 0 (.slice none 0 0)) ∧ Below w.heap.size w w' := by
  go_enter Tryz.func79, Tryz.ntmps79
  go_wp2
  exact bodyPost_ret (v := tkV (repT x y) 0 0 (.slice none 0 0)) (by simp [results, Tryz.results79, go_sem, tkV, repT]) rfl ⟨rfl, (Below.refl _ _).alloc (Nat.le_refl _) _⟩
theorem lone_c (c : Int) (w : World) : Calls Tryz.prog 84 #[.int .i64 c] w fun e w' => ∃ v, e = .returned v ∧ RR w.heap.size w' v [(c, c)] ∧ Below w.heap.size w w' := by
  go_enter Tryz.func84, Tryz.ntmps84
  go_wp2
  go_ret
  exact ⟨_, rfl, World.ownsRow_lit w #[.int .i64 c, .int .i64 c] 1 (Nat.le_refl _) (by unfold maxLen; omega) rfl, (Below.refl _ _).alloc (Nat.le_refl _) _⟩
end Go.Proofs.YtpfdapnfkghgkaaGreatDoor
namespace Go.Proofs.YtpfdapnfkghgkaaGreatDoor
open Go Go.RowKit
attribute [local go_sem] ext_cell

/-- Of which kind the last token is that a list of tokens has. -/
def LK (w : World) (b : Nat) (tv : Value) (last : Nat) : Prop :=
  (tv = .slice none 0 0 ∧ last = 0) ∨ ∃ g n c, tv = .slice (some ⟨g, 0, none⟩) (n + 1) c ∧ g ≠ b ∧ g < w.heap.size ∧ n ≤ 2000 ∧ 1 ≤ last ∧ w.cell? ⟨g, n * 7, none⟩ = some (.int .i64 (last : Int))
theorem LK.fr {w w' : World} {b : Nat} {tv : Value} {last : Nat} (h : LK w b tv last) (hf : Fr (At b) w w') : LK w' b tv last := by
  rcases h with h | ⟨g, n, c, h1, h2, h3, h4, h5, h6⟩
  · exact .inl h
  · refine .inr ⟨g, n, c, h1, h2, Nat.lt_of_lt_of_le h3 hf.size, h4, h5, ?_⟩
    have := hf.block g h3 h2
    simpa [World.cell?, this] using h6
theorem LK.kept {w w' : World} {b : Nat} {tv : Value} {last : Nat} (h : LK w b tv last) (hb : Below w.heap.size w w') : LK w' b tv last := h.fr (Fr.of_below hb)

set_option maxRecDepth 100000 in
set_option maxHeartbeats 1000000 in
theorem behind_c {w : World} {b : Nat} {s : ByteArray} {m : Md} {p : Nat} {tv : Value} {last : Nat} (h : RD w b s m p tv) (hk : LK w b tv last) (k : Int) (h0 : 0 < k) :
    Calls Tryz.prog 80 #[.pointer (some ⟨b, 0, none⟩), .int .i64 k] w fun e w' => e = .returned (.bool (decide ((last : Int) = k))) ∧ Below w.heap.size w w' := by
  have c4 := h.c4
  have lb := h.lt
  clear h
  rcases hk with ⟨rfl, rfl⟩ | ⟨g, n, c, rfl, h2, h3, h4, h5, h6⟩
  · have e : decide (((0 : Nat) : Int) = k) = false := decide_eq_false (by omega)
    rw [e]
    go_enter Tryz.func80, Tryz.ntmps80
    go_wp2
    go_ret
    exact ⟨rfl, Below.refl _ _⟩
  · have hw1 : IntKind.wrap .i64 (((n + 1 : Nat) : Int) - 1) = (n : Int) := by rw [wrap_small _ (by omega) (by omega)]; omega
    have i0 : (0 : Int) ≤ (n : Int) := by omega
    have i1 : (n : Int) < ((n + 1 : Nat) : Int) := by omega
    go_enter Tryz.func80, Tryz.ntmps80
    go_wp2
    go_ret
    exact ⟨rfl, Below.refl _ _⟩

theorem bt_idx (t : ByteArray) (k : Nat) (h : k < t.size) : (t[k]'h).toNat = bt t k := by
  have : t.data.toList[k]? = some (t[k]'h) := List.getElem?_eq_getElem (by rw [size_list]; exact h)
  exact (bt_at.1 this).2.symm
set_option maxRecDepth 100000 in
set_option maxHeartbeats 1000000 in
theorem unit_c {w : World} (hG : Glb w) (t : ByteArray) (m : Md) (h : 0 < t.size) (hl : t.size ≤ 2000) :
    Calls Tryz.prog 112 #[.string t, .agg #[.bool m.c, .bool m.f]] w fun e w' => e = .returned (.tuple #[.int .i64 (un m t 0).1, .int .i64 ((un m t 0).2 : Int)]) ∧ Below w.heap.size w w' := by
  obtain ⟨mc, mf⟩ := m
  cases mc with
  | true =>
    have hc : ∀ W, Tabs W → Calls Tryz.prog 134 #[.string t, .int .i64 0] W fun e w' => e = .returned (.tuple #[.int .i64 (ch t 0), .int .i64 (wd t 0 : Int)]) ∧ Below W.heap.size W w' := fun W hW => next_in t 0 W hW h (by unfold maxLen; omega)
    have e : un ⟨true, mf⟩ t 0 = (ch t 0, wd t 0) := rfl
    rw [e]
    have HT : Hid (Tabs (w.alloc (.cells #[.bool true, .bool mf] 23))) := (hG.kept ((Below.refl _ _).alloc (Nat.le_refl _) _)).1
    clear e
    go_enter Tryz.func112, Tryz.ntmps112
    go_wp2_with (go_at_call 134; refine (hc _ HT.out).mono ?_; rintro e w5 ⟨rfl, h5⟩; have X5 : Hid (Below w.heap.size w w5) := chain ((Below.refl _ _).alloc (Nat.le_refl _) _) h5 (Nat.le_refl _); clear h5)
    go_ret2
    exact ⟨rfl, X5.out⟩
  | false =>
    have e : un ⟨false, mf⟩ t 0 = ((bt t 0 : Int), 1) := rfl
    rw [e]
    have hx := bt_idx t 0 h
    have hlt := bt_lt t 0
    go_enter Tryz.func112, Tryz.ntmps112
    go_wp2
    go_ret2
    refine ⟨?_, (Below.refl _ _).alloc (Nat.le_refl _) _⟩
    rw [← hx]
    rfl
theorem tail_un (m : Md) (s : ByteArray) (p : Nat) : un m (s.extract p s.size) 0 = un m s p := by
  unfold un ch wd bad
  rw [Lib.tail_decode, Nat.add_zero]
  have : bt (s.extract p s.size) 0 = bt s p := by
    unfold bt
    rw [ext_list, List.getD_eq_getElem?_getD, List.getD_eq_getElem?_getD, List.getElem?_drop, Nat.add_zero]
  rw [this]
/-- What comes of a call of the reader's: it is somewhere else, or it gives up. -/
def Outs {X : Type} (w : World) (b : Nat) (s : ByteArray) (m : Md) (tv : Value) (val : World → Value → X → Prop) (r : Rs (X × Nat)) (e : Ending) (w' : World) : Prop :=
  Fr (At b) w w' ∧ match r with
  | .error (c, a) => ∃ g, w.heap.size ≤ g ∧ e = .panicked [{ v := .iface 62 (.pointer (some ⟨g, 0, none⟩)), recovered := false }] ∧ BadAt w' g c a
  | .ok (x, q) => ∃ v, e = .returned v ∧ RD w' b s m q tv ∧ val w' v x
theorem Outs.err {X : Type} {w : World} {b : Nat} {s : ByteArray} {m : Md} {tv : Value} {val : World → Value → X → Prop} {w' : World} {c a g : Nat} (h1 : Fr (At b) w w') (h2 : w.heap.size ≤ g) (h3 : BadAt w' g c a) :
    Outs w b s m tv val (.error (c, a)) (.panicked [{ v := .iface 62 (.pointer (some ⟨g, 0, none⟩)), recovered := false }]) w' := ⟨h1, g, h2, rfl, h3⟩
theorem Outs.is {X : Type} {w : World} {b : Nat} {s : ByteArray} {m : Md} {tv : Value} {val : World → Value → X → Prop} {w' : World} {x : X} {q : Nat} {v : Value} (h1 : Fr (At b) w w') (h2 : RD w' b s m q tv) (h3 : val w' v x) :
    Outs w b s m tv val (.ok (x, q)) (.returned v) w' := ⟨h1, v, rfl, h2, h3⟩
def isI (_ : World) (v : Value) (x : Int) : Prop := v = .int .i64 x

set_option maxRecDepth 100000 in
set_option maxHeartbeats 1000000 in
theorem character_c {w : World} {b : Nat} {s : ByteArray} {m : Md} {p : Nat} {tv : Value} (hG : Glb w) (h : RD w b s m p tv) (hp : p < s.size) (hs : s.size ≤ 2000) :
    Calls Tryz.prog 85 #[.pointer (some ⟨b, 0, none⟩)] w (Outs w b s m tv isI (chr m s p)) := by
  have c0 := h.c0
  have c1 := h.c1
  have c2 := h.c2
  have c3 := h.c3
  have lb := h.lt
  have H : Hid (RD w b s m p tv ∧ Glb w) := ⟨h, hG⟩
  have h0 : (0 : Int) ≤ (p : Int) := by omega
  have h1 : (p : Int) ≤ (s.size : Int) := by omega
  have h2 : ¬ s.size < p := by omega
  have hu := un_wd m s p hp
  have hc : ∀ x : Ext w, Calls Tryz.prog 112 #[.string (s.extract p s.size), .agg #[.bool m.c, .bool m.f]] x.val fun e w' => e = .returned (.tuple #[.int .i64 (un m s p).1, .int .i64 ((un m s p).2 : Int)]) ∧ Below x.val.heap.size x.val w' := fun x => by
    have := unit_c (H.out.2.kept x.2) (s.extract p s.size) m (by rw [ByteArray.size_extract]; omega) (by rw [ByteArray.size_extract]; omega)
    rw [tail_un] at this
    exact this
  unfold chr
  generalize (un m s p).1 = c at *
  generalize (un m s p).2 = n at *
  clear h hG
  by_cases hc0 : c < 0
  · rw [if_pos hc0]
    have d0 : decide (c < 0) = true := decide_eq_true hc0
    go_enter Tryz.func85, Tryz.ntmps85
    go_wp2
    refine wp_region_ext (by kernel_rfl) (by kernel_rfl) ?_
    repeat (go_big_quiet_step (first | exact rfl | (go_at_call 112; exact ext_call (hc _))))
    refine wpQuiet_nil ?_
    intro w5 hw5
    have X5 : Hid (Below w.heap.size w w5 ∧ RD w5 b s m p tv) := ⟨ext_of hw5, H.out.1.kept (ext_of hw5)⟩
    have k3 := X5.out.2.c3
    clear hw5
    go_wp2_with (go_at_call 48; refine (wrong_c 20 p _).mono ?_; rintro e w6 ⟨rfl, h6, h7⟩; have X6 : Hid (BadAt w6 w5.heap.size 20 p ∧ Below w5.heap.size w5 w6) := ⟨h6, h7⟩; clear h6 h7)
    exact ⟨rfl, .err (Fr.of_below (chain X5.out.1 X6.out.2 (Nat.le_refl _))) X5.out.1.size X6.out.1⟩
  · rw [if_neg hc0]
    have hw1 : IntKind.wrap .i64 ((p : Int) + (n : Int)) = (p : Int) + (n : Int) := wrap_small _ (by omega) (by omega)
    go_enter Tryz.func85, Tryz.ntmps85
    go_wp2
    refine wp_region_ext (by kernel_rfl) (by kernel_rfl) ?_
    repeat (go_big_quiet_step (first | exact rfl | (go_at_call 112; exact ext_call (hc _))))
    refine wpQuiet_nil ?_
    intro w5 hw5
    have X5 : Hid (Below w.heap.size w w5 ∧ RD w5 b s m p tv) := ⟨ext_of hw5, H.out.1.kept (ext_of hw5)⟩
    have k3 := X5.out.2.c3
    have f3 := X5.out.2.frz 3
    clear hw5
    go_wp2
    go_ret
    exact ⟨Fr.setCell (S := At b) (Fr.of_below X5.out.1) (p := ⟨b, 3, none⟩) rfl _, _, rfl, X5.out.2.to _ (by omega), rfl⟩
end Go.Proofs.YtpfdapnfkghgkaaGreatDoor
namespace Go.Proofs.YtpfdapnfkghgkaaGreatDoor
open Go Go.RowKit

/-- A token with its places, the value of its list, its class. -/
abbrev Dt := Tp × Value × List (Int × Int)
def tc (d : Dt) : List Value := [.int .i64 (d.1.1.kind : Int), .int .i64 (d.1.2.1 : Int), .int .i64 (d.1.2.2 : Int), .int .i64 (d.1.1.n : Int), .int .i64 d.1.1.mn, .int .i64 d.1.1.mx, d.2.1]
def tcs (D : List Dt) : List Value := D.flatMap tc
theorem tc_length (d : Dt) : (tc d).length = 7 := rfl
theorem tcs_length (D : List Dt) : (tcs D).length = D.length * 7 := by
  induction D with
  | nil => rfl
  | cons d D ih =>
    have : tcs (d :: D) = tc d ++ tcs D := rfl
    rw [this, List.length_append, ih, tc_length, List.length_cons]; omega
theorem tcs_append (D E : List Dt) : tcs (D ++ E) = tcs D ++ tcs E := by simp [tcs]
theorem tcs_get : ∀ (D : List Dt) (i : Nat) (d : Dt) (j : Nat), D[i]? = some d → j < 7 → (tcs D)[i * 7 + j]? = (tc d)[j]?
  | [], i, d, j, h, _ => by simp at h
  | x :: D, 0, d, j, h, hj => by
    simp at h; subst h
    have : tcs (x :: D) = tc x ++ tcs D := rfl
    rw [this, List.getElem?_append_left (by rw [tc_length]; omega)]
    simp
  | x :: D, i + 1, d, j, h, hj => by
    have : tcs (x :: D) = tc x ++ tcs D := rfl
    rw [this, List.getElem?_append_right (by rw [tc_length]; omega), tc_length, show (i + 1) * 7 + j - 7 = i * 7 + j by omega]
    exact tcs_get D i d j (by simpa using h) hj
structure TL (base : Nat) (w : World) (v : Value) (D : List Dt) : Prop where
  own : w.ownsRow base 104 7 v D.length (tcs D)
  each : ∀ d ∈ D, RR base w d.2.1 d.2.2 ∧ IsC d.2.2 d.1.1.q
  apart : D.Pairwise (fun a b => ∀ k, a.2.1.ownBlock = some k → b.2.1.ownBlock ≠ some k)
theorem TL.fr {base : Nat} {w w' : World} {v : Value} {D : List Dt} {S : Nat → Prop} (h : TL base w v D) (hf : Fr S w w') (h1 : ∀ k, v.ownBlock = some k → ¬ S k) (h2 : ∀ d ∈ D, ∀ k, d.2.1.ownBlock = some k → ¬ S k) : TL base w' v D :=
  ⟨ownsRow_fr h.own hf h1, fun d hd => ⟨(h.each d hd).1.fr hf (h2 d hd), (h.each d hd).2⟩, h.apart⟩
theorem TL.kept {base : Nat} {w w' : World} {v : Value} {D : List Dt} (h : TL base w v D) (hb : Below w.heap.size w w') : TL base w' v D := h.fr (S := fun _ => False) (Fr.of_below hb) (fun _ _ q => q) (fun _ _ _ _ q => q)
theorem TL.nil (base : Nat) (w : World) : TL base w (.slice none 0 0) [] := ⟨World.ownsRow_nil _ _ _ _, fun _ h => (by cases h), List.Pairwise.nil⟩
theorem TL.lt {base : Nat} {w : World} {v : Value} {D : List Dt} (h : TL base w v D) {d : Dt} (hd : d ∈ D) {k : Nat} (hk : d.2.1.ownBlock = some k) : base ≤ k ∧ k < w.heap.size := ⟨(ownsRow_at (h.each d hd).1 hk).1, (ownsRow_at (h.each d hd).1 hk).2.1⟩
/-- By blocks of another type. -/
theorem TL.at {base : Nat} {w w' : World} {v : Value} {D : List Dt} {b : Nat} {s : ByteArray} {m : Md} {p : Nat} {tv : Value} (h : TL base w v D) (hr : RD w b s m p tv) (hf : Fr (At b) w w') : TL base w' v D :=
  h.fr hf (fun k hk e => ownsRow_not h.own hr (by decide) (by rw [hk, show k = b from e])) (fun d hd k hk e => ownsRow_not (h.each d hd).1 hr (by decide) (by rw [hk, show k = b from e]))
theorem lastK_get (T : List Tp) (n : Nat) (t : Tp) (hl : T.length = n + 1) (h : T[n]? = some t) : lastK T = t.1.kind := by
  unfold lastK
  rw [List.getLast?_eq_getElem?, hl, Nat.add_sub_cancel, h]
theorem TL.last {base : Nat} {w : World} {v : Value} {D : List Dt} {b : Nat} {s : ByteArray} {m : Md} {p : Nat} {tv : Value} {T : List Tp} (h : TL base w v D) (hr : RD w b s m p tv) (hT : D.map Prod.fst = T) (hs : Stands s T p) (hp : p ≤ 2000) (hn : D = [] → v = .slice none 0 0) : LK w b v (lastK T) := by
  cases hD : D.length with
  | zero =>
    have e := List.eq_nil_of_length_eq_zero hD
    subst e
    subst hT
    exact .inl ⟨hn rfl, rfl⟩
  | succ n =>
    obtain ⟨g, c, rfl⟩ := ownsRow_some h.own (by omega)
    have hl : T.length = n + 1 := by rw [← hT, List.length_map, hD]
    obtain ⟨d, hd⟩ : ∃ d, D[n]? = some d := ⟨_, List.getElem?_eq_getElem (by omega)⟩
    have ht : T[n]? = some d.1 := by rw [← hT, List.getElem?_map, hd]; rfl
    have hk := lastK_get T n d.1 hl ht
    have hok := (hs.each n d.1 ht).2.2.2
    have hf := hs.few
    refine .inr ⟨g, n, c, by rw [hD], fun e => ownsRow_not h.own hr (by decide) (by simp [Value.ownBlock, e]), (ownsRow_at h.own rfl).2.1, by omega, by rw [hk]; exact hok.1, ?_⟩
    rw [hk]
    exact ownsRow_cell h.own ((tcs_get D n d 0 hd (by omega)).trans rfl)
theorem app_tok {base b : Nat} {V V1 w10 : World} {s : ByteArray} {m : Md} {p : Nat} {v : Value} {D : List Dt} {d : Dt} {g c : Nat} (hr : RD V b s m p v) (hT : TL base V v D) (hB : Below V.heap.size V V1) (hRR : RR base V d.2.1 d.2.2) (hI : IsC d.2.2 d.1.1.q)
    (hap : ∀ a ∈ D, ∀ k, a.2.1.ownBlock = some k → d.2.1.ownBlock ≠ some k) (hown : w10.ownsRow base 104 7 (.slice (some ⟨g, 0, none⟩) (D.length + 1) c) (D.length + 1) (tcs D ++ tc d)) (hg : V1.grownBy w10 v.ownBlock) :
    RD w10 b s m p v ∧ TL base w10 (.slice (some ⟨g, 0, none⟩) (D.length + 1) c) (D ++ [d]) ∧ Fr (fun k => v.ownBlock = some k) V1 w10 := by
  have hf : Fr (fun k => v.ownBlock = some k) V1 w10 := Fr.grown (Fr.refl _ _) hg (fun k hk => hk)
  have hr1 := hr.kept hB
  have hT1 := hT.kept hB
  have nb : v.ownBlock ≠ some b := ownsRow_not hT1.own hr1 (by decide)
  have hne : ∀ (x : Value) (X : List (Int × Int)), RR base V1 x X → ∀ k, x.ownBlock = some k → ¬ v.ownBlock = some k := fun x X hx k hk hv => by
    obtain ⟨-, -, cur, hc⟩ := ownsRow_at hT1.own hv
    exact ownsRow_not hx hc (by decide) hk
  refine ⟨(hf.block b hr1.lt nb).trans hr1, ⟨?_, ?_, ?_⟩, hf⟩
  · rw [List.length_append, List.length_singleton, tcs_append]
    simpa [tcs] using hown
  · intro a ha
    rcases List.mem_append.1 ha with ha | ha
    · exact ⟨(hT1.each a ha).1.fr hf (hne _ _ (hT1.each a ha).1), (hT1.each a ha).2⟩
    · simp at ha
      subst ha
      exact ⟨(hRR.kept hB).fr hf (hne _ _ (hRR.kept hB)), hI⟩
  · refine List.pairwise_append.2 ⟨hT.apart, List.pairwise_singleton _ _, fun a ha x hx => ?_⟩
    simp at hx
    subst hx
    exact hap a ha
/-- What Lex answers. -/
def LexIs (w : World) (r : Rs (List Tp)) (e : Ending) (w' : World) : Prop := Below w.heap.size w w' ∧ match r with
  | .error (c, a) => ∃ g, w.heap.size ≤ g ∧ e = .returned (.tuple #[.slice none 0 0, .iface 62 (.pointer (some ⟨g, 0, none⟩))]) ∧ BadAt w' g c a
  | .ok T => ∃ v D, e = .returned (.tuple #[v, .nilIface]) ∧ TL w.heap.size w' v D ∧ D.map Prod.fst = T
theorem size_tok : (Tryz.prog.info? 104).map (fun i => (i.zero, i.size, i.bytes)) = some (some (.agg #[.int .i64 0, .int .i64 0, .int .i64 0, .int .i64 0, .int .i64 0, .int .i64 0, .slice none 0 0]), 7, 72) := by kernel_rfl
theorem und_toks : Tryz.prog.underlying 51 = some (.slice 104) := by kernel_rfl
end Go.Proofs.YtpfdapnfkghgkaaGreatDoor
namespace Go.Proofs.YtpfdapnfkghgkaaGreatDoor
open Go Go.RowKit

/-- A value that is a part: its lists of parts lie in blocks of N, its leaves' ranges in blocks from base on. -/
inductive PV (base : Nat) (N : Nat → Prop) (W : World) : Ps → Value → Prop
  | lf (k n : Int) (rs : List (Int × Int)) (q : Option Addr) (c : Nat) (h : RR base W (.slice q rs.length c) rs) (hf : Fit rs) (hl : rs.length ≤ 1000000) :
      PV base N W (.lf k n rs) (.iface 120 (.agg #[.int .i64 k, .int .i64 n, .int .i64 0, .int .i64 0, .slice q rs.length c, .slice none 0 0]))
  | grp (n : Nat) (x : Ps) (v : Value) (h : PV base N W x v) : PV base N W (.grp n x) (.iface 122 (.agg #[.int .i64 (n : Int), v]))
  | rep (a b : Int) (x : Ps) (v : Value) (h : PV base N W x v) : PV base N W (.rep a b x) (.iface 125 (.agg #[.int .i64 a, .int .i64 b, v]))
  | row (l : List Ps) (vs : List Value) (q : Option Addr) (c : Nat) (hl : vs.length = l.length) (h : W.ownsRow base 58 1 (.slice q l.length c) l.length vs) (hN : ∀ g, (Value.slice q l.length c).ownBlock = some g → N g)
      (he : ∀ (i : Nat) (x : Ps) (v : Value), l[i]? = some x → vs[i]? = some v → PV base N W x v) : PV base N W (.row l) (.iface 127 (.agg #[.slice q l.length c]))
  | alt (l : List Ps) (vs : List Value) (q : Option Addr) (c : Nat) (hl : vs.length = l.length) (h : W.ownsRow base 58 1 (.slice q l.length c) l.length vs) (hN : ∀ g, (Value.slice q l.length c).ownBlock = some g → N g)
      (he : ∀ (i : Nat) (x : Ps) (v : Value), l[i]? = some x → vs[i]? = some v → PV base N W x v) : PV base N W (.alt l) (.iface 117 (.agg #[.slice q l.length c]))
theorem PV.shape {base : Nat} {N : Nat → Prop} {W : World} {x : Ps} {v : Value} (h : PV base N W x v) : ∃ t u, v = .iface t u := by
  cases h <;> exact ⟨_, _, rfl⟩
theorem PV.mono {base : Nat} {N M : Nat → Prop} {W : World} {x : Ps} {v : Value} (h : PV base N W x v) (hm : ∀ k, N k → M k) : PV base M W x v := by
  induction h with
  | lf k n rs q c h hf hl => exact .lf k n rs q c h hf hl
  | grp n x v _ ih => exact .grp n x v ih
  | rep a b x v _ ih => exact .rep a b x v ih
  | row l vs q c hl h hN _ ih => exact .row l vs q c hl h (fun g hg => hm g (hN g hg)) ih
  | alt l vs q c hl h hN _ ih => exact .alt l vs q c hl h (fun g hg => hm g (hN g hg)) ih
/-- Where only blocks change that hold no part's lists. -/
def Apt (N : Nat → Prop) (W : World) (k : Nat) : Prop := ∃ cs t, W.heap[k]? = some (.cells cs t (0, 0)) ∧ t ≠ 99 ∧ (t ≠ 58 ∨ ¬ N k)
theorem PV.fr {base : Nat} {N S : Nat → Prop} {W W' : World} {x : Ps} {v : Value} (h : PV base N W x v) (hf : Fr S W W') (hS : ∀ k, S k → Apt N W k) : PV base N W' x v := by
  have key : ∀ (vs : List Value) (u : Value) (n : Nat), W.ownsRow base 58 1 u n vs → (∀ g, u.ownBlock = some g → N g) → W'.ownsRow base 58 1 u n vs := fun vs u n h hN => ownsRow_fr h hf fun k hk hs => by
    obtain ⟨cs, t, h1, -, h3⟩ := hS k hs
    rcases h3 with h3 | h3
    · exact ownsRow_not h h1 h3 hk
    · exact h3 (hN k hk)
  induction h with
  | lf k n rs q c h hf' hl => exact .lf k n rs q c (h.fr hf fun k hk hs => by
      obtain ⟨cs, t, h1, h2, -⟩ := hS k hs
      exact ownsRow_not h h1 h2 hk) hf' hl
  | grp n x v _ ih => exact .grp n x v ih
  | rep a b x v _ ih => exact .rep a b x v ih
  | row l vs q c hl h hN _ ih => exact .row l vs q c hl (key _ _ _ h hN) hN ih
  | alt l vs q c hl h hN _ ih => exact .alt l vs q c hl (key _ _ _ h hN) hN ih
theorem PV.kept {base : Nat} {N : Nat → Prop} {W W' : World} {x : Ps} {v : Value} (h : PV base N W x v) (hb : Below W.heap.size W W') : PV base N W' x v := h.fr (S := fun _ => False) (Fr.of_below hb) (fun _ q => q.elim)
/-- The parts' lists lie where there is memory. -/
theorem PV.lt {base : Nat} {N : Nat → Prop} {W : World} {x : Ps} {v : Value} (h : PV base N W x v) : PV base (fun k => N k ∧ k < W.heap.size) W x v := by
  induction h with
  | lf k n rs q c h hf hl => exact .lf k n rs q c h hf hl
  | grp n x v _ ih => exact .grp n x v ih
  | rep a b x v _ ih => exact .rep a b x v ih
  | row l vs q c hl h hN _ ih => exact .row l vs q c hl h (fun g hg => ⟨hN g hg, (ownsRow_at h hg).2.1⟩) ih
  | alt l vs q c hl h hN _ ih => exact .alt l vs q c hl h (fun g hg => ⟨hN g hg, (ownsRow_at h hg).2.1⟩) ih
/-- How many groups begin in some tokens. -/
def nop : List Sgn → Nat
  | [] => 0
  | .op _ :: l => nop l + 1
  | _ :: l => nop l
theorem nop_append : ∀ a b : List Sgn, nop (a ++ b) = nop a + nop b
  | [], b => by simp [nop]
  | x :: a, b => by
    cases x <;> simp only [List.cons_append, nop, nop_append] <;> omega
theorem nop_le : ∀ a : List Sgn, nop a ≤ a.length
  | [] => Nat.le_refl _
  | x :: a => by
    have := nop_le a
    cases x <;> simp only [nop, List.length_cons] <;> omega
/-- What is left of the tokens' shapes. -/
noncomputable def left (D : List Dt) (p g : Nat) : List Sgn := sgns g ((D.map Prod.fst).drop p)
theorem left_nil {D : List Dt} {p g : Nat} (h : left D p g = []) : D.length ≤ p := by
  have := congrArg List.length h
  unfold left at this
  rw [sgns_length, List.length_drop, List.length_map, List.length_nil] at this
  omega
theorem left_cons {D : List Dt} {p g : Nat} {s : Sgn} {r : List Sgn} (h : left D p g = s :: r) : ∃ d, D[p]? = some d ∧ s = sgT g d.1.1 ∧ left D (p + 1) (g + nop [s]) = r ∧ p < D.length := by
  unfold left at h
  have hp : p < D.length := by
    have := congrArg List.length h
    rw [sgns_length, List.length_drop, List.length_map, List.length_cons] at this
    omega
  rw [List.drop_eq_getElem_cons (by rw [List.length_map]; exact hp)] at h
  rw [sgns] at h
  injection h with h1 h2
  refine ⟨D[p], List.getElem?_eq_getElem hp, ?_, ?_, hp⟩
  · rw [← h1, List.getElem_map]
  · rw [List.getElem_map] at h1 h2
    have e : gnx g D[p].1.1 = g + nop [s] := by
      rw [← h1]
      unfold gnx sgT
      repeat' split
      all_goals first | rfl | omega
    rw [e] at h2
    exact h2
theorem left_app {D : List Dt} : ∀ {A : List Sgn} {p g : Nat} {r : List Sgn}, left D p g = A ++ r → left D (p + A.length) (g + nop A) = r ∧ p + A.length ≤ max p D.length
  | [], p, g, r, h => ⟨h, by simp; omega⟩
  | s :: A, p, g, r, h => by
    obtain ⟨d, -, -, h1, h2⟩ := left_cons (by rw [List.cons_append] at h; exact h)
    obtain ⟨h3, h4⟩ := left_app h1
    have e : nop (s :: A) = nop [s] + nop A := by rw [show s :: A = [s] ++ A from rfl, nop_append]
    rw [e, List.length_cons, show p + (A.length + 1) = p + 1 + A.length by omega, ← Nat.add_assoc]
    exact ⟨h3, by omega⟩
/-- Of what kind the token of a shape is. -/
def skd : Sgn → Nat
  | .op _ => 3
  | .cl => 4
  | .al => 5
  | .rp _ _ => 2
  | .lf k _ _ => if k = 3 then 7 else if k = 4 then 8 else if k = 8 then 6 else 1
theorem skd_is (g : Nat) (t : Tk) (h1 : 1 ≤ t.kind) (h2 : t.kind ≤ 8) : skd (sgT g t) = t.kind := by
  rcases kinds_of h1 h2 with e | e | e | e | e | e | e | e <;> simp [sgT, e, skd]
/-- Is the next token of a kind? -/
def seesB (D : List Dt) (p K : Nat) : Bool := match D[p]? with
  | none => false
  | some d => d.1.1.kind == K
/-- The builder in memory. -/
structure PB (base : Nat) (w : World) (b : Nat) (tv : Value) (D : List Dt) (p g : Nat) : Prop where
  bd : w.heap[b]? = some (.cells #[tv, .int .i64 (p : Int), .int .i64 (g : Int)] 56 (0, 0))
  tl : TL base w tv D
  le : p ≤ D.length
  few : D.length ≤ 2000
  gp : g ≤ p
  ok : ∀ d ∈ D, TokOK d.1.1 ∧ d.2.2.length ≤ 1000000
  bs : base ≤ b
theorem PB.lt {base b p g : Nat} {w : World} {tv : Value} {D : List Dt} (h : PB base w b tv D p g) : b < w.heap.size := lt_of_heap h.bd
theorem PB.kept {base b p g : Nat} {w w' : World} {tv : Value} {D : List Dt} (h : PB base w b tv D p g) (hb : Below w.heap.size w w') : PB base w' b tv D p g :=
  ⟨(hb.block _ h.lt).trans h.bd, h.tl.kept hb, h.le, h.few, h.gp, h.ok, h.bs⟩
theorem TL.of {base : Nat} {w w' : World} {v : Value} {D : List Dt} {S : Nat → Prop} (h : TL base w v D) (hf : Fr S w w') (hS : ∀ k, S k → ∃ cs t, w.heap[k]? = some (.cells cs t (0, 0)) ∧ t ≠ 99 ∧ t ≠ 104) : TL base w' v D :=
  h.fr hf (fun k hk hs => by obtain ⟨cs, t, h1, -, h3⟩ := hS k hs; exact ownsRow_not h.own h1 h3 hk) (fun d hd k hk hs => by obtain ⟨cs, t, h1, h2, -⟩ := hS k hs; exact ownsRow_not (h.each d hd).1 h1 h2 hk)
theorem PB.seeing {base b p g : Nat} {w : World} {tv : Value} {D : List Dt} (h : PB base w b tv D p g) {s : Sgn} {r : List Sgn} (hl : left D p g = s :: r) (K : Nat) : seesB D p K = (skd s == K) := by
  obtain ⟨d, h1, h2, -, -⟩ := left_cons hl
  have := (h.ok d (List.mem_of_getElem? h1)).1
  unfold seesB
  rw [h1, h2, skd_is _ _ this.1 this.2.1]
theorem PB.blind {base b p g : Nat} {w : World} {tv : Value} {D : List Dt} (_ : PB base w b tv D p g) (hl : left D p g = []) (K : Nat) : seesB D p K = false := by
  have := left_nil hl
  unfold seesB
  rw [List.getElem?_eq_none this]
/-- The builder goes on, or a group begins. -/
theorem PB.set {base b p g p' g' : Nat} {w w' : World} {tv : Value} {D : List Dt} (h : PB base w b tv D p g) (hw : w'.heap[b]? = some (.cells #[tv, .int .i64 (p' : Int), .int .i64 (g' : Int)] 56 (0, 0))) (hf : Fr (At b) w w') (h1 : p' ≤ D.length) (h2 : g' ≤ p') : PB base w' b tv D p' g' :=
  ⟨hw, h.tl.of hf (fun k hk => by obtain rfl : k = b := hk; exact ⟨_, _, h.bd, by decide, by decide⟩), h1, h.few, h2, h.ok, h.bs⟩
theorem PB.apt {base b p g : Nat} {w : World} {tv : Value} {D : List Dt} (h : PB base w b tv D p g) (N : Nat → Prop) : ∀ k, At b k → Apt N w k := fun k hk => by obtain rfl : k = b := hk; exact ⟨_, _, h.bd, by decide, .inl (by decide)⟩
end Go.Proofs.YtpfdapnfkghgkaaGreatDoor
namespace Go.Proofs.YtpfdapnfkghgkaaGreatDoor
open Go Go.RowKit
attribute [local go_sem] ext_cell

section
variable {base b p g : Nat} {w : World} {tv : Value} {D : List Dt}
theorem PB.c0 (h : PB base w b tv D p g) : w.cell? ⟨b, 0, none⟩ = some tv := cell_row h.bd (i := 0) rfl
theorem PB.c1 (h : PB base w b tv D p g) : w.cell? ⟨b, 1, none⟩ = some (.int .i64 (p : Int)) := cell_row h.bd (i := 1) rfl
theorem PB.c2 (h : PB base w b tv D p g) : w.cell? ⟨b, 2, none⟩ = some (.int .i64 (g : Int)) := cell_row h.bd (i := 2) rfl
theorem TL.tok {base p : Nat} {w : World} {tv : Value} {D : List Dt} (h : TL base w tv D) {d : Dt} (hd : D[p]? = some d) : ∃ q c, tv = .slice (some ⟨q, 0, none⟩) D.length c ∧ q < w.heap.size ∧ ∀ j u, (tc d)[j]? = some u → w.cell? ⟨q, p * 7 + j, none⟩ = some u := by
  have hp := (List.getElem?_eq_some_iff.1 hd).1
  obtain ⟨q, c, e⟩ := ownsRow_some h.own (by omega)
  have ho := h.own
  rw [e] at ho
  exact ⟨q, c, e, (ownsRow_at ho rfl).2.1, fun j u hj => ownsRow_cell ho ((tcs_get D p d j hd (by have := (List.getElem?_eq_some_iff.1 hj).1; rwa [tc_length] at this)).trans hj)⟩
end
set_option maxRecDepth 100000 in
set_option maxHeartbeats 2000000 in
theorem psees_c {base b p g : Nat} {w : World} {tv : Value} {D : List Dt} (h : PB base w b tv D p g) (K : Nat) :
    Calls Tryz.prog 53 #[.pointer (some ⟨b, 0, none⟩), .int .i64 (K : Int)] w fun e w' => e = .returned (.bool (seesB D p K)) ∧ Below w.heap.size w w' := by
  have lb := h.lt
  have c0 := h.c0
  have c1 := h.c1
  cases hd : D[p]? with
  | none =>
    have e0 : seesB D p K = false := by unfold seesB; rw [hd]
    rw [e0]
    have hp : D.length ≤ p := List.getElem?_eq_none_iff.1 hd
    obtain ⟨q, c, rfl⟩ := ownsRow_shape h.tl.own
    have i0 : ¬ (p : Int) < (D.length : Int) := by omega
    have i1 : decide (p < D.length) = false := decide_eq_false (by omega)
    have i2 : decide ((p : Int) < (D.length : Int)) = false := decide_eq_false i0
    clear h e0 hd
    go_enter Tryz.func53, Tryz.ntmps53
    go_wp2
    refine wp_region_ext (by kernel_rfl) (by kernel_rfl) ?_
    repeat (go_big_quiet_step (first | exact rfl))
    refine wpQuiet_nil ?_
    intro w5 hw5
    have B5 : Hid (Below w.heap.size w w5) := ext_of hw5
    clear hw5
    go_wp2
    go_ret
    exact ⟨rfl, B5.out⟩
  | some d =>
    have e0 : seesB D p K = (d.1.1.kind == K) := by unfold seesB; rw [hd]
    rw [e0]
    have hp := (List.getElem?_eq_some_iff.1 hd).1
    obtain ⟨q, c, rfl, hq, hc⟩ := h.tl.tok hd
    have k0 : w.cell? ⟨q, p * 7, none⟩ = some (.int .i64 (d.1.1.kind : Int)) := hc 0 _ rfl
    have i0 : (p : Int) < (D.length : Int) := by omega
    have i1 : decide (p < D.length) = true := decide_eq_true hp
    have i2 : decide ((p : Int) < (D.length : Int)) = true := decide_eq_true i0
    have hk : (((d.1.1.kind : Nat) : Int) == (K : Int)) = (d.1.1.kind == K) := by rw [Bool.eq_iff_iff, beq_iff_eq, beq_iff_eq]; omega
    have hf := h.few
    clear h e0 hd hc
    generalize d.1.1.kind = kk at *
    go_enter Tryz.func53, Tryz.ntmps53
    go_wp2
    refine wp_region_ext (by kernel_rfl) (by kernel_rfl) ?_
    repeat (go_big_quiet_step (first | exact rfl))
    refine wpQuiet_nil ?_
    intro w5 hw5
    have B5 : Hid (Below w.heap.size w w5) := ext_of hw5
    clear hw5
    go_wp2
    go_ret
    exact ⟨by simp, B5.out⟩
/-- A token's value. -/
def tkVal (d : Dt) (rv : Value) : Value := .agg #[.int .i64 (d.1.1.kind : Int), .int .i64 (d.1.2.1 : Int), .int .i64 (d.1.2.2 : Int), .int .i64 (d.1.1.n : Int), .int .i64 d.1.1.mn, .int .i64 d.1.1.mx, rv]
abbrev tokN : Obj := .cells #[.int .i64 0, .int .i64 0, .int .i64 0, .int .i64 0, .int .i64 0, .int .i64 0, .slice none 0 0] 104
abbrev put79 (w : World) (g : Nat) (a b c d e f x : Value) : World := ((((((w.setCell ⟨g, 0, none⟩ a).setCell ⟨g, 1, none⟩ b).setCell ⟨g, 2, none⟩ c).setCell ⟨g, 3, none⟩ d).setCell ⟨g, 4, none⟩ e).setCell ⟨g, 5, none⟩ f).setCell ⟨g, 6, none⟩ x
theorem put79_heap {w : World} {g : Nat} (h : w.heap[g]? = some tokN) (a b c d e f x : Value) : (put79 w g a b c d e f x).heap[g]? = some (.cells #[a, b, c, d, e, f, x] 104 (0, 0)) :=
  heap_set_in (heap_set_in (heap_set_in (heap_set_in (heap_set_in (heap_set_in (heap_set_in h 0 a) 1 b) 2 c) 3 d) 4 e) 5 f) 6 x
theorem fr79 {S : Nat → Prop} {a w : World} {g : Nat} (h : Fr S a w) (hg : a.heap.size ≤ g) (x0 x1 x2 x3 x4 x5 x6 : Value) : Fr S a (put79 w g x0 x1 x2 x3 x4 x5 x6) :=
  ((((((h.setNew (p := ⟨g, 0, none⟩) hg _).setNew (p := ⟨g, 1, none⟩) hg _).setNew (p := ⟨g, 2, none⟩) hg _).setNew (p := ⟨g, 3, none⟩) hg _).setNew (p := ⟨g, 4, none⟩) hg _).setNew (p := ⟨g, 5, none⟩) hg _).setNew (p := ⟨g, 6, none⟩) hg _
theorem fr7a (w : World) (g : Nat) (x0 x1 x2 x3 x4 x5 x6 : Value) : Fr (At g) w (put79 w g x0 x1 x2 x3 x4 x5 x6) :=
  (((((((Fr.refl (At g) w).setCell (p := ⟨g, 0, none⟩) rfl _).setCell (p := ⟨g, 1, none⟩) rfl _).setCell (p := ⟨g, 2, none⟩) rfl _).setCell (p := ⟨g, 3, none⟩) rfl _).setCell (p := ⟨g, 4, none⟩) rfl _).setCell (p := ⟨g, 5, none⟩) rfl _).setCell (p := ⟨g, 6, none⟩) rfl _
/-- A token's place of its own is written. -/
theorem PB.side {base b p g z q c : Nat} {w w' : World} {D : List Dt} {cs : Array Value} (h : PB base w b (.slice (some ⟨q, 0, none⟩) D.length c) D p g) (hf : Fr (At z) w w') (hz : w.heap[z]? = some (.cells cs 104 (0, 0))) (hb : b ≠ z) (hq : q ≠ z) : PB base w' b (.slice (some ⟨q, 0, none⟩) D.length c) D p g :=
  ⟨(hf.block _ h.lt hb).trans h.bd, h.tl.fr hf (fun k hk e => by cases hk; exact hq e) (fun d hd k hk e => by obtain rfl : k = z := e; exact ownsRow_not (h.tl.each d hd).1 hz (by decide) hk), h.le, h.few, h.gp, h.ok, h.bs⟩
set_option maxRecDepth 100000 in
set_option maxHeartbeats 4000000 in
theorem ptake_c {base b p g : Nat} {w : World} {tv : Value} {D : List Dt} (h : PB base w b tv D p g) {d : Dt} (hd : D[p]? = some d) {qr : Option Addr} {nr cr : Nat} (hv : d.2.1 = .slice qr nr cr) :
    Calls Tryz.prog 54 #[.pointer (some ⟨b, 0, none⟩)] w fun e w' => e = .returned (tkVal d (.slice qr nr cr)) ∧ PB base w' b tv D (p + 1) g ∧ Fr (At b) w w' := by
  have lb := h.lt
  have hp := (List.getElem?_eq_some_iff.1 hd).1
  have hfw := h.few
  have F1 : Fr (At b) w (w.setCell ⟨b, 1, none⟩ (.int .i64 ((p : Int) + 1))) := (Fr.refl (At b) w).setCell (p := ⟨b, 1, none⟩) rfl _
  have H1 : PB base (w.setCell ⟨b, 1, none⟩ (.int .i64 ((p : Int) + 1))) b tv D (p + 1) g := h.set (p' := p + 1) (g' := g) (heap_set_in h.bd 1 (.int .i64 ((p : Int) + 1))) F1 (by omega) (by have := h.gp; omega)
  have B2 : Below (w.setCell ⟨b, 1, none⟩ (.int .i64 ((p : Int) + 1))).heap.size (w.setCell ⟨b, 1, none⟩ (.int .i64 ((p : Int) + 1))) ((w.setCell ⟨b, 1, none⟩ (.int .i64 ((p : Int) + 1))).alloc tokN) := (Below.refl _ _).alloc (Nat.le_refl _) _
  have hsz : (w.setCell ⟨b, 1, none⟩ (.int .i64 ((p : Int) + 1))).heap.size = w.heap.size := by simp
  have H2 := hide (H1.kept B2)
  have F2 := hide (F1.trans (Fr.of_below B2))
  have Z2 := alloc_new (w.setCell ⟨b, 1, none⟩ (.int .i64 ((p : Int) + 1))) tokN
  rw [hsz] at Z2
  have HZ2 := hide Z2
  have c0 := h.c0
  have c1 := h.c1
  have f1 := frz_row h.bd 1
  have hqs : ∀ q, tv.ownBlock = some q → q ≠ w.heap.size := fun q hq e => by have := (ownsRow_at h.tl.own hq).2.1; omega
  clear h B2 H1 F1 Z2 hsz
  go_enter Tryz.func54, Tryz.ntmps54
  go_upto_region 2 with fail
  generalize ((w.setCell ⟨b, 1, none⟩ (.int .i64 ((p : Int) + 1))).alloc tokN) = W2 at H2 F2 HZ2 ⊢
  clear c0 c1 f1
  have c0 := H2.out.c0
  have c1 : W2.cell? ⟨b, 1, none⟩ = some (.int .i64 ((p : Int) + 1)) := H2.out.c1
  obtain ⟨q, c, rfl, hq, hc⟩ := H2.out.tl.tok hd
  have hqz : q ≠ w.heap.size := hqs q rfl
  have k0 : W2.cell? ⟨q, p * 7, none⟩ = _ := hc 0 _ rfl
  have k1 : W2.cell? ⟨q, p * 7 + 1, none⟩ = _ := hc 1 _ rfl
  have k2 : W2.cell? ⟨q, p * 7 + 2, none⟩ = _ := hc 2 _ rfl
  have k3 : W2.cell? ⟨q, p * 7 + 3, none⟩ = _ := hc 3 _ rfl
  have k4 : W2.cell? ⟨q, p * 7 + 4, none⟩ = _ := hc 4 _ rfl
  have k5 : W2.cell? ⟨q, p * 7 + 5, none⟩ = _ := hc 5 _ rfl
  have k6 : W2.cell? ⟨q, p * 7 + 6, none⟩ = some (.slice qr nr cr) := by rw [← hv]; exact hc 6 _ rfl
  have lz := lt_of_heap HZ2.out
  have z0 := cell_row HZ2.out (i := 0) rfl
  have z1 := cell_row HZ2.out (i := 1) rfl
  have z2 := cell_row HZ2.out (i := 2) rfl
  have z3 := cell_row HZ2.out (i := 3) rfl
  have z4 := cell_row HZ2.out (i := 4) rfl
  have z5 := cell_row HZ2.out (i := 5) rfl
  have z6 := cell_row HZ2.out (i := 6) rfl
  have fz := fun z => frz_row HZ2.out z
  have i0 : (p : Int) < (D.length : Int) := by omega
  have i1 : (p : Int) + 1 - 1 = (p : Int) := by omega
  clear hc hd hv
  go_region
  have P := put79_heap HZ2.out (.int .i64 (d.1.1.kind : Int)) (.int .i64 (d.1.2.1 : Int)) (.int .i64 (d.1.2.2 : Int)) (.int .i64 (d.1.1.n : Int)) (.int .i64 d.1.1.mn) (.int .i64 d.1.1.mx) (.slice qr nr cr)
  have FP := fr79 F2.out (Nat.le_refl _) (.int .i64 (d.1.1.kind : Int)) (.int .i64 (d.1.2.1 : Int)) (.int .i64 (d.1.2.2 : Int)) (.int .i64 (d.1.1.n : Int)) (.int .i64 d.1.1.mn) (.int .i64 d.1.1.mx) (.slice qr nr cr)
  have FQ := fr7a W2 w.heap.size (.int .i64 (d.1.1.kind : Int)) (.int .i64 (d.1.2.1 : Int)) (.int .i64 (d.1.2.2 : Int)) (.int .i64 (d.1.1.n : Int)) (.int .i64 d.1.1.mn) (.int .i64 d.1.1.mx) (.slice qr nr cr)
  have PQ : Hid (PB base (put79 W2 w.heap.size (.int .i64 (d.1.1.kind : Int)) (.int .i64 (d.1.2.1 : Int)) (.int .i64 (d.1.2.2 : Int)) (.int .i64 (d.1.1.n : Int)) (.int .i64 d.1.1.mn) (.int .i64 d.1.1.mx) (.slice qr nr cr)) b (.slice (some ⟨q, 0, none⟩) D.length c) D (p + 1) g) := H2.out.side FQ HZ2.out (by omega) hqz
  have HFP := hide FP
  have HP := hide P
  unfold put79 at PQ HFP HP
  clear P FP FQ z0 z1 z2 z3 z4 z5 z6 fz
  generalize (((((((W2.setCell ⟨w.heap.size, 0, none⟩ (.int .i64 (d.1.1.kind : Int))).setCell ⟨w.heap.size, 1, none⟩ (.int .i64 (d.1.2.1 : Int))).setCell ⟨w.heap.size, 2, none⟩ (.int .i64 (d.1.2.2 : Int))).setCell ⟨w.heap.size, 3, none⟩ (.int .i64 (d.1.1.n : Int))).setCell ⟨w.heap.size, 4, none⟩ (.int .i64 d.1.1.mn)).setCell ⟨w.heap.size, 5, none⟩ (.int .i64 d.1.1.mx)).setCell ⟨w.heap.size, 6, none⟩ (.slice qr nr cr)) = W3 at PQ HFP HP ⊢
  go_wp2
  have z0 := cell_row HP.out (i := 0) rfl
  have z1 := cell_row HP.out (i := 1) rfl
  have z2 := cell_row HP.out (i := 2) rfl
  have z3 := cell_row HP.out (i := 3) rfl
  have z4 := cell_row HP.out (i := 4) rfl
  have z5 := cell_row HP.out (i := 5) rfl
  have z6 := cell_row HP.out (i := 6) rfl
  refine bodyPost_ret (v := tkVal d (.slice qr nr cr)) ?_ rfl ⟨rfl, PQ.out.kept (Below.refl _ _).drew, HFP.out.drew⟩
  simp [results, Tryz.results54, go_sem, tkVal, z0, z1, z2, z3, z4, z5, z6]
end Go.Proofs.YtpfdapnfkghgkaaGreatDoor
namespace Go.Proofs.YtpfdapnfkghgkaaGreatDoor
open Go Go.RowKit
attribute [local go_sem] ext_cell

/-- What a call of the builder answers that takes a part. -/
def PPost (base : Nat) (w : World) (b : Nat) (tv : Value) (D : List Dt) (p g : Nat) (x : Ps) (e : Ending) (w' : World) : Prop :=
  ∃ v, e = .returned v ∧ PV base (fun k => w.heap.size ≤ k) w' x v ∧ PB base w' b tv D (p + (pfl x).length) (g + nop (pfl x)) ∧ Fr (At b) w w'
def restP (r : List Sgn) : Prop := r = [] ∨ ∃ r', r = .cl :: r'
def restB (r : List Sgn) : Prop := r = [] ∨ (∃ r', r = .cl :: r') ∨ ∃ r', r = .al :: r'
def restI (r : List Sgn) : Prop := ∀ a b r', r ≠ .rp a b :: r'
def PatC (x : Ps) : Prop := ∀ (base b p g : Nat) (w : World) (tv : Value) (D : List Dt) (r : List Sgn), PB base w b tv D p g → left D p g = pfl x ++ r → restP r →
  Calls Tryz.prog 25 #[.pointer (some ⟨b, 0, none⟩)] w (PPost base w b tv D p g x)
theorem sg_lf {g : Nat} {t : Tk} {k n : Int} {rs : List (Int × Int)} (h1 : 1 ≤ t.kind) (h2 : t.kind ≤ 8) (h : .lf k n rs = sgT g t) :
    (t.kind = 7 ∧ k = 3 ∧ n = 0 ∧ rs = []) ∨ (t.kind = 8 ∧ k = 4 ∧ n = 0 ∧ rs = []) ∨ (t.kind = 6 ∧ k = 8 ∧ n = (t.n : Int) ∧ rs = []) ∨ (t.kind = 1 ∧ k = 2 ∧ n = 0 ∧ rs = rsQ t.q) := by
  rcases kinds_of h1 h2 with e | e | e | e | e | e | e | e <;> simp [sgT, e] at h <;> simp [e, h]
theorem sg_op {g n : Nat} {t : Tk} (h1 : 1 ≤ t.kind) (h2 : t.kind ≤ 8) (h : .op n = sgT g t) : t.kind = 3 ∧ n = g + 1 := by
  rcases kinds_of h1 h2 with e | e | e | e | e | e | e | e <;> simp [sgT, e] at h <;> simp [e, h]
theorem sg_rp {g : Nat} {t : Tk} {a b : Int} (h1 : 1 ≤ t.kind) (h2 : t.kind ≤ 8) (h : .rp a b = sgT g t) : t.kind = 2 ∧ a = t.mn ∧ b = t.mx := by
  rcases kinds_of h1 h2 with e | e | e | e | e | e | e | e <;> simp [sgT, e] at h <;> simp [e, h]
theorem PB.dt {base b p g : Nat} {w : World} {tv : Value} {D : List Dt} (h : PB base w b tv D p g) {d : Dt} (hd : D[p]? = some d) : ∃ q c, d.2.1 = .slice q d.2.2.length c ∧ RR base w (.slice q d.2.2.length c) d.2.2 ∧ IsC d.2.2 d.1.1.q ∧ TokOK d.1.1 ∧ d.2.2.length ≤ 1000000 := by
  have hm := List.mem_of_getElem? hd
  obtain ⟨h1, h2⟩ := h.tl.each d hm
  obtain ⟨q, c, e⟩ := ownsRow_shape h1
  exact ⟨q, c, e, e ▸ h1, h2, (h.ok d hm).1, (h.ok d hm).2⟩
set_option maxRecDepth 100000 in
set_option maxHeartbeats 4000000 in
theorem thing_lf {base b p g : Nat} {w : World} {tv : Value} {D : List Dt} {k n : Int} {rs : List (Int × Int)} {r : List Sgn} (h : PB base w b tv D p g) (hl : left D p g = pfl (.lf k n rs) ++ r) :
    Calls Tryz.prog 113 #[.pointer (some ⟨b, 0, none⟩)] w (PPost base w b tv D p g (.lf k n rs)) := by
  rw [pfl, List.singleton_append] at hl
  obtain ⟨d, hd, hs, -, hp⟩ := left_cons hl
  obtain ⟨q, c, hv, hr, hI, hok, hlen⟩ := h.dt hd
  have T := hide (ptake_c h hd hv)
  obtain ⟨K, hK⟩ : ∃ K : Int, (d.1.1.kind : Int) = K := ⟨_, rfl⟩
  unfold tkVal at T
  rw [hK] at T
  have HS := hide hr
  have e1 : (pfl (.lf k n rs)).length = 1 := rfl
  have e2 : nop (pfl (.lf k n rs)) = 0 := rfl
  have POST : ∀ (v : Value) (w' : World), PV base (fun k => w.heap.size ≤ k) w' (.lf k n rs) v → PB base w' b tv D (p + 1) g → Fr (At b) w w' → PPost base w b tv D p g (.lf k n rs) (.returned v) w' := fun v w' h1 h2 h3 => ⟨v, rfl, h1, h2, h3⟩
  have HP := hide POST
  have HLE := hide hlen
  have HBD := hide h.bd
  have HI := hide hI
  clear POST hlen hI h hl hd hv hr e1 e2
  rcases sg_lf hok.1 hok.2.1 hs with ⟨z, z1, z2, z3⟩ | ⟨z, z1, z2, z3⟩ | ⟨z, z1, z2, z3⟩ | ⟨z, z1, z2, z3⟩
  · have a3 : (K == 3) = false := by rw [← hK, z]; rfl
    have a7 : (K == 7) = true := by rw [← hK, z]; rfl
    subst z1 z2 z3
    clear hK z hs hok
    go_enter Tryz.func113, Tryz.ntmps113
    go_wp2_with (go_at_call 54; (with_reducible refine (T.out).mono ?_); rintro e w5 ⟨rfl, h1, h2⟩; have H5 := hide h1; have F5 := hide h2; clear h1 h2)
    go_ret
    exact HP.out _ _ (.lf 3 0 [] none 0 (RR.nil _ _) fit_nil (by simp)) (H5.out.kept ((Below.refl _ _).alloc (Nat.le_refl _) _)) (F5.out.alloc _)
  · have a3 : (K == 3) = false := by rw [← hK, z]; rfl
    have a7 : (K == 7) = false := by rw [← hK, z]; rfl
    have a8 : (K == 8) = true := by rw [← hK, z]; rfl
    subst z1 z2 z3
    clear hK z hs hok
    go_enter Tryz.func113, Tryz.ntmps113
    go_wp2_with (go_at_call 54; (with_reducible refine (T.out).mono ?_); rintro e w5 ⟨rfl, h1, h2⟩; have H5 := hide h1; have F5 := hide h2; clear h1 h2)
    go_ret
    exact HP.out _ _ (.lf 4 0 [] none 0 (RR.nil _ _) fit_nil (by simp)) (H5.out.kept ((Below.refl _ _).alloc (Nat.le_refl _) _)) (F5.out.alloc _)
  · have a3 : (K == 3) = false := by rw [← hK, z]; rfl
    have a7 : (K == 7) = false := by rw [← hK, z]; rfl
    have a8 : (K == 8) = false := by rw [← hK, z]; rfl
    have a6 : (K == 6) = true := by rw [← hK, z]; rfl
    subst z1 z2 z3
    clear hK z hs hok
    go_enter Tryz.func113, Tryz.ntmps113
    go_wp2_with (go_at_call 54; (with_reducible refine (T.out).mono ?_); rintro e w5 ⟨rfl, h1, h2⟩; have H5 := hide h1; have F5 := hide h2; clear h1 h2)
    go_ret
    exact HP.out _ _ (.lf 8 _ [] none 0 (RR.nil _ _) fit_nil (by simp)) (H5.out.kept ((Below.refl _ _).alloc (Nat.le_refl _) _)) (F5.out.alloc _)
  · have a3 : (K == 3) = false := by rw [← hK, z]; rfl
    have a7 : (K == 7) = false := by rw [← hK, z]; rfl
    have a8 : (K == 8) = false := by rw [← hK, z]; rfl
    have a6 : (K == 6) = false := by rw [← hK, z]; rfl
    rw [rsQ_is HI.out] at z3
    subst z1 z2 z3
    clear hK z hs hok
    go_enter Tryz.func113, Tryz.ntmps113
    go_wp2_with (go_at_call 54; (with_reducible refine (T.out).mono ?_); rintro e w5 ⟨rfl, h1, h2⟩; have H5 := hide h1; have F5 := hide h2; clear h1 h2)
    go_ret
    refine HP.out _ _ (.lf 2 0 d.2.2 q c ?_ HI.out.fit HLE.out) (H5.out.kept ((Below.refl _ _).alloc (Nat.le_refl _) _)) (F5.out.alloc _)
    exact (HS.out.fr F5.out (fun k hk e => by obtain rfl : k = b := e; exact ownsRow_not HS.out HBD.out (by decide) hk)).kept ((Below.refl _ _).alloc (Nat.le_refl _) _)
set_option maxRecDepth 100000 in
set_option maxHeartbeats 4000000 in
theorem group_c {base b p g : Nat} {w : World} {tv : Value} {D : List Dt} {x : Ps} {r : List Sgn} (hx : PatC x) (h : PB base w b tv D p g) (hl : left D p (g + 1) = pfl x ++ .cl :: r) (hg : g + 1 ≤ p) :
    Calls Tryz.prog 135 #[.pointer (some ⟨b, 0, none⟩)] w fun e w' => ∃ v, e = .returned v ∧ PV base (fun k => w.heap.size ≤ k) w' (.grp (g + 1) x) v ∧ PB base w' b tv D (p + (pfl x).length + 1) (g + 1 + nop (pfl x)) ∧ Fr (At b) w w' := by
  have lb := h.lt
  have F1 : Fr (At b) w (w.setCell ⟨b, 2, none⟩ (.int .i64 ((g : Int) + 1))) := (Fr.refl (At b) w).setCell (p := ⟨b, 2, none⟩) rfl _
  have H1 : PB base (w.setCell ⟨b, 2, none⟩ (.int .i64 ((g : Int) + 1))) b tv D p (g + 1) := h.set (p' := p) (g' := g + 1) (heap_set_in h.bd 2 (.int .i64 ((g : Int) + 1))) F1 h.le hg
  have hsz : (w.setCell ⟨b, 2, none⟩ (.int .i64 ((g : Int) + 1))).heap.size = w.heap.size := by simp
  have c2 := h.c2
  have f2 := frz_row h.bd 2
  have hgb : g ≤ 2000 := by have := h.le; have := h.few; omega
  have d2 : (w.setCell ⟨b, 2, none⟩ (.int .i64 ((g : Int) + 1))).cell? ⟨b, 2, none⟩ = some (.int .i64 ((g : Int) + 1)) := H1.c2
  have HL := hide hl
  have HX := hide hx
  have HF1 := hide F1
  have HH1 := hide H1
  have HSZ := hide hsz
  clear h hl hx F1 H1 hsz
  go_enter Tryz.func135, Tryz.ntmps135
  go_upto_region 3 with fail
  generalize (w.setCell ⟨b, 2, none⟩ (.int .i64 ((g : Int) + 1))) = W1 at d2 HF1 HH1 HSZ ⊢
  have CP := hide (HX.out base b p (g + 1) W1 tv D (.cl :: r) HH1.out HL.out (.inr ⟨r, rfl⟩))
  clear c2 f2 d2
  go_upto_region 4 with (go_at_call 25; (with_reducible refine (CP.out).mono ?_); rintro e w5 ⟨v5, rfl, h1, h2, h3⟩; obtain ⟨T5, x5, rfl⟩ := h1.shape; have V5 := hide h1; have H5 := hide h2; have F5 := hide h3; clear h1 h2 h3)
  obtain ⟨hl5, hb5⟩ := left_app HL.out
  obtain ⟨d, hd, -, -, -⟩ := left_cons hl5
  obtain ⟨q, c, hv, -⟩ := H5.out.dt hd
  have T := hide (ptake_c H5.out hd hv)
  unfold tkVal at T
  clear hl5 hb5 hd hv
  go_wp2_with (go_at_call 54; (with_reducible refine (T.out).mono ?_); rintro e w6 ⟨rfl, h1, h2⟩; have H6 := hide h1; have F6 := hide h2; clear h1 h2)
  go_ret
  exact ⟨_, rfl, (.grp (g + 1) x _ ((V5.out.mono (fun k hk => by have := HSZ.out; omega)).fr F6.out (H5.out.apt _))), H6.out, (HF1.out.trans F5.out).trans F6.out⟩
end Go.Proofs.YtpfdapnfkghgkaaGreatDoor
namespace Go.Proofs.YtpfdapnfkghgkaaGreatDoor
open Go Go.RowKit
attribute [local go_sem] ext_cell

def ThC (x : Ps) : Prop := ∀ (base b p g : Nat) (w : World) (tv : Value) (D : List Dt) (r : List Sgn), PB base w b tv D p g → left D p g = pfl x ++ r →
  Calls Tryz.prog 113 #[.pointer (some ⟨b, 0, none⟩)] w (PPost base w b tv D p g x)
def ItC (x : Ps) : Prop := ∀ (base b p g : Nat) (w : World) (tv : Value) (D : List Dt) (r : List Sgn), PB base w b tv D p g → left D p g = pfl x ++ r → restI r →
  Calls Tryz.prog 86 #[.pointer (some ⟨b, 0, none⟩)] w (PPost base w b tv D p g x)
theorem thing_lf_c (k n : Int) (rs : List (Int × Int)) : ThC (.lf k n rs) := fun _ _ _ _ _ _ _ _ h hl => thing_lf h hl
set_option maxRecDepth 100000 in
set_option maxHeartbeats 4000000 in
theorem thing_grp {x : Ps} {n : Nat} (hx : PatC x) : ThC (.grp n x) := by
  intro base b p g w tv D r h hl
  rw [pfl, List.cons_append, List.append_assoc] at hl
  obtain ⟨d, hd, hs, hl2, hp⟩ := left_cons hl
  obtain ⟨q, c, hv, -, -, hok, -⟩ := h.dt hd
  obtain ⟨hk, rfl⟩ := sg_op hok.1 hok.2.1 hs
  have T := hide (ptake_c h hd hv)
  unfold tkVal at T
  rw [hk] at T
  have hgp := h.gp
  have G : Hid (∀ W, PB base W b tv D (p + 1) g → Calls Tryz.prog 135 #[.pointer (some ⟨b, 0, none⟩)] W fun e w' => ∃ v, e = .returned v ∧ PV base (fun k => W.heap.size ≤ k) w' (.grp (g + 1) x) v ∧ PB base w' b tv D (p + 1 + (pfl x).length + 1) (g + 1 + nop (pfl x)) ∧ Fr (At b) W w') := fun W hW => group_c (r := r) hx hW hl2 (by omega)
  have HP : Hid (∀ (v : Value) (w' : World), PV base (fun k => w.heap.size ≤ k) w' (.grp (g + 1) x) v → PB base w' b tv D (p + 1 + (pfl x).length + 1) (g + 1 + nop (pfl x)) → Fr (At b) w w' → PPost base w b tv D p g (.grp (g + 1) x) (.returned v) w') := fun v w' h1 h2 h3 => by
    refine ⟨v, rfl, h1, ?_, h3⟩
    rw [pfl, show (Sgn.op (g + 1) :: (pfl x ++ [Sgn.cl])).length = (pfl x).length + 2 by simp, show nop (Sgn.op (g + 1) :: (pfl x ++ [Sgn.cl])) = nop (pfl x) + 1 by simp [nop, nop_append]]
    rw [show p + ((pfl x).length + 2) = p + 1 + (pfl x).length + 1 by omega, show g + (nop (pfl x) + 1) = g + 1 + nop (pfl x) by omega]
    exact h2
  clear h hl hl2 hd hv hk hok hs hx
  go_enter Tryz.func113, Tryz.ntmps113
  go_wp2_with first
    | (go_at_call 54; (with_reducible refine (T.out).mono ?_); rintro e w5 ⟨rfl, h1, h2⟩; have H5 := hide h1; have F5 := hide h2; have B5 : Hid (Below w5.heap.size w5 (w5.alloc (.cells #[.int .i64 3, .int .i64 (d.1.2.1 : Int), .int .i64 (d.1.2.2 : Int), .int .i64 (d.1.1.n : Int), .int .i64 d.1.1.mn, .int .i64 d.1.1.mx, .slice q d.2.2.length c] 104))) := (Below.refl _ _).alloc (Nat.le_refl _) _; clear h1 h2)
    | (go_at_call 135; (with_reducible refine (G.out _ (H5.out.kept B5.out)).mono ?_); rintro e w6 ⟨v6, rfl, h1, h2, h3⟩; obtain ⟨T6, x6, rfl⟩ := h1.shape; have V6 := hide h1; have H6 := hide h2; have F6 := hide h3; clear h1 h2 h3)
  go_ret
  exact HP.out _ _ (V6.out.mono (fun k hk => by have := B5.out.size; have := F5.out.size; omega)) H6.out ((F5.out.trans (Fr.of_below B5.out)).trans F6.out)
def repsOf : Ps → List (Int × Int) → Ps
  | y, [] => y
  | y, (a, b) :: l => repsOf (.rep a b y) l
def rps (l : List (Int × Int)) : List Sgn := l.map fun z => .rp z.1 z.2
theorem reps_snoc : ∀ (l : List (Int × Int)) (y : Ps) (a b : Int), repsOf y (l ++ [(a, b)]) = .rep a b (repsOf y l)
  | [], y, a, b => rfl
  | (c, d) :: l, y, a, b => by rw [List.cons_append, repsOf, reps_snoc, repsOf]
theorem reps_flat : ∀ (l : List (Int × Int)) (y : Ps), pfl (repsOf y l) = pfl y ++ rps l
  | [], y => by simp [repsOf, rps]
  | (a, b) :: l, y => by rw [repsOf, reps_flat, pfl]; simp [rps]
theorem nop_rps (l : List (Int × Int)) : nop (rps l) = 0 := by
  induction l with
  | nil => rfl
  | cons x l ih => exact ih
/-- An item is a thing and its turns. -/
theorem itm_parts (x : Ps) : isItm x = true → wf x → ∃ y l, x = repsOf y l ∧ ((∃ k n rs, y = .lf k n rs) ∨ ∃ n z, y = .grp n z) ∧ (l = [] ∨ isThg y = true) ∧ y.sz ≤ x.sz ∧ wf y := by
  refine Ps.ind (P := fun x => isItm x = true → wf x → ∃ y l, x = repsOf y l ∧ ((∃ k n rs, y = .lf k n rs) ∨ ∃ n z, y = .grp n z) ∧ (l = [] ∨ isThg y = true) ∧ y.sz ≤ x.sz ∧ wf y) (fun x ih h hw => ?_) x
  cases x with
  | lf k n rs => exact ⟨_, [], rfl, .inl ⟨k, n, rs, rfl⟩, .inl rfl, Nat.le_refl _, hw⟩
  | grp n z => exact ⟨_, [], rfl, .inr ⟨n, z, rfl⟩, .inl rfl, Nat.le_refl _, hw⟩
  | rep a b k =>
    rw [wf] at hw
    obtain ⟨y, l, e, h1, h2, h3, h4⟩ := ih k (by simp [Ps.kids]) (thg_itm hw.1).1 hw.2
    refine ⟨y, l ++ [(a, b)], by rw [reps_snoc, ← e], h1, .inr ?_, by simp [Ps.sz]; omega, h4⟩
    rcases h2 with h2 | h2
    · subst h2
      have := hw.1
      rw [e] at this
      exact this
    · exact h2
  | row => simp [isItm] at h
  | alt => simp [isItm] at h
/-- At which token the builder stands, as the world tells. -/
def atP (w : World) (b : Nat) : Nat := match w.cell? ⟨b, 1, none⟩ with
  | some (.int _ z) => z.toNat
  | _ => 0
theorem PB.atP {base b p g : Nat} {w : World} {tv : Value} {D : List Dt} (h : PB base w b tv D p g) : Go.Proofs.YtpfdapnfkghgkaaGreatDoor.atP w b = p := by
  unfold Go.Proofs.YtpfdapnfkghgkaaGreatDoor.atP
  rw [h.c1]
  simp
set_option maxRecDepth 100000 in
set_option maxHeartbeats 4000000 in
theorem pitem_c {y : Ps} {l : List (Int × Int)} (hy : ThC y) : ItC (repsOf y l) := by
  intro base b p g w tv D r h hl hr
  rw [reps_flat, List.append_assoc] at hl
  have HT := hide (hy base b p g w tv D _ h hl)
  have HL := hide hl
  have HR := hide hr
  have hlb := h.lt
  have hfw := h.few
  obtain ⟨X, hX⟩ : ∃ X, PPost base w b tv D p g (repsOf y l) = X := ⟨_, rfl⟩
  have HX := hide hX
  rw [hX]
  clear hX h hl hr hy
  go_enter Tryz.func86, Tryz.ntmps86
  go_wp2_with (go_at_call 113; (with_reducible refine (HT.out).mono ?_); rintro e w5 ⟨v5, rfl, h1, h2, h3⟩; obtain ⟨T5, x5, rfl⟩ := h1.shape; have V5 := hide h1; have H5 := hide h2; have F5 := hide h3; clear h1 h2 h3)
  go_loopw [3] (fun v wr => ∃ l1 l2, l = l1 ++ l2 ∧ PV base (fun k => w.heap.size ≤ k) wr (repsOf y l1) v ∧ PB base wr b tv D (p + (pfl y).length + l1.length) (g + nop (pfl y)) ∧ Fr (At b) w wr) (fun _ wr => D.length + 1 - atP wr b)
  case atStart => exact ⟨[], l, rfl, V5.out, H5.out, F5.out⟩
  case round =>
    obtain ⟨l1, l2, e, g1, g2, g3⟩ := hrel
    obtain ⟨T6, x6, rfl⟩ := g1.shape
    have hle : left D (p + (pfl y).length + l1.length) (g + nop (pfl y)) = rps l2 ++ r := by
      have h1 := (left_app HL.out).1
      rw [e, show rps (l1 ++ l2) = rps l1 ++ rps l2 by simp [rps], List.append_assoc] at h1
      have h2 := (left_app h1).1
      rw [nop_rps, show (rps l1).length = l1.length by simp [rps]] at h2
      exact h2
    have V6 := hide g1
    have H6 := hide g2
    have F6 := hide g3
    have HE := hide e
    have hat := hide g2.atP
    have hle2 := hide g2.le
    have S0 : Calls Tryz.prog 53 #[.pointer (some ⟨b, 0, none⟩), .int .i64 2] wr fun e w' => e = .returned (.bool (seesB D (p + (pfl y).length + l1.length) 2)) ∧ Below wr.heap.size wr w' := psees_c g2 2
    clear g1 g2 g3 e
    cases l2 with
    | nil =>
      have hsb : seesB D (p + (pfl y).length + l1.length) 2 = false := by
        cases hr0 : r with
        | nil => exact H6.out.blind (by rw [hle, hr0]; rfl) 2
        | cons s r' =>
          rw [H6.out.seeing (s := s) (r := r') (by rw [hle, hr0]; rfl) 2]
          cases s with
          | rp a b => exact absurd hr0 (HR.out a b r')
          | lf k n rs => simp only [skd]; repeat' split
                         all_goals rfl
          | _ => rfl
      rw [hsb] at S0
      have S := hide S0
      clear S0 hsb hle
      go_wp2_with (go_at_call 53; (with_reducible refine (S.out).mono ?_); rintro e w7 ⟨rfl, h1⟩; have B7 := hide h1; clear h1)
      show X (.returned (.iface T6 x6)) w7
      have e2 := HE.out
      rw [List.append_nil] at e2
      subst e2
      rw [← HX.out]
      refine ⟨_, rfl, V6.out.kept B7.out, ?_, F6.out.trans (Fr.of_below B7.out)⟩
      rw [reps_flat, List.length_append, nop_append, nop_rps, show (rps l).length = l.length by simp [rps], Nat.add_zero, ← Nat.add_assoc]
      exact H6.out.kept B7.out
    | cons z l2 =>
      have hsb : seesB D (p + (pfl y).length + l1.length) 2 = true := by rw [H6.out.seeing (s := .rp z.1 z.2) (r := rps l2 ++ r) hle 2]; rfl
      rw [hsb] at S0
      have S := hide S0
      obtain ⟨d, hd, hs, -, hp⟩ := left_cons (show left D (p + (pfl y).length + l1.length) (g + nop (pfl y)) = .rp z.1 z.2 :: (rps l2 ++ r) from hle)
      obtain ⟨q, c, hv, -, -, hok, -⟩ := H6.out.dt hd
      obtain ⟨hk, e1, e2⟩ := sg_rp hok.1 hok.2.1 hs
      have TK : Hid (∀ W, Below wr.heap.size wr W → Calls Tryz.prog 54 #[.pointer (some ⟨b, 0, none⟩)] W fun e w' => e = .returned (.agg #[.int .i64 (d.1.1.kind : Int), .int .i64 (d.1.2.1 : Int), .int .i64 (d.1.2.2 : Int), .int .i64 (d.1.1.n : Int), .int .i64 z.1, .int .i64 z.2, .slice q d.2.2.length c]) ∧ PB base w' b tv D (p + (pfl y).length + l1.length + 1) (g + nop (pfl y)) ∧ Fr (At b) W w') := fun W hW => by
        have := ptake_c (H6.out.kept hW) hd hv
        unfold tkVal at this
        rw [← e1, ← e2] at this
        exact this
      clear S0 hsb hle hs hv hk hok hd e1 e2
      go_wp2_with first
        | (go_at_call 53; (with_reducible refine (S.out).mono ?_); rintro e w7 ⟨rfl, h1⟩; have B7 := hide h1; clear h1)
        | (go_at_call 54; (with_reducible refine (TK.out _ B7.out).mono ?_); rintro e w8 ⟨rfl, h1, h2⟩; have H8 := hide h1; have F8 := hide h2; have B8 : Hid (Below w8.heap.size w8 (w8.alloc (.cells #[.int .i64 (d.1.1.kind : Int), .int .i64 (d.1.2.1 : Int), .int .i64 (d.1.2.2 : Int), .int .i64 (d.1.1.n : Int), .int .i64 z.1, .int .i64 z.2, .slice q d.2.2.length c] 104))) := (Below.refl _ _).alloc (Nat.le_refl _) _; clear h1 h2)
      go_roundw
      case rel =>
        refine ⟨l1 ++ [z], l2, by rw [HE.out]; simp, ?_, ?_, (F6.out.trans (Fr.of_below B7.out)).trans (F8.out.trans (Fr.of_below B8.out))⟩
        · rw [show z = (z.1, z.2) from rfl, reps_snoc]
          exact .rep _ _ _ _ (((V6.out.kept B7.out).fr F8.out ((H6.out.kept B7.out).apt _)).kept B8.out)
        · rw [List.length_append, List.length_singleton, ← Nat.add_assoc]
          exact H8.out.kept B8.out
      case measure =>
        have m1 := (H8.out.kept B8.out).atP
        have m2 := hat.out
        have m3 := H8.out.le
        omega
end Go.Proofs.YtpfdapnfkghgkaaGreatDoor
