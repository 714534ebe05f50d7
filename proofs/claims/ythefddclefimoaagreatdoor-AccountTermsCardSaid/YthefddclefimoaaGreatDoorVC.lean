/- DERIVED: THE SHELF's CONTRACTS AT THIS DUMP, IN PLAIN WORDS (tools/lay-plain.mjs out of 'YthefddclefimoaaGreatDoorShelf.lean', which tools/lay-shelf.mjs wrote): THE SAME DECLARATIONS UNDER THE SAME NAMES: 'import', 'namespace', 'open', 'def', 'theorem' AND NOTHING ELSE: no command of the shelf's: FOR A HAND-IN. Each laying: the table of numbers ('.._ren') and one theorem, a field a fact of the dump's own or the kernel's comparison; each contract: ONE APPLICATION. Layer 5 (ids): what the program's small functions do, and which texts are names. Layer 5 (ids): servers' names, users', rooms'. The library's variable stays. No program stands here. ids.User of any text. Lists that are right: so many at most, each of them good, in order. No program stands here. The order of texts. No program stands here. Lists of users. Package account: find, Whose, Register, Logout, Agreed. Sorted texts, each once; what slices.Sort and slices.Compact leave of a slice of one's own; a field that is stored. No program stands here. -/
import Derived.Shelf.Strings.Trim
import Derived.Shelf.Small.Utf8
import Derived.Shelf.Small.Bits
import Derived.Shelf.Small.Strs
import Derived.Shelf.Strconv.Itoa0
import Derived.Shelf.Strings.Search1
import Derived.Shelf.Strings.Search2
import Derived.Shelf.Strings.Search3
import Derived.Shelf.Strings.Cut
import Derived.Shelf.LaysM
import Derived.Shelf.Strings.Shaped
import Derived.Shelf.Sort.Plain
import Derived.Shelf.Strings.Prefix
import Derived.Shelf.Unicode.Decode
import Derived.Shelf.Strings.Runes
import Derived.Shelf.Strings.AsciiSet
import Derived.Shelf.Unicode.DecodeSlow
import Derived.Shelf.Unicode.DecodeAny
import Derived.Shelf.Unicode.DecodeLast
import Derived.Shelf.Slices.Turned
import Derived.Shelf.Slices.CompactS
import Derived.Shelf.Slices.Cells
import Derived.Shelf.Slices.In.SortNone
import Derived.Test.YthefddclefimoaaGreatDoorProg
import Derived.Shelf.Strings.SlTrimAscii
import Derived.Sort.OwnSorted
import Derived.Lib.SlicesCompact
import Derived.Lib.RowBridge
import Derived.Lib.AppendZeros
import Derived.Test.YthefddclefimoaaGreatDoorVB
namespace Go.Proofs
open Go.Shelf
def Tryz.lays231_ren : Go.Shelf.Ren := ⟨fun | 231 => 148 | n => n, fun | 9 => 9 | 5 => 5 | 3 => 3 | 4 => 4 | n => n, fun | n => n⟩
theorem Tryz.lays231 : Go.Proofs.Lays.n231 Tryz.prog Tryz.lays231_ren := {
  mixed := by kernel_rfl
  f231 := Tryz.func148.trans (congrArg some (by kernel_rfl))
  t3 := Tryz.underlying3
  a3 := Tryz.isAgg3
  z3 := Tryz.sizeOf3
  v3 := Tryz.zeroValue3
  t4 := Tryz.underlying4
  a4 := Tryz.isAgg4
  z4 := Tryz.sizeOf4
  v4 := Tryz.zeroValue4
  t5 := Tryz.underlying5
  a5 := Tryz.isAgg5
  z5 := Tryz.sizeOf5
  v5 := Tryz.zeroValue5
  t9 := Tryz.underlying9
  a9 := Tryz.isAgg9
  z9 := Tryz.sizeOf9
  v9 := Tryz.zeroValue9 }
open Go.RowKit in
/-- strings.trimLeftByte (no doc; what TrimLeft and Trim call at a cutset of one ASCII byte): the leading bytes that are c are cut off. The world is as it was. (LAID: no walk: one application.) -/
theorem Tryz.strings_trimLeftByte (s : ByteArray) (c : UInt8) (w : World) :
    Calls Tryz.prog 148 #[.string s, .int .u8 c.toNat] w fun e w' => e = .returned (.string ⟨(Lib.trimLeftB s.data.toList c).toArray⟩) ∧ w' = w := Any.strings_trimLeftByte Tryz.lays231 s c w
def Tryz.lays232_ren : Go.Shelf.Ren := ⟨fun | 232 => 149 | n => n, fun | 9 => 9 | 5 => 5 | 3 => 3 | 4 => 4 | n => n, fun | n => n⟩
theorem Tryz.lays232 : Go.Proofs.Lays.n232 Tryz.prog Tryz.lays232_ren := {
  mixed := by kernel_rfl
  f232 := Tryz.func149.trans (congrArg some (by kernel_rfl))
  t3 := Tryz.underlying3
  a3 := Tryz.isAgg3
  z3 := Tryz.sizeOf3
  v3 := Tryz.zeroValue3
  t4 := Tryz.underlying4
  a4 := Tryz.isAgg4
  z4 := Tryz.sizeOf4
  v4 := Tryz.zeroValue4
  t5 := Tryz.underlying5
  a5 := Tryz.isAgg5
  z5 := Tryz.sizeOf5
  v5 := Tryz.zeroValue5
  t9 := Tryz.underlying9
  a9 := Tryz.isAgg9
  z9 := Tryz.sizeOf9
  v9 := Tryz.zeroValue9 }
open Go.RowKit in
/-- strings.trimRightByte (no doc; what TrimRight and Trim call at a cutset of one ASCII byte): the trailing bytes that are c are cut off. The world is as it was. ('hs': a string's length is a number that an int holds.) (LAID: no walk: one application.) -/
theorem Tryz.strings_trimRightByte (s : ByteArray) (c : UInt8) (w : World) (hs : s.size ≤ 9223372036854775807) :
    Calls Tryz.prog 149 #[.string s, .int .u8 c.toNat] w fun e w' => e = .returned (.string ⟨(Lib.trimRightB s.data.toList c).toArray⟩) ∧ w' = w := Any.strings_trimRightByte Tryz.lays232 s c w hs
def Tryz.lays160_ren : Go.Shelf.Ren := ⟨fun | 160 => 129 | 232 => 149 | 231 => 148 | 227 => 150 | 234 => 152 | 233 => 151 | 236 => 154 | 235 => 153 | 228 => 159 | 271 => 162 | 151 => 161 | 197 => 160 | 120 => 166 | 152 => 165 | 260 => 164 | 137 => 92 | 119 => 167 | 224 => 144 | 225 => 143 | 217 => 112 | 266 => 130 | n => n, fun | 9 => 9 | 4 => 4 | 3 => 3 | 5 => 5 | 117 => 145 | 116 => 144 | 0 => 0 | 124 => 148 | 21 => 21 | 105 => 152 | 46 => 90 | 119 => 156 | 139 => 159 | 138 => 158 | n => n, fun | 3 => 1 | 4 => 2 | n => n⟩
theorem Tryz.lays160 : Go.Proofs.Lays.n160 Tryz.prog Tryz.lays160_ren := {
  mixed := by kernel_rfl
  f119 := Tryz.func167.trans (congrArg some (by kernel_rfl))
  f120 := Tryz.func166.trans (congrArg some (by kernel_rfl))
  f137 := Tryz.func92.trans (congrArg some (by kernel_rfl))
  f151 := Tryz.func161.trans (congrArg some (by kernel_rfl))
  f152 := Tryz.func165.trans (congrArg some (by kernel_rfl))
  f160 := Tryz.func129.trans (congrArg some (by kernel_rfl))
  f197 := Tryz.func160.trans (congrArg some (by kernel_rfl))
  f217 := Tryz.func112.trans (congrArg some (by kernel_rfl))
  f224 := Tryz.func144.trans (congrArg some (by kernel_rfl))
  f225 := Tryz.func143.trans (congrArg some (by kernel_rfl))
  f227 := Tryz.func150.trans (congrArg some (by kernel_rfl))
  f228 := Tryz.func159.trans (congrArg some (by kernel_rfl))
  f231 := Tryz.func148.trans (congrArg some (by kernel_rfl))
  f232 := Tryz.func149.trans (congrArg some (by kernel_rfl))
  f233 := Tryz.func151.trans (congrArg some (by kernel_rfl))
  f234 := Tryz.func152.trans (congrArg some (by kernel_rfl))
  f235 := Tryz.func153.trans (congrArg some (by kernel_rfl))
  f236 := Tryz.func154.trans (congrArg some (by kernel_rfl))
  f260 := Tryz.func164.trans (congrArg some (by kernel_rfl))
  f266 := Tryz.func130.trans (congrArg some (by kernel_rfl))
  f271 := Tryz.func162.trans (congrArg some (by kernel_rfl))
  t0 := Tryz.underlying0
  a0 := Tryz.isAgg0
  z0 := Tryz.sizeOf0
  v0 := Tryz.zeroValue0
  t3 := Tryz.underlying3
  a3 := Tryz.isAgg3
  z3 := Tryz.sizeOf3
  v3 := Tryz.zeroValue3
  t4 := Tryz.underlying4
  a4 := Tryz.isAgg4
  z4 := Tryz.sizeOf4
  v4 := Tryz.zeroValue4
  t5 := Tryz.underlying5
  a5 := Tryz.isAgg5
  z5 := Tryz.sizeOf5
  v5 := Tryz.zeroValue5
  t9 := Tryz.underlying9
  a9 := Tryz.isAgg9
  z9 := Tryz.sizeOf9
  v9 := Tryz.zeroValue9
  t21 := Tryz.underlying21
  a21 := Tryz.isAgg21
  z21 := Tryz.sizeOf21
  v21 := Tryz.zeroValue21
  t46 := Tryz.underlying90
  a46 := Tryz.isAgg90
  z46 := Tryz.sizeOf90
  v46 := Tryz.zeroValue90
  t105 := Tryz.underlying152
  a105 := Tryz.isAgg152
  z105 := Tryz.sizeOf152
  v105 := Tryz.zeroValue152
  t116 := Tryz.underlying144
  a116 := Tryz.isAgg144
  z116 := Tryz.sizeOf144
  t117 := Tryz.underlying145
  a117 := Tryz.isAgg145
  z117 := Tryz.sizeOf145
  v117 := Tryz.zeroValue145
  t119 := Tryz.underlying156
  a119 := Tryz.isAgg156
  z119 := Tryz.sizeOf156
  t124 := Tryz.underlying148
  a124 := Tryz.isAgg148
  z124 := Tryz.sizeOf148
  v124 := Tryz.zeroValue148
  t138 := Tryz.underlying158
  a138 := Tryz.isAgg158
  z138 := Tryz.sizeOf158
  v138 := Tryz.zeroValue158
  t139 := Tryz.underlying159
  a139 := Tryz.isAgg159
  z139 := Tryz.sizeOf159
  v139 := Tryz.zeroValue159
  g3 := by kernel_rfl
  g4 := by kernel_rfl }
open Go.RowKit in
/-- strings.Trim: "Trim returns a slice of the string s with all leading and trailing Unicode code points contained in cutset removed.": AT A cutset OF ONE ASCII BYTE. THE WORLD BEHIND IT: as it was, or (where s is not empty) with ONE DRAW MORE off the tape: the statement 'return trimLeftByte(trimRightByte(s, c), c)' draws its order of evaluation. (LAID: no walk: one application.) -/
theorem Tryz.strings_Trim_one (s : ByteArray) (c : UInt8) (hc : c.toNat < 128) (w : World) (hs : s.size ≤ 9223372036854775807) :
    Calls Tryz.prog 129 #[.string s, .string ⟨#[c]⟩] w fun e w' => e = .returned (.string ⟨(Lib.trimB s.data.toList c).toArray⟩) ∧ (w' = w ∨ w' = w.drew) := Any.strings_Trim_one Tryz.lays160 s c hc w hs
def Tryz.lays119_ren : Go.Shelf.Ren := ⟨fun | 119 => 167 | n => n, fun | 21 => 21 | 4 => 4 | n => n, fun | n => n⟩
theorem Tryz.lays119 : Go.Proofs.Lays.n119 Tryz.prog Tryz.lays119_ren := {
  mixed := by kernel_rfl
  f119 := Tryz.func167.trans (congrArg some (by kernel_rfl))
  t4 := Tryz.underlying4
  a4 := Tryz.isAgg4
  z4 := Tryz.sizeOf4
  v4 := Tryz.zeroValue4
  t21 := Tryz.underlying21
  a21 := Tryz.isAgg21
  z21 := Tryz.sizeOf21
  v21 := Tryz.zeroValue21 }
/-- utf8.ValidRune: "ValidRune reports whether r can be legally encoded as UTF-8. Code points that are out of range or a surrogate half are illegal.": IT RETURNS 'Lib.validRune r'; the world is as it was. (LAID: no walk: one application.) -/
theorem Tryz.utf8_ValidRune (r : Int) (w : World) :
    Calls Tryz.prog 167 #[.int .i32 r] w fun e w' => e = .returned (.bool (Lib.validRune r)) ∧ w' = w := Any.utf8_ValidRune Tryz.lays119 r w
def Tryz.lays120_ren : Go.Shelf.Ren := ⟨fun | 120 => 166 | n => n, fun | 5 => 5 | 4 => 4 | n => n, fun | n => n⟩
theorem Tryz.lays120 : Go.Proofs.Lays.n120 Tryz.prog Tryz.lays120_ren := {
  mixed := by kernel_rfl
  f120 := Tryz.func166.trans (congrArg some (by kernel_rfl))
  t4 := Tryz.underlying4
  a4 := Tryz.isAgg4
  z4 := Tryz.sizeOf4
  v4 := Tryz.zeroValue4
  t5 := Tryz.underlying5
  a5 := Tryz.isAgg5
  z5 := Tryz.sizeOf5
  v5 := Tryz.zeroValue5 }
/-- utf8.RuneStart: "RuneStart reports whether the byte could be the first byte of an encoded, possibly invalid rune. Second and subsequent bytes always have the top two bits set to 10.": IT RETURNS 'Lib.runeStart b'; the world is as it was. ('h0', 'h1': b is a byte: a caller has it of every byte that it was handed.) (LAID: no walk: one application.) -/
theorem Tryz.utf8_RuneStart (b : Int) (w : World) (h0 : 0 ≤ b) (h1 : b < 256) :
    Calls Tryz.prog 166 #[.int .u8 b] w fun e w' => e = .returned (.bool (Lib.runeStart b)) ∧ w' = w := Any.utf8_RuneStart Tryz.lays120 b w h0 h1
def Tryz.lays128_ren : Go.Shelf.Ren := ⟨fun | 128 => 105 | n => n, fun | 51 => 110 | 3 => 3 | 4 => 4 | 46 => 90 | 5 => 5 | 9 => 9 | n => n, fun | n => n⟩
theorem Tryz.lays128 : Go.Proofs.Lays.n128 Tryz.prog Tryz.lays128_ren := {
  mixed := by kernel_rfl
  f128 := Tryz.func105.trans (congrArg some (by kernel_rfl))
  t3 := Tryz.underlying3
  a3 := Tryz.isAgg3
  z3 := Tryz.sizeOf3
  v3 := Tryz.zeroValue3
  t4 := Tryz.underlying4
  a4 := Tryz.isAgg4
  z4 := Tryz.sizeOf4
  v4 := Tryz.zeroValue4
  t5 := Tryz.underlying5
  a5 := Tryz.isAgg5
  z5 := Tryz.sizeOf5
  v5 := Tryz.zeroValue5
  t9 := Tryz.underlying9
  a9 := Tryz.isAgg9
  z9 := Tryz.sizeOf9
  v9 := Tryz.zeroValue9
  t46 := Tryz.underlying90
  a46 := Tryz.isAgg90
  z46 := Tryz.sizeOf90
  v46 := Tryz.zeroValue90
  t51 := Tryz.underlying110
  a51 := Tryz.isAgg110
  z51 := Tryz.sizeOf110
  v51 := Tryz.zeroValue110 }
/-- bits.Len32: "Len32 returns the minimum number of bits required to represent x; the result is 0 for x == 0.": IT RETURNS 'Lib.bitLen x'; the world is as it was. ('h0', 'h1': x is a uint32.) (LAID: no walk: one application.) -/
theorem Tryz.bits_Len32 (x : Int) (w : World) (h0 : 0 ≤ x) (h1 : x ≤ 4294967295) :
    Calls Tryz.prog 105 #[.int .u32 x] w fun e w' => e = .returned (.int .i64 (Lib.bitLen x.toNat)) ∧ w' = w := Any.bits_Len32 Tryz.lays128 x w h0 h1
def Tryz.lays125_ren : Go.Shelf.Ren := ⟨fun | 125 => 77 | 128 => 105 | 129 => 106 | n => n, fun | 46 => 90 | 3 => 3 | 51 => 110 | 53 => 112 | 4 => 4 | 5 => 5 | 9 => 9 | n => n, fun | n => n⟩
theorem Tryz.lays125 : Go.Proofs.Lays.n125 Tryz.prog Tryz.lays125_ren := {
  mixed := by kernel_rfl
  f125 := Tryz.func77.trans (congrArg some (by kernel_rfl))
  f128 := Tryz.func105.trans (congrArg some (by kernel_rfl))
  f129 := Tryz.func106.trans (congrArg some (by kernel_rfl))
  t3 := Tryz.underlying3
  a3 := Tryz.isAgg3
  z3 := Tryz.sizeOf3
  v3 := Tryz.zeroValue3
  t4 := Tryz.underlying4
  a4 := Tryz.isAgg4
  z4 := Tryz.sizeOf4
  v4 := Tryz.zeroValue4
  t5 := Tryz.underlying5
  a5 := Tryz.isAgg5
  z5 := Tryz.sizeOf5
  v5 := Tryz.zeroValue5
  t9 := Tryz.underlying9
  a9 := Tryz.isAgg9
  z9 := Tryz.sizeOf9
  v9 := Tryz.zeroValue9
  t46 := Tryz.underlying90
  a46 := Tryz.isAgg90
  z46 := Tryz.sizeOf90
  v46 := Tryz.zeroValue90
  t51 := Tryz.underlying110
  a51 := Tryz.isAgg110
  z51 := Tryz.sizeOf110
  v51 := Tryz.zeroValue110
  t53 := Tryz.underlying112
  a53 := Tryz.isAgg112
  z53 := Tryz.sizeOf112
  v53 := Tryz.zeroValue112 }
/-- bits.Len: "Len returns the minimum number of bits required to represent x; the result is 0 for x == 0.": IT RETURNS 'Lib.bitLen x'; the world is as it was. (A uint has 64 bits in the model.) ITS CALLEE bits.Len64 IS MET BY ITS OWN CONTRACT OFF THE SHELF (lay that first). (LAID: no walk: one application.) -/
theorem Tryz.bits_Len (x : Int) (w : World) (h0 : 0 ≤ x) (h1 : x ≤ 18446744073709551615) :
    Calls Tryz.prog 77 #[.int .u64 x] w fun e w' => e = .returned (.int .i64 (Lib.bitLen x.toNat)) ∧ w' = w := Any.bits_Len Tryz.lays125 x w h0 h1
def Tryz.lays137_ren : Go.Shelf.Ren := ⟨fun | 137 => 92 | 217 => 112 | 266 => 130 | n => n, fun | 9 => 9 | 5 => 5 | 3 => 3 | n => n, fun | n => n⟩
theorem Tryz.lays137 : Go.Proofs.Lays.n137 Tryz.prog Tryz.lays137_ren := {
  mixed := by kernel_rfl
  f137 := Tryz.func92.trans (congrArg some (by kernel_rfl))
  f217 := Tryz.func112.trans (congrArg some (by kernel_rfl))
  f266 := Tryz.func130.trans (congrArg some (by kernel_rfl))
  t3 := Tryz.underlying3
  a3 := Tryz.isAgg3
  z3 := Tryz.sizeOf3
  v3 := Tryz.zeroValue3
  t5 := Tryz.underlying5
  a5 := Tryz.isAgg5
  z5 := Tryz.sizeOf5
  v5 := Tryz.zeroValue5
  t9 := Tryz.underlying9
  a9 := Tryz.isAgg9
  z9 := Tryz.sizeOf9
  v9 := Tryz.zeroValue9 }
open Go.RowKit in
/-- strings.IndexByte: "IndexByte returns the index of the first instance of c in s, or -1 if c is not present in s.": IT RETURNS 'Lib.indexByte s c'; the world is as it was. (LAID: no walk: one application.) -/
theorem Tryz.strings_IndexByte (s : ByteArray) (c : Int) (w : World) :
    Calls Tryz.prog 92 #[.string s, .int .u8 c] w fun e w' => e = .returned (.int .i64 (Lib.indexByte s.data.toList c.toNat.toUInt8)) ∧ w' = w := Any.strings_IndexByte Tryz.lays137 s c w
def Tryz.lays129_ren : Go.Shelf.Ren := ⟨fun | 129 => 106 | n => n, fun | 53 => 112 | 3 => 3 | 4 => 4 | 46 => 90 | 5 => 5 | 9 => 9 | n => n, fun | n => n⟩
theorem Tryz.lays129 : Go.Proofs.Lays.n129 Tryz.prog Tryz.lays129_ren := {
  mixed := by kernel_rfl
  f129 := Tryz.func106.trans (congrArg some (by kernel_rfl))
  t3 := Tryz.underlying3
  a3 := Tryz.isAgg3
  z3 := Tryz.sizeOf3
  v3 := Tryz.zeroValue3
  t4 := Tryz.underlying4
  a4 := Tryz.isAgg4
  z4 := Tryz.sizeOf4
  v4 := Tryz.zeroValue4
  t5 := Tryz.underlying5
  a5 := Tryz.isAgg5
  z5 := Tryz.sizeOf5
  v5 := Tryz.zeroValue5
  t9 := Tryz.underlying9
  a9 := Tryz.isAgg9
  z9 := Tryz.sizeOf9
  v9 := Tryz.zeroValue9
  t46 := Tryz.underlying90
  a46 := Tryz.isAgg90
  z46 := Tryz.sizeOf90
  v46 := Tryz.zeroValue90
  t53 := Tryz.underlying112
  a53 := Tryz.isAgg112
  z53 := Tryz.sizeOf112
  v53 := Tryz.zeroValue112 }
/-- bits.Len64: "Len64 returns the minimum number of bits required to represent x; the result is 0 for x == 0.": IT RETURNS 'Lib.bitLen x'; the world is as it was. ('h0', 'h1': x is a uint64.) (LAID: no walk: one application.) -/
theorem Tryz.bits_Len64 (x : Int) (w : World) (h0 : 0 ≤ x) (h1 : x ≤ 18446744073709551615) :
    Calls Tryz.prog 106 #[.int .u64 x] w fun e w' => e = .returned (.int .i64 (Lib.bitLen x.toNat)) ∧ w' = w := Any.bits_Len64 Tryz.lays129 x w h0 h1
def Tryz.lays217_ren : Go.Shelf.Ren := ⟨fun | 217 => 112 | 266 => 130 | n => n, fun | 9 => 9 | 5 => 5 | 3 => 3 | n => n, fun | n => n⟩
theorem Tryz.lays217 : Go.Proofs.Lays.n217 Tryz.prog Tryz.lays217_ren := {
  mixed := by kernel_rfl
  f217 := Tryz.func112.trans (congrArg some (by kernel_rfl))
  f266 := Tryz.func130.trans (congrArg some (by kernel_rfl))
  t3 := Tryz.underlying3
  a3 := Tryz.isAgg3
  z3 := Tryz.sizeOf3
  v3 := Tryz.zeroValue3
  t5 := Tryz.underlying5
  a5 := Tryz.isAgg5
  z5 := Tryz.sizeOf5
  v5 := Tryz.zeroValue5
  t9 := Tryz.underlying9
  a9 := Tryz.isAgg9
  z9 := Tryz.sizeOf9
  v9 := Tryz.zeroValue9 }
open Go.RowKit Go.Lib in
/-- internal/stringslite.IndexByte (what strings.IndexByte calls): IT RETURNS 'Lib.indexByte s c'; the world is as it was. (LAID: no walk: one application.) -/
theorem Tryz.stringslite_IndexByte (s : ByteArray) (c : Int) (w : World) :
    Calls Tryz.prog 112 #[.string s, .int .u8 c] w fun e w' => e = .returned (.int .i64 (Lib.indexByte s.data.toList c.toNat.toUInt8)) ∧ w' = w := Any.stringslite_IndexByte Tryz.lays217 s c w
def Tryz.lays224_ren : Go.Shelf.Ren := ⟨fun | 224 => 144 | n => n, fun | 3 => 3 | n => n, fun | n => n⟩
theorem Tryz.lays224 : Go.Proofs.Lays.n224 Tryz.prog Tryz.lays224_ren := {
  mixed := by kernel_rfl
  f224 := Tryz.func144.trans (congrArg some (by kernel_rfl))
  t3 := Tryz.underlying3
  a3 := Tryz.isAgg3
  z3 := Tryz.sizeOf3
  v3 := Tryz.zeroValue3 }
open Go.RowKit Go.Lib in
/-- internal/bytealg.Cutover: "Cutover reports the number of failures of IndexByte we should tolerate before switching over to Index. n is the number of bytes processed so far.": on amd64: (n + 16) / 8. (LAID: no walk: one application.) -/
theorem Tryz.bytealg_Cutover (n : Int) (h0 : 0 ≤ n) (h1 : n < 4611686018427387904) (w : World) :
    Calls Tryz.prog 144 #[.int .i64 n] w fun e w' => e = .returned (.int .i64 ((n + 16) / 8)) ∧ w' = w := Any.bytealg_Cutover Tryz.lays224 n h0 h1 w
def Tryz.lays314_ren : Go.Shelf.Ren := ⟨fun | 314 => 158 | n => n, fun | 9 => 9 | 51 => 110 | 3 => 3 | 4 => 4 | 5 => 5 | 46 => 90 | n => n, fun | n => n⟩
theorem Tryz.lays314 : Go.Proofs.Lays.n314 Tryz.prog Tryz.lays314_ren := {
  mixed := by kernel_rfl
  f314 := Tryz.func158.trans (congrArg some (by kernel_rfl))
  t3 := Tryz.underlying3
  a3 := Tryz.isAgg3
  z3 := Tryz.sizeOf3
  v3 := Tryz.zeroValue3
  t4 := Tryz.underlying4
  a4 := Tryz.isAgg4
  z4 := Tryz.sizeOf4
  v4 := Tryz.zeroValue4
  t5 := Tryz.underlying5
  a5 := Tryz.isAgg5
  z5 := Tryz.sizeOf5
  v5 := Tryz.zeroValue5
  t9 := Tryz.underlying9
  a9 := Tryz.isAgg9
  z9 := Tryz.sizeOf9
  v9 := Tryz.zeroValue9
  t46 := Tryz.underlying90
  a46 := Tryz.isAgg90
  z46 := Tryz.sizeOf90
  v46 := Tryz.zeroValue90
  t51 := Tryz.underlying110
  a51 := Tryz.isAgg110
  z51 := Tryz.sizeOf110
  v51 := Tryz.zeroValue110 }
open Go.RowKit Go.Lib in
/-- hashStr: "returns the hash and the appropriate multiplicative factor for use in Rabin-Karp algorithm": THE HASH OF ALL OF sep, AND 16777619 ^ len(sep), both in uint32. (LAID: no walk: one application.) -/
theorem Tryz.bytealg_hashStr (sep : ByteArray) (hs : sep.size < 4294967281) (w : World) :
    Calls Tryz.prog 158 #[.string sep] w fun e w' => e = .returned (.tuple #[.int .u32 (RK.H sep.data.toList % 4294967296), .int .u32 (16777619 ^ sep.size % 4294967296)]) ∧ w' = w := Any.bytealg_hashStr Tryz.lays314 sep hs w
def Tryz.lays267_ren : Go.Shelf.Ren := ⟨fun | 267 => 145 | 314 => 158 | n => n, fun | 9 => 9 | 3 => 3 | 146 => 150 | 51 => 110 | 4 => 4 | 5 => 5 | 46 => 90 | n => n, fun | n => n⟩
theorem Tryz.lays267 : Go.Proofs.Lays.n267 Tryz.prog Tryz.lays267_ren := {
  mixed := by kernel_rfl
  f267 := Tryz.func145.trans (congrArg some (by kernel_rfl))
  f314 := Tryz.func158.trans (congrArg some (by kernel_rfl))
  t3 := Tryz.underlying3
  a3 := Tryz.isAgg3
  z3 := Tryz.sizeOf3
  v3 := Tryz.zeroValue3
  t4 := Tryz.underlying4
  a4 := Tryz.isAgg4
  z4 := Tryz.sizeOf4
  v4 := Tryz.zeroValue4
  t5 := Tryz.underlying5
  a5 := Tryz.isAgg5
  z5 := Tryz.sizeOf5
  v5 := Tryz.zeroValue5
  t9 := Tryz.underlying9
  a9 := Tryz.isAgg9
  z9 := Tryz.sizeOf9
  v9 := Tryz.zeroValue9
  t46 := Tryz.underlying90
  a46 := Tryz.isAgg90
  z46 := Tryz.sizeOf90
  v46 := Tryz.zeroValue90
  t51 := Tryz.underlying110
  a51 := Tryz.isAgg110
  z51 := Tryz.sizeOf110
  v51 := Tryz.zeroValue110
  t146 := Tryz.underlying150
  a146 := Tryz.isAgg150
  z146 := Tryz.sizeOf150
  v146 := Tryz.zeroValue150 }
open Go.RowKit Go.Lib in
theorem Tryz.bytealg_IndexRabinKarp (s sep : ByteArray) (h1 : 1 ≤ sep.size) (h2 : sep.size ≤ s.size) (hs : s.size < 4294967281) (w : World) :
    Calls Tryz.prog 145 #[.string s, .string sep] w fun e w' => e = .returned (.int .i64 (Lib.index s.data.toList sep.data.toList)) ∧ w' = w := Any.bytealg_IndexRabinKarp Tryz.lays267 s sep h1 h2 hs w
def Tryz.lays219_ren : Go.Shelf.Ren := ⟨fun | 219 => 126 | 217 => 112 | 225 => 143 | 224 => 144 | 267 => 145 | 266 => 130 | 314 => 158 | n => n, fun | 9 => 9 | 3 => 3 | 4 => 4 | 5 => 5 | 46 => 90 | 146 => 150 | 51 => 110 | n => n, fun | 1 => 0 | n => n⟩
theorem Tryz.lays219 : Go.Proofs.Lays.n219 Tryz.prog Tryz.lays219_ren := {
  mixed := by kernel_rfl
  f217 := Tryz.func112.trans (congrArg some (by kernel_rfl))
  f219 := Tryz.func126.trans (congrArg some (by kernel_rfl))
  f224 := Tryz.func144.trans (congrArg some (by kernel_rfl))
  f225 := Tryz.func143.trans (congrArg some (by kernel_rfl))
  f266 := Tryz.func130.trans (congrArg some (by kernel_rfl))
  f267 := Tryz.func145.trans (congrArg some (by kernel_rfl))
  f314 := Tryz.func158.trans (congrArg some (by kernel_rfl))
  t3 := Tryz.underlying3
  a3 := Tryz.isAgg3
  z3 := Tryz.sizeOf3
  v3 := Tryz.zeroValue3
  t4 := Tryz.underlying4
  a4 := Tryz.isAgg4
  z4 := Tryz.sizeOf4
  v4 := Tryz.zeroValue4
  t5 := Tryz.underlying5
  a5 := Tryz.isAgg5
  z5 := Tryz.sizeOf5
  v5 := Tryz.zeroValue5
  t9 := Tryz.underlying9
  a9 := Tryz.isAgg9
  z9 := Tryz.sizeOf9
  v9 := Tryz.zeroValue9
  t46 := Tryz.underlying90
  a46 := Tryz.isAgg90
  z46 := Tryz.sizeOf90
  v46 := Tryz.zeroValue90
  t51 := Tryz.underlying110
  a51 := Tryz.isAgg110
  z51 := Tryz.sizeOf110
  v51 := Tryz.zeroValue110
  t146 := Tryz.underlying150
  a146 := Tryz.isAgg150
  z146 := Tryz.sizeOf150
  v146 := Tryz.zeroValue150
  g1 := by kernel_rfl }
open Go.RowKit Go.Lib in
/-- internal/stringslite.Index (what strings.Index calls) AT A substr OF ONE BYTE c: IT RETURNS 'Lib.indexByte s c'; the world is as it was. (LAID: no walk: one application.) -/
theorem Tryz.stringslite_Index_one (s : ByteArray) (c : UInt8) (w : World) :
    Calls Tryz.prog 126 #[.string s, .string ⟨#[c]⟩] w fun e w' => e = .returned (.int .i64 (Lib.indexByte s.data.toList c)) ∧ w' = w := Any.stringslite_Index_one Tryz.lays219 s c w
open Go.RowKit Go.Lib in
/-- internal/stringslite.Index (what strings.Index calls) AT A substr OF WHATEVER LENGTH: IT RETURNS 'Lib.index s substr'; the world is as it was. 'm': what internal/bytealg.MaxLen holds: whatever. (LAID: no walk: one application.) -/
theorem Tryz.stringslite_Index (s sub : ByteArray) (m : Int) (w : World) (hs : s.size < 4294967281) (hm : w.cell? ⟨0, 0, none⟩ = some (.int .i64 m)) :
    Calls Tryz.prog 126 #[.string s, .string sub] w fun e w' => e = .returned (.int .i64 (Lib.index s.data.toList sub.data.toList)) ∧ w' = w := Any.stringslite_Index Tryz.lays219 s sub m w hs hm
def Tryz.lays143_ren : Go.Shelf.Ren := ⟨fun | 143 => 147 | 219 => 126 | 217 => 112 | 225 => 143 | 224 => 144 | 267 => 145 | 266 => 130 | 314 => 158 | n => n, fun | 9 => 9 | 3 => 3 | 4 => 4 | 5 => 5 | 46 => 90 | 146 => 150 | 51 => 110 | n => n, fun | 1 => 0 | n => n⟩
theorem Tryz.lays143 : Go.Proofs.Lays.n143 Tryz.prog Tryz.lays143_ren := {
  mixed := by kernel_rfl
  f143 := Tryz.func147.trans (congrArg some (by kernel_rfl))
  f217 := Tryz.func112.trans (congrArg some (by kernel_rfl))
  f219 := Tryz.func126.trans (congrArg some (by kernel_rfl))
  f224 := Tryz.func144.trans (congrArg some (by kernel_rfl))
  f225 := Tryz.func143.trans (congrArg some (by kernel_rfl))
  f266 := Tryz.func130.trans (congrArg some (by kernel_rfl))
  f267 := Tryz.func145.trans (congrArg some (by kernel_rfl))
  f314 := Tryz.func158.trans (congrArg some (by kernel_rfl))
  t3 := Tryz.underlying3
  a3 := Tryz.isAgg3
  z3 := Tryz.sizeOf3
  v3 := Tryz.zeroValue3
  t4 := Tryz.underlying4
  a4 := Tryz.isAgg4
  z4 := Tryz.sizeOf4
  v4 := Tryz.zeroValue4
  t5 := Tryz.underlying5
  a5 := Tryz.isAgg5
  z5 := Tryz.sizeOf5
  v5 := Tryz.zeroValue5
  t9 := Tryz.underlying9
  a9 := Tryz.isAgg9
  z9 := Tryz.sizeOf9
  v9 := Tryz.zeroValue9
  t46 := Tryz.underlying90
  a46 := Tryz.isAgg90
  z46 := Tryz.sizeOf90
  v46 := Tryz.zeroValue90
  t51 := Tryz.underlying110
  a51 := Tryz.isAgg110
  z51 := Tryz.sizeOf110
  v51 := Tryz.zeroValue110
  t146 := Tryz.underlying150
  a146 := Tryz.isAgg150
  z146 := Tryz.sizeOf150
  v146 := Tryz.zeroValue150
  g1 := by kernel_rfl }
open Go.RowKit Go.Lib in
/-- strings.Index: "Index returns the index of the first instance of substr in s, or -1 if substr is not present in s.": AT A substr OF ONE BYTE c: IT RETURNS 'Lib.indexByte s c'; the world is as it was. (LAID: no walk: one application.) -/
theorem Tryz.strings_Index_one (s : ByteArray) (c : UInt8) (w : World) :
    Calls Tryz.prog 147 #[.string s, .string ⟨#[c]⟩] w fun e w' => e = .returned (.int .i64 (Lib.indexByte s.data.toList c)) ∧ w' = w := Any.strings_Index_one Tryz.lays143 s c w
open Go.RowKit Go.Lib in
/-- strings.Index: "Index returns the index of the first instance of substr in s, or -1 if substr is not present in s.": IT RETURNS 'Lib.index s substr'; the world is as it was. (LAID: no walk: one application.) -/
theorem Tryz.strings_Index (s sub : ByteArray) (m : Int) (w : World) (hs : s.size < 4294967281) (hm : w.cell? ⟨0, 0, none⟩ = some (.int .i64 m)) :
    Calls Tryz.prog 147 #[.string s, .string sub] w fun e w' => e = .returned (.int .i64 (Lib.index s.data.toList sub.data.toList)) ∧ w' = w := Any.strings_Index Tryz.lays143 s sub m w hs hm
def Tryz.lays144_ren : Go.Shelf.Ren := ⟨fun | 144 => 128 | 143 => 147 | 219 => 126 | 217 => 112 | 225 => 143 | 224 => 144 | 267 => 145 | 266 => 130 | 314 => 158 | n => n, fun | 9 => 9 | 4 => 4 | 3 => 3 | 5 => 5 | 46 => 90 | 146 => 150 | 51 => 110 | n => n, fun | 1 => 0 | n => n⟩
theorem Tryz.lays144 : Go.Proofs.Lays.n144 Tryz.prog Tryz.lays144_ren := {
  mixed := by kernel_rfl
  f143 := Tryz.func147.trans (congrArg some (by kernel_rfl))
  f144 := Tryz.func128.trans (congrArg some (by kernel_rfl))
  f217 := Tryz.func112.trans (congrArg some (by kernel_rfl))
  f219 := Tryz.func126.trans (congrArg some (by kernel_rfl))
  f224 := Tryz.func144.trans (congrArg some (by kernel_rfl))
  f225 := Tryz.func143.trans (congrArg some (by kernel_rfl))
  f266 := Tryz.func130.trans (congrArg some (by kernel_rfl))
  f267 := Tryz.func145.trans (congrArg some (by kernel_rfl))
  f314 := Tryz.func158.trans (congrArg some (by kernel_rfl))
  t3 := Tryz.underlying3
  a3 := Tryz.isAgg3
  z3 := Tryz.sizeOf3
  v3 := Tryz.zeroValue3
  t4 := Tryz.underlying4
  a4 := Tryz.isAgg4
  z4 := Tryz.sizeOf4
  v4 := Tryz.zeroValue4
  t5 := Tryz.underlying5
  a5 := Tryz.isAgg5
  z5 := Tryz.sizeOf5
  v5 := Tryz.zeroValue5
  t9 := Tryz.underlying9
  a9 := Tryz.isAgg9
  z9 := Tryz.sizeOf9
  v9 := Tryz.zeroValue9
  t46 := Tryz.underlying90
  a46 := Tryz.isAgg90
  z46 := Tryz.sizeOf90
  v46 := Tryz.zeroValue90
  t51 := Tryz.underlying110
  a51 := Tryz.isAgg110
  z51 := Tryz.sizeOf110
  v51 := Tryz.zeroValue110
  t146 := Tryz.underlying150
  a146 := Tryz.isAgg150
  z146 := Tryz.sizeOf150
  v146 := Tryz.zeroValue150
  g1 := by kernel_rfl }
open Go.RowKit Go.Lib in
/-- strings.Contains: "Contains reports whether substr is within s.": AT A substr OF ONE BYTE c: IT RETURNS 'decide (0 ≤ Lib.indexByte s c)'; the world is as it was. (LAID: no walk: one application.) -/
theorem Tryz.strings_Contains_one (s : ByteArray) (c : UInt8) (w : World) :
    Calls Tryz.prog 128 #[.string s, .string ⟨#[c]⟩] w fun e w' => e = .returned (.bool (decide (0 ≤ Lib.indexByte s.data.toList c))) ∧ w' = w := Any.strings_Contains_one Tryz.lays144 s c w
open Go.RowKit Go.Lib in
/-- strings.Contains: "Contains reports whether substr is within s.": IT RETURNS 'Lib.contains s substr'; the world is as it was. (LAID: no walk: one application.) -/
theorem Tryz.strings_Contains (s sub : ByteArray) (m : Int) (w : World) (hs : s.size < 4294967281) (hm : w.cell? ⟨0, 0, none⟩ = some (.int .i64 m)) :
    Calls Tryz.prog 128 #[.string s, .string sub] w fun e w' => e = .returned (.bool (Lib.contains s.data.toList sub.data.toList)) ∧ w' = w := Any.strings_Contains Tryz.lays144 s sub m w hs hm
def Tryz.lays220_ren : Go.Shelf.Ren := ⟨fun | 220 => 110 | 219 => 126 | 217 => 112 | 225 => 143 | 224 => 144 | 267 => 145 | 266 => 130 | 314 => 158 | n => n, fun | 9 => 9 | 4 => 4 | 3 => 3 | 5 => 5 | 46 => 90 | 146 => 150 | 51 => 110 | n => n, fun | 1 => 0 | n => n⟩
theorem Tryz.lays220 : Go.Proofs.Lays.n220 Tryz.prog Tryz.lays220_ren := {
  mixed := by kernel_rfl
  f217 := Tryz.func112.trans (congrArg some (by kernel_rfl))
  f219 := Tryz.func126.trans (congrArg some (by kernel_rfl))
  f220 := Tryz.func110.trans (congrArg some (by kernel_rfl))
  f224 := Tryz.func144.trans (congrArg some (by kernel_rfl))
  f225 := Tryz.func143.trans (congrArg some (by kernel_rfl))
  f266 := Tryz.func130.trans (congrArg some (by kernel_rfl))
  f267 := Tryz.func145.trans (congrArg some (by kernel_rfl))
  f314 := Tryz.func158.trans (congrArg some (by kernel_rfl))
  t3 := Tryz.underlying3
  a3 := Tryz.isAgg3
  z3 := Tryz.sizeOf3
  v3 := Tryz.zeroValue3
  t4 := Tryz.underlying4
  a4 := Tryz.isAgg4
  z4 := Tryz.sizeOf4
  v4 := Tryz.zeroValue4
  t5 := Tryz.underlying5
  a5 := Tryz.isAgg5
  z5 := Tryz.sizeOf5
  v5 := Tryz.zeroValue5
  t9 := Tryz.underlying9
  a9 := Tryz.isAgg9
  z9 := Tryz.sizeOf9
  v9 := Tryz.zeroValue9
  t46 := Tryz.underlying90
  a46 := Tryz.isAgg90
  z46 := Tryz.sizeOf90
  v46 := Tryz.zeroValue90
  t51 := Tryz.underlying110
  a51 := Tryz.isAgg110
  z51 := Tryz.sizeOf110
  v51 := Tryz.zeroValue110
  t146 := Tryz.underlying150
  a146 := Tryz.isAgg150
  z146 := Tryz.sizeOf150
  v146 := Tryz.zeroValue150
  g1 := by kernel_rfl }
open Go.RowKit Go.Lib in
/-- internal/stringslite.Cut (what strings.Cut calls): IT RETURNS 'Lib.cut s sep'; the world is as it was but for the count of draws. (LAID: no walk: one application.) -/
theorem Tryz.stringslite_Cut (s sep : ByteArray) (m : Int) (w : World) (hs : s.size < 4294967281) (hm : w.cell? ⟨0, 0, none⟩ = some (.int .i64 m)) :
    Calls Tryz.prog 110 #[.string s, .string sep] w fun e w' => e = .returned (.tuple #[.string ⟨(Lib.cut s.data.toList sep.data.toList).1.toArray⟩, .string ⟨(Lib.cut s.data.toList sep.data.toList).2.1.toArray⟩, .bool (Lib.cut s.data.toList sep.data.toList).2.2]) ∧ ∃ n, w' = w.drewN n := Any.stringslite_Cut Tryz.lays220 s sep m w hs hm
def Tryz.lays145_ren : Go.Shelf.Ren := ⟨fun | 145 => 87 | 220 => 110 | 219 => 126 | 217 => 112 | 225 => 143 | 224 => 144 | 267 => 145 | 266 => 130 | 314 => 158 | n => n, fun | 9 => 9 | 4 => 4 | 59 => 84 | 3 => 3 | 5 => 5 | 46 => 90 | 146 => 150 | 51 => 110 | n => n, fun | 1 => 0 | n => n⟩
theorem Tryz.lays145 : Go.Proofs.Lays.n145 Tryz.prog Tryz.lays145_ren := {
  mixed := by kernel_rfl
  f145 := Tryz.func87.trans (congrArg some (by kernel_rfl))
  f217 := Tryz.func112.trans (congrArg some (by kernel_rfl))
  f219 := Tryz.func126.trans (congrArg some (by kernel_rfl))
  f220 := Tryz.func110.trans (congrArg some (by kernel_rfl))
  f224 := Tryz.func144.trans (congrArg some (by kernel_rfl))
  f225 := Tryz.func143.trans (congrArg some (by kernel_rfl))
  f266 := Tryz.func130.trans (congrArg some (by kernel_rfl))
  f267 := Tryz.func145.trans (congrArg some (by kernel_rfl))
  f314 := Tryz.func158.trans (congrArg some (by kernel_rfl))
  t3 := Tryz.underlying3
  a3 := Tryz.isAgg3
  z3 := Tryz.sizeOf3
  v3 := Tryz.zeroValue3
  t4 := Tryz.underlying4
  a4 := Tryz.isAgg4
  z4 := Tryz.sizeOf4
  v4 := Tryz.zeroValue4
  t5 := Tryz.underlying5
  a5 := Tryz.isAgg5
  z5 := Tryz.sizeOf5
  v5 := Tryz.zeroValue5
  t9 := Tryz.underlying9
  a9 := Tryz.isAgg9
  z9 := Tryz.sizeOf9
  v9 := Tryz.zeroValue9
  t46 := Tryz.underlying90
  a46 := Tryz.isAgg90
  z46 := Tryz.sizeOf90
  v46 := Tryz.zeroValue90
  t51 := Tryz.underlying110
  a51 := Tryz.isAgg110
  z51 := Tryz.sizeOf110
  v51 := Tryz.zeroValue110
  t59 := Tryz.underlying84
  a59 := Tryz.isAgg84
  z59 := Tryz.sizeOf84
  v59 := Tryz.zeroValue84
  t146 := Tryz.underlying150
  a146 := Tryz.isAgg150
  z146 := Tryz.sizeOf150
  v146 := Tryz.zeroValue150
  g1 := by kernel_rfl }
open Go.RowKit Go.Lib in
/-- strings.Cut: "Cut slices s around the first instance of sep, returning the text before and after sep. The found result reports whether sep appears in s. If sep does not appear in s, cut returns s, "", false.": IT RETURNS 'Lib.cut s sep'; the world is as it was but for the count of draws. (LAID: no walk: one application.) -/
theorem Tryz.strings_Cut (s sep : ByteArray) (m : Int) (w : World) (hs : s.size < 4294967281) (hm : w.cell? ⟨0, 0, none⟩ = some (.int .i64 m)) :
    Calls Tryz.prog 87 #[.string s, .string sep] w fun e w' => e = .returned (.tuple #[.string ⟨(Lib.cut s.data.toList sep.data.toList).1.toArray⟩, .string ⟨(Lib.cut s.data.toList sep.data.toList).2.1.toArray⟩, .bool (Lib.cut s.data.toList sep.data.toList).2.2]) ∧ ∃ n, w' = w.drewN n := Any.strings_Cut Tryz.lays145 s sep m w hs hm
def Tryz.laysM219_ren : Go.Shelf.Ren := ⟨fun | 219 => 126 | 217 => 112 | 225 => 143 | 224 => 144 | 267 => 145 | 266 => 130 | 314 => 158 | n => n, fun | 9 => 9 | 3 => 3 | 4 => 4 | 5 => 5 | 46 => 90 | 146 => 150 | 51 => 110 | n => n, fun | 1 => 0 | n => n⟩
theorem Tryz.laysM219 : Go.Proofs.LaysM.n219 Tryz.prog Tryz.laysM219_ren := {
  mixed := by kernel_rfl
  f217 := Tryz.func112.trans (congrArg some (by kernel_rfl))
  f219 := Tryz.func126.trans (congrArg some (by kernel_rfl))
  f224 := Tryz.func144.trans (congrArg some (by kernel_rfl))
  f225 := Tryz.func143.trans (congrArg some (by kernel_rfl))
  f266 := Tryz.func130.trans (congrArg some (by kernel_rfl))
  f267 := Tryz.func145.trans (congrArg some (by kernel_rfl))
  f314 := Tryz.func158.trans (congrArg some (by kernel_rfl))
  t3 := Tryz.underlying3
  a3 := Tryz.isAgg3
  z3 := Tryz.sizeOf3
  v3 := Tryz.zeroValue3
  t4 := Tryz.underlying4
  a4 := Tryz.isAgg4
  z4 := Tryz.sizeOf4
  v4 := Tryz.zeroValue4
  t5 := Tryz.underlying5
  a5 := Tryz.isAgg5
  z5 := Tryz.sizeOf5
  v5 := Tryz.zeroValue5
  t9 := Tryz.underlying9
  a9 := Tryz.isAgg9
  z9 := Tryz.sizeOf9
  v9 := Tryz.zeroValue9
  t46 := Tryz.underlying90
  a46 := Tryz.isAgg90
  z46 := Tryz.sizeOf90
  v46 := Tryz.zeroValue90
  t51 := Tryz.underlying110
  a51 := Tryz.isAgg110
  z51 := Tryz.sizeOf110
  v51 := Tryz.zeroValue110
  t146 := Tryz.underlying150
  a146 := Tryz.isAgg150
  z146 := Tryz.sizeOf150
  v146 := Tryz.zeroValue150
  g1 := by kernel_rfl
  i3 := by kernel_rfl
  i4 := by kernel_rfl
  i5 := by kernel_rfl
  i9 := by kernel_rfl
  i46 := by kernel_rfl
  i51 := by kernel_rfl
  i146 := by kernel_rfl
  m1 := by kernel_rfl
  s1_3 := fun w h => Go.Proofs.cell_of_shapedOpen_int (zero := #[.int .i64 0]) (t := 3) h (of_decide_eq_true (by kernel_rfl)) (by kernel_rfl) rfl (by kernel_rfl) (by kernel_rfl) Tryz.underlying3 }
open Go.RowKit Go.Lib in
theorem Tryz.stringslite_Index_shaped (s sub : ByteArray) (w : World) (h : w.ShapedOpen Tryz.prog) (hs : s.size < 4294967281) :
    Calls Tryz.prog 126 #[.string s, .string sub] w fun e w' => e = .returned (.int .i64 (Lib.index s.data.toList sub.data.toList)) ∧ w' = w := Any.stringslite_Index_shaped Tryz.laysM219 s sub w h hs
def Tryz.laysM143_ren : Go.Shelf.Ren := ⟨fun | 143 => 147 | 219 => 126 | 217 => 112 | 225 => 143 | 224 => 144 | 267 => 145 | 266 => 130 | 314 => 158 | n => n, fun | 9 => 9 | 3 => 3 | 4 => 4 | 5 => 5 | 46 => 90 | 146 => 150 | 51 => 110 | n => n, fun | 1 => 0 | n => n⟩
theorem Tryz.laysM143 : Go.Proofs.LaysM.n143 Tryz.prog Tryz.laysM143_ren := {
  mixed := by kernel_rfl
  f143 := Tryz.func147.trans (congrArg some (by kernel_rfl))
  f217 := Tryz.func112.trans (congrArg some (by kernel_rfl))
  f219 := Tryz.func126.trans (congrArg some (by kernel_rfl))
  f224 := Tryz.func144.trans (congrArg some (by kernel_rfl))
  f225 := Tryz.func143.trans (congrArg some (by kernel_rfl))
  f266 := Tryz.func130.trans (congrArg some (by kernel_rfl))
  f267 := Tryz.func145.trans (congrArg some (by kernel_rfl))
  f314 := Tryz.func158.trans (congrArg some (by kernel_rfl))
  t3 := Tryz.underlying3
  a3 := Tryz.isAgg3
  z3 := Tryz.sizeOf3
  v3 := Tryz.zeroValue3
  t4 := Tryz.underlying4
  a4 := Tryz.isAgg4
  z4 := Tryz.sizeOf4
  v4 := Tryz.zeroValue4
  t5 := Tryz.underlying5
  a5 := Tryz.isAgg5
  z5 := Tryz.sizeOf5
  v5 := Tryz.zeroValue5
  t9 := Tryz.underlying9
  a9 := Tryz.isAgg9
  z9 := Tryz.sizeOf9
  v9 := Tryz.zeroValue9
  t46 := Tryz.underlying90
  a46 := Tryz.isAgg90
  z46 := Tryz.sizeOf90
  v46 := Tryz.zeroValue90
  t51 := Tryz.underlying110
  a51 := Tryz.isAgg110
  z51 := Tryz.sizeOf110
  v51 := Tryz.zeroValue110
  t146 := Tryz.underlying150
  a146 := Tryz.isAgg150
  z146 := Tryz.sizeOf150
  v146 := Tryz.zeroValue150
  g1 := by kernel_rfl
  i3 := by kernel_rfl
  i4 := by kernel_rfl
  i5 := by kernel_rfl
  i9 := by kernel_rfl
  i46 := by kernel_rfl
  i51 := by kernel_rfl
  i146 := by kernel_rfl
  m1 := by kernel_rfl
  s1_3 := fun w h => Go.Proofs.cell_of_shapedOpen_int (zero := #[.int .i64 0]) (t := 3) h (of_decide_eq_true (by kernel_rfl)) (by kernel_rfl) rfl (by kernel_rfl) (by kernel_rfl) Tryz.underlying3 }
open Go.RowKit Go.Lib in
theorem Tryz.strings_Index_shaped (s sub : ByteArray) (w : World) (h : w.ShapedOpen Tryz.prog) (hs : s.size < 4294967281) :
    Calls Tryz.prog 147 #[.string s, .string sub] w fun e w' => e = .returned (.int .i64 (Lib.index s.data.toList sub.data.toList)) ∧ w' = w := Any.strings_Index_shaped Tryz.laysM143 s sub w h hs
def Tryz.laysM144_ren : Go.Shelf.Ren := ⟨fun | 144 => 128 | 143 => 147 | 219 => 126 | 217 => 112 | 225 => 143 | 224 => 144 | 267 => 145 | 266 => 130 | 314 => 158 | n => n, fun | 9 => 9 | 4 => 4 | 3 => 3 | 5 => 5 | 46 => 90 | 146 => 150 | 51 => 110 | n => n, fun | 1 => 0 | n => n⟩
theorem Tryz.laysM144 : Go.Proofs.LaysM.n144 Tryz.prog Tryz.laysM144_ren := {
  mixed := by kernel_rfl
  f143 := Tryz.func147.trans (congrArg some (by kernel_rfl))
  f144 := Tryz.func128.trans (congrArg some (by kernel_rfl))
  f217 := Tryz.func112.trans (congrArg some (by kernel_rfl))
  f219 := Tryz.func126.trans (congrArg some (by kernel_rfl))
  f224 := Tryz.func144.trans (congrArg some (by kernel_rfl))
  f225 := Tryz.func143.trans (congrArg some (by kernel_rfl))
  f266 := Tryz.func130.trans (congrArg some (by kernel_rfl))
  f267 := Tryz.func145.trans (congrArg some (by kernel_rfl))
  f314 := Tryz.func158.trans (congrArg some (by kernel_rfl))
  t3 := Tryz.underlying3
  a3 := Tryz.isAgg3
  z3 := Tryz.sizeOf3
  v3 := Tryz.zeroValue3
  t4 := Tryz.underlying4
  a4 := Tryz.isAgg4
  z4 := Tryz.sizeOf4
  v4 := Tryz.zeroValue4
  t5 := Tryz.underlying5
  a5 := Tryz.isAgg5
  z5 := Tryz.sizeOf5
  v5 := Tryz.zeroValue5
  t9 := Tryz.underlying9
  a9 := Tryz.isAgg9
  z9 := Tryz.sizeOf9
  v9 := Tryz.zeroValue9
  t46 := Tryz.underlying90
  a46 := Tryz.isAgg90
  z46 := Tryz.sizeOf90
  v46 := Tryz.zeroValue90
  t51 := Tryz.underlying110
  a51 := Tryz.isAgg110
  z51 := Tryz.sizeOf110
  v51 := Tryz.zeroValue110
  t146 := Tryz.underlying150
  a146 := Tryz.isAgg150
  z146 := Tryz.sizeOf150
  v146 := Tryz.zeroValue150
  g1 := by kernel_rfl
  i3 := by kernel_rfl
  i4 := by kernel_rfl
  i5 := by kernel_rfl
  i9 := by kernel_rfl
  i46 := by kernel_rfl
  i51 := by kernel_rfl
  i146 := by kernel_rfl
  m1 := by kernel_rfl
  s1_3 := fun w h => Go.Proofs.cell_of_shapedOpen_int (zero := #[.int .i64 0]) (t := 3) h (of_decide_eq_true (by kernel_rfl)) (by kernel_rfl) rfl (by kernel_rfl) (by kernel_rfl) Tryz.underlying3 }
open Go.RowKit Go.Lib in
theorem Tryz.strings_Contains_shaped (s sub : ByteArray) (w : World) (h : w.ShapedOpen Tryz.prog) (hs : s.size < 4294967281) :
    Calls Tryz.prog 128 #[.string s, .string sub] w fun e w' => e = .returned (.bool (Lib.contains s.data.toList sub.data.toList)) ∧ w' = w := Any.strings_Contains_shaped Tryz.laysM144 s sub w h hs
def Tryz.laysM220_ren : Go.Shelf.Ren := ⟨fun | 220 => 110 | 219 => 126 | 217 => 112 | 225 => 143 | 224 => 144 | 267 => 145 | 266 => 130 | 314 => 158 | n => n, fun | 9 => 9 | 4 => 4 | 3 => 3 | 5 => 5 | 46 => 90 | 146 => 150 | 51 => 110 | n => n, fun | 1 => 0 | n => n⟩
theorem Tryz.laysM220 : Go.Proofs.LaysM.n220 Tryz.prog Tryz.laysM220_ren := {
  mixed := by kernel_rfl
  f217 := Tryz.func112.trans (congrArg some (by kernel_rfl))
  f219 := Tryz.func126.trans (congrArg some (by kernel_rfl))
  f220 := Tryz.func110.trans (congrArg some (by kernel_rfl))
  f224 := Tryz.func144.trans (congrArg some (by kernel_rfl))
  f225 := Tryz.func143.trans (congrArg some (by kernel_rfl))
  f266 := Tryz.func130.trans (congrArg some (by kernel_rfl))
  f267 := Tryz.func145.trans (congrArg some (by kernel_rfl))
  f314 := Tryz.func158.trans (congrArg some (by kernel_rfl))
  t3 := Tryz.underlying3
  a3 := Tryz.isAgg3
  z3 := Tryz.sizeOf3
  v3 := Tryz.zeroValue3
  t4 := Tryz.underlying4
  a4 := Tryz.isAgg4
  z4 := Tryz.sizeOf4
  v4 := Tryz.zeroValue4
  t5 := Tryz.underlying5
  a5 := Tryz.isAgg5
  z5 := Tryz.sizeOf5
  v5 := Tryz.zeroValue5
  t9 := Tryz.underlying9
  a9 := Tryz.isAgg9
  z9 := Tryz.sizeOf9
  v9 := Tryz.zeroValue9
  t46 := Tryz.underlying90
  a46 := Tryz.isAgg90
  z46 := Tryz.sizeOf90
  v46 := Tryz.zeroValue90
  t51 := Tryz.underlying110
  a51 := Tryz.isAgg110
  z51 := Tryz.sizeOf110
  v51 := Tryz.zeroValue110
  t146 := Tryz.underlying150
  a146 := Tryz.isAgg150
  z146 := Tryz.sizeOf150
  v146 := Tryz.zeroValue150
  g1 := by kernel_rfl
  i3 := by kernel_rfl
  i4 := by kernel_rfl
  i5 := by kernel_rfl
  i9 := by kernel_rfl
  i46 := by kernel_rfl
  i51 := by kernel_rfl
  i146 := by kernel_rfl
  m1 := by kernel_rfl
  s1_3 := fun w h => Go.Proofs.cell_of_shapedOpen_int (zero := #[.int .i64 0]) (t := 3) h (of_decide_eq_true (by kernel_rfl)) (by kernel_rfl) rfl (by kernel_rfl) (by kernel_rfl) Tryz.underlying3 }
open Go.RowKit Go.Lib in
theorem Tryz.stringslite_Cut_shaped (s sep : ByteArray) (w : World) (h : w.ShapedOpen Tryz.prog) (hs : s.size < 4294967281) :
    Calls Tryz.prog 110 #[.string s, .string sep] w fun e w' => e = .returned (.tuple #[.string ⟨(Lib.cut s.data.toList sep.data.toList).1.toArray⟩, .string ⟨(Lib.cut s.data.toList sep.data.toList).2.1.toArray⟩, .bool (Lib.cut s.data.toList sep.data.toList).2.2]) ∧ ∃ n, w' = w.drewN n := Any.stringslite_Cut_shaped Tryz.laysM220 s sep w h hs
def Tryz.laysM145_ren : Go.Shelf.Ren := ⟨fun | 145 => 87 | 220 => 110 | 219 => 126 | 217 => 112 | 225 => 143 | 224 => 144 | 267 => 145 | 266 => 130 | 314 => 158 | n => n, fun | 9 => 9 | 4 => 4 | 59 => 84 | 3 => 3 | 5 => 5 | 46 => 90 | 146 => 150 | 51 => 110 | n => n, fun | 1 => 0 | n => n⟩
theorem Tryz.laysM145 : Go.Proofs.LaysM.n145 Tryz.prog Tryz.laysM145_ren := {
  mixed := by kernel_rfl
  f145 := Tryz.func87.trans (congrArg some (by kernel_rfl))
  f217 := Tryz.func112.trans (congrArg some (by kernel_rfl))
  f219 := Tryz.func126.trans (congrArg some (by kernel_rfl))
  f220 := Tryz.func110.trans (congrArg some (by kernel_rfl))
  f224 := Tryz.func144.trans (congrArg some (by kernel_rfl))
  f225 := Tryz.func143.trans (congrArg some (by kernel_rfl))
  f266 := Tryz.func130.trans (congrArg some (by kernel_rfl))
  f267 := Tryz.func145.trans (congrArg some (by kernel_rfl))
  f314 := Tryz.func158.trans (congrArg some (by kernel_rfl))
  t3 := Tryz.underlying3
  a3 := Tryz.isAgg3
  z3 := Tryz.sizeOf3
  v3 := Tryz.zeroValue3
  t4 := Tryz.underlying4
  a4 := Tryz.isAgg4
  z4 := Tryz.sizeOf4
  v4 := Tryz.zeroValue4
  t5 := Tryz.underlying5
  a5 := Tryz.isAgg5
  z5 := Tryz.sizeOf5
  v5 := Tryz.zeroValue5
  t9 := Tryz.underlying9
  a9 := Tryz.isAgg9
  z9 := Tryz.sizeOf9
  v9 := Tryz.zeroValue9
  t46 := Tryz.underlying90
  a46 := Tryz.isAgg90
  z46 := Tryz.sizeOf90
  v46 := Tryz.zeroValue90
  t51 := Tryz.underlying110
  a51 := Tryz.isAgg110
  z51 := Tryz.sizeOf110
  v51 := Tryz.zeroValue110
  t59 := Tryz.underlying84
  a59 := Tryz.isAgg84
  z59 := Tryz.sizeOf84
  v59 := Tryz.zeroValue84
  t146 := Tryz.underlying150
  a146 := Tryz.isAgg150
  z146 := Tryz.sizeOf150
  v146 := Tryz.zeroValue150
  g1 := by kernel_rfl
  i3 := by kernel_rfl
  i4 := by kernel_rfl
  i5 := by kernel_rfl
  i9 := by kernel_rfl
  i46 := by kernel_rfl
  i51 := by kernel_rfl
  i59 := by kernel_rfl
  i146 := by kernel_rfl
  m1 := by kernel_rfl
  s1_3 := fun w h => Go.Proofs.cell_of_shapedOpen_int (zero := #[.int .i64 0]) (t := 3) h (of_decide_eq_true (by kernel_rfl)) (by kernel_rfl) rfl (by kernel_rfl) (by kernel_rfl) Tryz.underlying3 }
open Go.RowKit Go.Lib in
theorem Tryz.strings_Cut_shaped (s sep : ByteArray) (w : World) (h : w.ShapedOpen Tryz.prog) (hs : s.size < 4294967281) :
    Calls Tryz.prog 87 #[.string s, .string sep] w fun e w' => e = .returned (.tuple #[.string ⟨(Lib.cut s.data.toList sep.data.toList).1.toArray⟩, .string ⟨(Lib.cut s.data.toList sep.data.toList).2.1.toArray⟩, .bool (Lib.cut s.data.toList sep.data.toList).2.2]) ∧ ∃ n, w' = w.drewN n := Any.strings_Cut_shaped Tryz.laysM145 s sep w h hs
def Tryz.lays190_ren : Go.Shelf.Ren := ⟨fun | 190 => 51 | 125 => 77 | 258 => 76 | 128 => 105 | 129 => 106 | 302 => 96 | 303 => 97 | 304 => 98 | 305 => 99 | 306 => 100 | 307 => 101 | 308 => 102 | 309 => 103 | 310 => 104 | 333 => 115 | 329 => 116 | 330 => 117 | 334 => 118 | 335 => 119 | 336 => 120 | 344 => 132 | n => n, fun | 31 => 34 | 9 => 9 | 3 => 3 | 46 => 90 | 0 => 0 | 51 => 110 | 53 => 112 | 4 => 4 | 183 => 103 | 182 => 102 | 131 => 74 | 5 => 5 | 218 => 116 | 222 => 120 | 228 => 127 | 229 => 128 | n => n, fun | n => n⟩
theorem Tryz.lays190 : Go.Proofs.Lays.n190 Tryz.prog Tryz.lays190_ren := {
  mixed := by kernel_rfl
  f125 := Tryz.func77.trans (congrArg some (by kernel_rfl))
  f128 := Tryz.func105.trans (congrArg some (by kernel_rfl))
  f129 := Tryz.func106.trans (congrArg some (by kernel_rfl))
  f190 := Tryz.func51.trans (congrArg some (by kernel_rfl))
  f258 := Tryz.func76.trans (congrArg some (by kernel_rfl))
  f302 := Tryz.func96.trans (congrArg some (by kernel_rfl))
  f303 := Tryz.func97.trans (congrArg some (by kernel_rfl))
  f304 := Tryz.func98.trans (congrArg some (by kernel_rfl))
  f305 := Tryz.func99.trans (congrArg some (by kernel_rfl))
  f306 := Tryz.func100.trans (congrArg some (by kernel_rfl))
  f307 := Tryz.func101.trans (congrArg some (by kernel_rfl))
  f308 := Tryz.func102.trans (congrArg some (by kernel_rfl))
  f309 := Tryz.func103.trans (congrArg some (by kernel_rfl))
  f310 := Tryz.func104.trans (congrArg some (by kernel_rfl))
  f329 := Tryz.func116.trans (congrArg some (by kernel_rfl))
  f330 := Tryz.func117.trans (congrArg some (by kernel_rfl))
  f333 := Tryz.func115.trans (congrArg some (by kernel_rfl))
  f334 := Tryz.func118.trans (congrArg some (by kernel_rfl))
  f335 := Tryz.func119.trans (congrArg some (by kernel_rfl))
  f336 := Tryz.func120.trans (congrArg some (by kernel_rfl))
  f344 := Tryz.func132.trans (congrArg some (by kernel_rfl))
  t0 := Tryz.underlying0
  a0 := Tryz.isAgg0
  z0 := Tryz.sizeOf0
  v0 := Tryz.zeroValue0
  t3 := Tryz.underlying3
  a3 := Tryz.isAgg3
  z3 := Tryz.sizeOf3
  v3 := Tryz.zeroValue3
  t4 := Tryz.underlying4
  a4 := Tryz.isAgg4
  z4 := Tryz.sizeOf4
  v4 := Tryz.zeroValue4
  t5 := Tryz.underlying5
  a5 := Tryz.isAgg5
  z5 := Tryz.sizeOf5
  v5 := Tryz.zeroValue5
  t9 := Tryz.underlying9
  a9 := Tryz.isAgg9
  z9 := Tryz.sizeOf9
  v9 := Tryz.zeroValue9
  t31 := Tryz.underlying34
  a31 := Tryz.isAgg34
  z31 := Tryz.sizeOf34
  v31 := Tryz.zeroValue34
  t46 := Tryz.underlying90
  a46 := Tryz.isAgg90
  z46 := Tryz.sizeOf90
  v46 := Tryz.zeroValue90
  t51 := Tryz.underlying110
  a51 := Tryz.isAgg110
  z51 := Tryz.sizeOf110
  v51 := Tryz.zeroValue110
  t53 := Tryz.underlying112
  a53 := Tryz.isAgg112
  z53 := Tryz.sizeOf112
  v53 := Tryz.zeroValue112
  t131 := Tryz.underlying74
  a131 := Tryz.isAgg74
  z131 := Tryz.sizeOf74
  v131 := Tryz.zeroValue74
  t182 := Tryz.underlying102
  a182 := Tryz.isAgg102
  z182 := Tryz.sizeOf102
  v182 := Tryz.zeroValue102
  t183 := Tryz.underlying103
  a183 := Tryz.isAgg103
  z183 := Tryz.sizeOf103
  v183 := Tryz.zeroValue103
  t218 := Tryz.underlying116
  a218 := Tryz.isAgg116
  z218 := Tryz.sizeOf116
  v218 := Tryz.zeroValue116
  t222 := Tryz.underlying120
  a222 := Tryz.isAgg120
  z222 := Tryz.sizeOf120
  v222 := Tryz.zeroValue120
  t228 := Tryz.underlying127
  a228 := Tryz.isAgg127
  z228 := Tryz.sizeOf127
  v228 := Tryz.zeroValue127
  t229 := Tryz.underlying128
  a229 := Tryz.isAgg128
  z229 := Tryz.sizeOf128
  v229 := Tryz.zeroValue128 }
open Go.Sort Go.RowKit in
theorem Tryz.slices_Sort_string (blk off cap : Nat) (ss : List (List UInt8)) (w : World) (hH : Holds encStr w blk off ss.toArray) (hblk : blk < w.heap.size) (hsz : ss.length < 4611686018427387904) :
    Calls Tryz.prog 51 #[.slice (some ⟨blk, off, none⟩) ss.length cap] w fun e w' =>
      e = .returned (.tuple #[]) ∧ ∃ n os, w' = grow (putRow encStr (Sort.ahead w n) blk off (ss.mergeSort fun x y => decide (x ≤ y)).toArray) os := Any.slices_Sort_string Tryz.lays190 blk off cap ss w hH hblk hsz
def Tryz.lays206_ren : Go.Shelf.Ren := ⟨fun | 206 => 163 | n => n, fun | 9 => 9 | 4 => 4 | 3 => 3 | n => n, fun | n => n⟩
theorem Tryz.lays206 : Go.Proofs.Lays.n206 Tryz.prog Tryz.lays206_ren := {
  mixed := by kernel_rfl
  f206 := Tryz.func163.trans (congrArg some (by kernel_rfl))
  t3 := Tryz.underlying3
  a3 := Tryz.isAgg3
  z3 := Tryz.sizeOf3
  v3 := Tryz.zeroValue3
  t4 := Tryz.underlying4
  a4 := Tryz.isAgg4
  z4 := Tryz.sizeOf4
  v4 := Tryz.zeroValue4
  t9 := Tryz.underlying9
  a9 := Tryz.isAgg9
  z9 := Tryz.sizeOf9
  v9 := Tryz.zeroValue9 }
open Go.RowKit Go.Lib in
/-- internal/stringslite.HasPrefix (what strings.HasPrefix calls). (LAID: no walk: one application.) -/
theorem Tryz.stringslite_HasPrefix (s p : ByteArray) (w : World) :
    Calls Tryz.prog 163 #[.string s, .string p] w fun e w' => e = .returned (.bool (Lib.hasPrefix s.data.toList p.data.toList)) ∧ w' = w := Any.stringslite_HasPrefix Tryz.lays206 s p w
def Tryz.lays208_ren : Go.Shelf.Ren := ⟨fun | 208 => 157 | 206 => 163 | n => n, fun | 9 => 9 | 4 => 4 | 3 => 3 | n => n, fun | n => n⟩
theorem Tryz.lays208 : Go.Proofs.Lays.n208 Tryz.prog Tryz.lays208_ren := {
  mixed := by kernel_rfl
  f206 := Tryz.func163.trans (congrArg some (by kernel_rfl))
  f208 := Tryz.func157.trans (congrArg some (by kernel_rfl))
  t3 := Tryz.underlying3
  a3 := Tryz.isAgg3
  z3 := Tryz.sizeOf3
  v3 := Tryz.zeroValue3
  t4 := Tryz.underlying4
  a4 := Tryz.isAgg4
  z4 := Tryz.sizeOf4
  v4 := Tryz.zeroValue4
  t9 := Tryz.underlying9
  a9 := Tryz.isAgg9
  z9 := Tryz.sizeOf9
  v9 := Tryz.zeroValue9 }
open Go.RowKit Go.Lib in
/-- internal/stringslite.TrimPrefix (what strings.TrimPrefix calls). (LAID: no walk: one application.) -/
theorem Tryz.stringslite_TrimPrefix (s p : ByteArray) (w : World) :
    Calls Tryz.prog 157 #[.string s, .string p] w fun e w' => e = .returned (.string ⟨(Lib.trimPrefix s.data.toList p.data.toList).toArray⟩) ∧ w' = w := Any.stringslite_TrimPrefix Tryz.lays208 s p w
def Tryz.lays101_ren : Go.Shelf.Ren := ⟨fun | 101 => 138 | 208 => 157 | 206 => 163 | n => n, fun | 9 => 9 | 4 => 4 | 3 => 3 | n => n, fun | n => n⟩
theorem Tryz.lays101 : Go.Proofs.Lays.n101 Tryz.prog Tryz.lays101_ren := {
  mixed := by kernel_rfl
  f101 := Tryz.func138.trans (congrArg some (by kernel_rfl))
  f206 := Tryz.func163.trans (congrArg some (by kernel_rfl))
  f208 := Tryz.func157.trans (congrArg some (by kernel_rfl))
  t3 := Tryz.underlying3
  a3 := Tryz.isAgg3
  z3 := Tryz.sizeOf3
  v3 := Tryz.zeroValue3
  t4 := Tryz.underlying4
  a4 := Tryz.isAgg4
  z4 := Tryz.sizeOf4
  v4 := Tryz.zeroValue4
  t9 := Tryz.underlying9
  a9 := Tryz.isAgg9
  z9 := Tryz.sizeOf9
  v9 := Tryz.zeroValue9 }
open Go.RowKit Go.Lib in
/-- strings.TrimPrefix: "TrimPrefix returns s without the provided leading prefix string. If s doesn't start with prefix, s is returned unchanged.": IT RETURNS 'Lib.trimPrefix s prefix'; the world is as it was. (LAID: no walk: one application.) -/
theorem Tryz.strings_TrimPrefix (s p : ByteArray) (w : World) :
    Calls Tryz.prog 138 #[.string s, .string p] w fun e w' => e = .returned (.string ⟨(Lib.trimPrefix s.data.toList p.data.toList).toArray⟩) ∧ w' = w := Any.strings_TrimPrefix Tryz.lays101 s p w
def Tryz.lays197_ren : Go.Shelf.Ren := ⟨fun | 197 => 160 | 260 => 164 | n => n, fun | 9 => 9 | 21 => 21 | 3 => 3 | 4 => 4 | 5 => 5 | 105 => 152 | 119 => 156 | 0 => 0 | 46 => 90 | 139 => 159 | 138 => 158 | n => n, fun | 3 => 1 | 4 => 2 | n => n⟩
theorem Tryz.lays197 : Go.Proofs.Lays.n197 Tryz.prog Tryz.lays197_ren := {
  mixed := by kernel_rfl
  f197 := Tryz.func160.trans (congrArg some (by kernel_rfl))
  f260 := Tryz.func164.trans (congrArg some (by kernel_rfl))
  t0 := Tryz.underlying0
  a0 := Tryz.isAgg0
  z0 := Tryz.sizeOf0
  v0 := Tryz.zeroValue0
  t3 := Tryz.underlying3
  a3 := Tryz.isAgg3
  z3 := Tryz.sizeOf3
  v3 := Tryz.zeroValue3
  t4 := Tryz.underlying4
  a4 := Tryz.isAgg4
  z4 := Tryz.sizeOf4
  v4 := Tryz.zeroValue4
  t5 := Tryz.underlying5
  a5 := Tryz.isAgg5
  z5 := Tryz.sizeOf5
  v5 := Tryz.zeroValue5
  t9 := Tryz.underlying9
  a9 := Tryz.isAgg9
  z9 := Tryz.sizeOf9
  v9 := Tryz.zeroValue9
  t21 := Tryz.underlying21
  a21 := Tryz.isAgg21
  z21 := Tryz.sizeOf21
  v21 := Tryz.zeroValue21
  t46 := Tryz.underlying90
  a46 := Tryz.isAgg90
  z46 := Tryz.sizeOf90
  v46 := Tryz.zeroValue90
  t105 := Tryz.underlying152
  a105 := Tryz.isAgg152
  z105 := Tryz.sizeOf152
  v105 := Tryz.zeroValue152
  t119 := Tryz.underlying156
  a119 := Tryz.isAgg156
  z119 := Tryz.sizeOf156
  t138 := Tryz.underlying158
  a138 := Tryz.isAgg158
  z138 := Tryz.sizeOf158
  v138 := Tryz.zeroValue158
  t139 := Tryz.underlying159
  a139 := Tryz.isAgg159
  z139 := Tryz.sizeOf159
  v139 := Tryz.zeroValue159
  g3 := by kernel_rfl
  g4 := by kernel_rfl }
open Go.RowKit Go.Lib in
/-- unicode/utf8.DecodeRuneInString: "DecodeRuneInString is like DecodeRune but its input is a string.": ("DecodeRune unpacks the first UTF-8 encoding in p and returns the rune and its width in bytes."): WHERE s BEGINS WITH AN ASCII BYTE x: (x, 1). (LAID: no walk: one application.) -/
theorem Tryz.utf8_DecodeRuneInString_ascii (s : ByteArray) (x : UInt8) (w : World) (h0 : s.data.toList[0]? = some x) (hx : x.toNat < 128) :
    Calls Tryz.prog 160 #[.string s] w fun e w' => e = .returned (.tuple #[.int .i32 x.toNat, .int .i64 1]) ∧ w' = w := Any.utf8_DecodeRuneInString_ascii Tryz.lays197 s x w h0 hx
def Tryz.lays152_ren : Go.Shelf.Ren := ⟨fun | 152 => 165 | 137 => 92 | 119 => 167 | 224 => 144 | 225 => 143 | 217 => 112 | 266 => 130 | n => n, fun | 9 => 9 | 21 => 21 | 3 => 3 | 4 => 4 | 5 => 5 | 0 => 0 | 46 => 90 | n => n, fun | n => n⟩
theorem Tryz.lays152 : Go.Proofs.Lays.n152 Tryz.prog Tryz.lays152_ren := {
  mixed := by kernel_rfl
  f119 := Tryz.func167.trans (congrArg some (by kernel_rfl))
  f137 := Tryz.func92.trans (congrArg some (by kernel_rfl))
  f152 := Tryz.func165.trans (congrArg some (by kernel_rfl))
  f217 := Tryz.func112.trans (congrArg some (by kernel_rfl))
  f224 := Tryz.func144.trans (congrArg some (by kernel_rfl))
  f225 := Tryz.func143.trans (congrArg some (by kernel_rfl))
  f266 := Tryz.func130.trans (congrArg some (by kernel_rfl))
  t0 := Tryz.underlying0
  a0 := Tryz.isAgg0
  z0 := Tryz.sizeOf0
  v0 := Tryz.zeroValue0
  t3 := Tryz.underlying3
  a3 := Tryz.isAgg3
  z3 := Tryz.sizeOf3
  v3 := Tryz.zeroValue3
  t4 := Tryz.underlying4
  a4 := Tryz.isAgg4
  z4 := Tryz.sizeOf4
  v4 := Tryz.zeroValue4
  t5 := Tryz.underlying5
  a5 := Tryz.isAgg5
  z5 := Tryz.sizeOf5
  v5 := Tryz.zeroValue5
  t9 := Tryz.underlying9
  a9 := Tryz.isAgg9
  z9 := Tryz.sizeOf9
  v9 := Tryz.zeroValue9
  t21 := Tryz.underlying21
  a21 := Tryz.isAgg21
  z21 := Tryz.sizeOf21
  v21 := Tryz.zeroValue21
  t46 := Tryz.underlying90
  a46 := Tryz.isAgg90
  z46 := Tryz.sizeOf90
  v46 := Tryz.zeroValue90 }
open Go.RowKit Go.Lib in
theorem Tryz.strings_IndexRune_ascii (s : ByteArray) (r : Int) (w : World) (h0 : 0 ≤ r) (h1 : r < 128) :
    Calls Tryz.prog 165 #[.string s, .int .i32 r] w fun e w' => e = .returned (.int .i64 (Lib.indexByte s.data.toList r.toNat.toUInt8)) ∧ w' = w := Any.strings_IndexRune_ascii Tryz.lays152 s r w h0 h1
def Tryz.lays151_ren : Go.Shelf.Ren := ⟨fun | 151 => 161 | 152 => 165 | 137 => 92 | 119 => 167 | 224 => 144 | 225 => 143 | 217 => 112 | 266 => 130 | n => n, fun | 9 => 9 | 21 => 21 | 4 => 4 | 3 => 3 | 5 => 5 | 0 => 0 | 46 => 90 | n => n, fun | n => n⟩
theorem Tryz.lays151 : Go.Proofs.Lays.n151 Tryz.prog Tryz.lays151_ren := {
  mixed := by kernel_rfl
  f119 := Tryz.func167.trans (congrArg some (by kernel_rfl))
  f137 := Tryz.func92.trans (congrArg some (by kernel_rfl))
  f151 := Tryz.func161.trans (congrArg some (by kernel_rfl))
  f152 := Tryz.func165.trans (congrArg some (by kernel_rfl))
  f217 := Tryz.func112.trans (congrArg some (by kernel_rfl))
  f224 := Tryz.func144.trans (congrArg some (by kernel_rfl))
  f225 := Tryz.func143.trans (congrArg some (by kernel_rfl))
  f266 := Tryz.func130.trans (congrArg some (by kernel_rfl))
  t0 := Tryz.underlying0
  a0 := Tryz.isAgg0
  z0 := Tryz.sizeOf0
  v0 := Tryz.zeroValue0
  t3 := Tryz.underlying3
  a3 := Tryz.isAgg3
  z3 := Tryz.sizeOf3
  v3 := Tryz.zeroValue3
  t4 := Tryz.underlying4
  a4 := Tryz.isAgg4
  z4 := Tryz.sizeOf4
  v4 := Tryz.zeroValue4
  t5 := Tryz.underlying5
  a5 := Tryz.isAgg5
  z5 := Tryz.sizeOf5
  v5 := Tryz.zeroValue5
  t9 := Tryz.underlying9
  a9 := Tryz.isAgg9
  z9 := Tryz.sizeOf9
  v9 := Tryz.zeroValue9
  t21 := Tryz.underlying21
  a21 := Tryz.isAgg21
  z21 := Tryz.sizeOf21
  v21 := Tryz.zeroValue21
  t46 := Tryz.underlying90
  a46 := Tryz.isAgg90
  z46 := Tryz.sizeOf90
  v46 := Tryz.zeroValue90 }
open Go.RowKit Go.Lib in
theorem Tryz.strings_ContainsRune_ascii (s : ByteArray) (r : Int) (w : World) (h0 : 0 ≤ r) (h1 : r < 128) :
    Calls Tryz.prog 161 #[.string s, .int .i32 r] w fun e w' => e = .returned (.bool (decide (0 ≤ Lib.indexByte s.data.toList r.toNat.toUInt8))) ∧ w' = w := Any.strings_ContainsRune_ascii Tryz.lays151 s r w h0 h1
def Tryz.lays227_ren : Go.Shelf.Ren := ⟨fun | 227 => 150 | n => n, fun | 9 => 9 | 116 => 144 | 4 => 4 | 0 => 0 | 3 => 3 | 5 => 5 | n => n, fun | n => n⟩
theorem Tryz.lays227 : Go.Proofs.Lays.n227 Tryz.prog Tryz.lays227_ren := {
  mixed := by kernel_rfl
  f227 := Tryz.func150.trans (congrArg some (by kernel_rfl))
  t0 := Tryz.underlying0
  a0 := Tryz.isAgg0
  z0 := Tryz.sizeOf0
  v0 := Tryz.zeroValue0
  t3 := Tryz.underlying3
  a3 := Tryz.isAgg3
  z3 := Tryz.sizeOf3
  v3 := Tryz.zeroValue3
  t4 := Tryz.underlying4
  a4 := Tryz.isAgg4
  z4 := Tryz.sizeOf4
  v4 := Tryz.zeroValue4
  t5 := Tryz.underlying5
  a5 := Tryz.isAgg5
  z5 := Tryz.sizeOf5
  v5 := Tryz.zeroValue5
  t9 := Tryz.underlying9
  a9 := Tryz.isAgg9
  z9 := Tryz.sizeOf9
  v9 := Tryz.zeroValue9
  t116 := Tryz.underlying144
  a116 := Tryz.isAgg144
  z116 := Tryz.sizeOf144 }
open Go.RowKit Go.Lib in
theorem Tryz.strings_makeASCIISet (hv116 : ∀ w, (zeroValue 144).run Tryz.prog w = .ok (.agg (Array.replicate 256 (.bool false))) w) (chars : ByteArray) (w : World) (hs : chars.size < 4294967281) (hascii : ∀ (j : Nat) b, chars.data.toList[j]? = some b → b.toNat < 128) :
    Calls Tryz.prog 150 #[.string chars] w fun e w' => e = .returned (.tuple #[.agg (Lib.setCells chars.data.toList), .bool true]) ∧ w' = w.alloc (.cells (Lib.setCells chars.data.toList) 144) := Any.strings_makeASCIISet Tryz.lays227 hv116 (by kernel_rfl) chars w hs hascii
def Tryz.lays228_ren : Go.Shelf.Ren := ⟨fun | 228 => 159 | n => n, fun | 124 => 148 | 5 => 5 | 4 => 4 | 0 => 0 | 116 => 144 | n => n, fun | n => n⟩
theorem Tryz.lays228 : Go.Proofs.Lays.n228 Tryz.prog Tryz.lays228_ren := {
  mixed := by kernel_rfl
  f228 := Tryz.func159.trans (congrArg some (by kernel_rfl))
  t0 := Tryz.underlying0
  a0 := Tryz.isAgg0
  z0 := Tryz.sizeOf0
  v0 := Tryz.zeroValue0
  t4 := Tryz.underlying4
  a4 := Tryz.isAgg4
  z4 := Tryz.sizeOf4
  v4 := Tryz.zeroValue4
  t5 := Tryz.underlying5
  a5 := Tryz.isAgg5
  z5 := Tryz.sizeOf5
  v5 := Tryz.zeroValue5
  t116 := Tryz.underlying144
  a116 := Tryz.isAgg144
  z116 := Tryz.sizeOf144
  t124 := Tryz.underlying148
  a124 := Tryz.isAgg148
  z124 := Tryz.sizeOf148
  v124 := Tryz.zeroValue148 }
open Go.RowKit Go.Lib in
/-- '(as *asciiSet) contains(c)': 'as[c]': the set lies at block b, whole. (LAID: no walk: one application.) -/
theorem Tryz.asciiSet_contains (b : Nat) (x : UInt8) (v : Bool) (w : World) (hc : w.cell? ⟨b, x.toNat, none⟩ = some (.bool v)) :
    Calls Tryz.prog 159 #[.pointer (some ⟨b, 0, none⟩), .int .u8 x.toNat] w fun e w' => e = .returned (.bool v) ∧ w' = w := Any.asciiSet_contains Tryz.lays228 b x v w hc
def Tryz.lays260_ren : Go.Shelf.Ren := ⟨fun | 260 => 164 | n => n, fun | 9 => 9 | 21 => 21 | 3 => 3 | 4 => 4 | 5 => 5 | 119 => 156 | 0 => 0 | 46 => 90 | 139 => 159 | 138 => 158 | n => n, fun | 3 => 1 | 4 => 2 | n => n⟩
theorem Tryz.lays260 : Go.Proofs.Lays.n260 Tryz.prog Tryz.lays260_ren := {
  mixed := by kernel_rfl
  f260 := Tryz.func164.trans (congrArg some (by kernel_rfl))
  t0 := Tryz.underlying0
  a0 := Tryz.isAgg0
  z0 := Tryz.sizeOf0
  v0 := Tryz.zeroValue0
  t3 := Tryz.underlying3
  a3 := Tryz.isAgg3
  z3 := Tryz.sizeOf3
  v3 := Tryz.zeroValue3
  t4 := Tryz.underlying4
  a4 := Tryz.isAgg4
  z4 := Tryz.sizeOf4
  v4 := Tryz.zeroValue4
  t5 := Tryz.underlying5
  a5 := Tryz.isAgg5
  z5 := Tryz.sizeOf5
  v5 := Tryz.zeroValue5
  t9 := Tryz.underlying9
  a9 := Tryz.isAgg9
  z9 := Tryz.sizeOf9
  v9 := Tryz.zeroValue9
  t21 := Tryz.underlying21
  a21 := Tryz.isAgg21
  z21 := Tryz.sizeOf21
  v21 := Tryz.zeroValue21
  t46 := Tryz.underlying90
  a46 := Tryz.isAgg90
  z46 := Tryz.sizeOf90
  v46 := Tryz.zeroValue90
  t119 := Tryz.underlying156
  a119 := Tryz.isAgg156
  z119 := Tryz.sizeOf156
  t138 := Tryz.underlying158
  a138 := Tryz.isAgg158
  z138 := Tryz.sizeOf158
  v138 := Tryz.zeroValue158
  t139 := Tryz.underlying159
  a139 := Tryz.isAgg159
  z139 := Tryz.sizeOf159
  v139 := Tryz.zeroValue159
  g3 := by kernel_rfl
  g4 := by kernel_rfl }
open Go.RowKit Go.Lib in
theorem Tryz.utf8_decodeRuneInStringSlow (s : ByteArray) (w : World) (hT : Lib.Utf8Tabs 1 2 w) :
    Calls Tryz.prog 164 #[.string s] w fun e w' => e = .returned (.tuple #[.int .i32 (Lib.decodeGo s).1, .int .i64 (Lib.decodeGo s).2]) ∧ Below w.heap.size w w' := Any.utf8_decodeRuneInStringSlow Tryz.lays260 s w hT
open Go.RowKit Go.Lib in
/-- **unicode/utf8.DecodeRuneInString AT EVERY STRING.** (LAID: no walk: one application.) -/
theorem Tryz.utf8_DecodeRuneInString (s : ByteArray) (w : World) (hT : Lib.Utf8Tabs 1 2 w) :
    Calls Tryz.prog 160 #[.string s] w fun e w' => e = .returned (.tuple #[.int .i32 (Lib.decodeGo s).1, .int .i64 (Lib.decodeGo s).2]) ∧ Below w.heap.size w w' := Any.utf8_DecodeRuneInString Tryz.lays197 s w hT
def Tryz.lays271_ren : Go.Shelf.Ren := ⟨fun | 271 => 162 | 120 => 166 | 197 => 160 | 260 => 164 | n => n, fun | 9 => 9 | 21 => 21 | 3 => 3 | 4 => 4 | 5 => 5 | 105 => 152 | 119 => 156 | 0 => 0 | 46 => 90 | 139 => 159 | 138 => 158 | n => n, fun | 3 => 1 | 4 => 2 | n => n⟩
theorem Tryz.lays271 : Go.Proofs.Lays.n271 Tryz.prog Tryz.lays271_ren := {
  mixed := by kernel_rfl
  f120 := Tryz.func166.trans (congrArg some (by kernel_rfl))
  f197 := Tryz.func160.trans (congrArg some (by kernel_rfl))
  f260 := Tryz.func164.trans (congrArg some (by kernel_rfl))
  f271 := Tryz.func162.trans (congrArg some (by kernel_rfl))
  t0 := Tryz.underlying0
  a0 := Tryz.isAgg0
  z0 := Tryz.sizeOf0
  v0 := Tryz.zeroValue0
  t3 := Tryz.underlying3
  a3 := Tryz.isAgg3
  z3 := Tryz.sizeOf3
  v3 := Tryz.zeroValue3
  t4 := Tryz.underlying4
  a4 := Tryz.isAgg4
  z4 := Tryz.sizeOf4
  v4 := Tryz.zeroValue4
  t5 := Tryz.underlying5
  a5 := Tryz.isAgg5
  z5 := Tryz.sizeOf5
  v5 := Tryz.zeroValue5
  t9 := Tryz.underlying9
  a9 := Tryz.isAgg9
  z9 := Tryz.sizeOf9
  v9 := Tryz.zeroValue9
  t21 := Tryz.underlying21
  a21 := Tryz.isAgg21
  z21 := Tryz.sizeOf21
  v21 := Tryz.zeroValue21
  t46 := Tryz.underlying90
  a46 := Tryz.isAgg90
  z46 := Tryz.sizeOf90
  v46 := Tryz.zeroValue90
  t105 := Tryz.underlying152
  a105 := Tryz.isAgg152
  z105 := Tryz.sizeOf152
  v105 := Tryz.zeroValue152
  t119 := Tryz.underlying156
  a119 := Tryz.isAgg156
  z119 := Tryz.sizeOf156
  t138 := Tryz.underlying158
  a138 := Tryz.isAgg158
  z138 := Tryz.sizeOf158
  v138 := Tryz.zeroValue158
  t139 := Tryz.underlying159
  a139 := Tryz.isAgg159
  z139 := Tryz.sizeOf159
  v139 := Tryz.zeroValue159
  g3 := by kernel_rfl
  g4 := by kernel_rfl }
open Go.RowKit Go.Lib in
/-- **unicode/utf8.DecodeLastRuneInString AT EVERY STRING.** (LAID: no walk: one application.) -/
theorem Tryz.utf8_DecodeLastRuneInString (s : ByteArray) (w : World) (hs : s.size ≤ 9223372036854775807) (hT : Lib.Utf8Tabs 1 2 w) :
    Calls Tryz.prog 162 #[.string s] w fun e w' => e = .returned (.tuple #[.int .i32 (Lib.decodeLastL s.data.toList).1, .int .i64 (Lib.decodeLastL s.data.toList).2]) ∧ Below w.heap.size w w' := Any.utf8_DecodeLastRuneInString Tryz.lays271 s w hs hT
def Tryz.lays109_ren : Go.Shelf.Ren := ⟨fun | 109 => 79 | n => n, fun | 31 => 34 | 9 => 9 | 3 => 3 | 0 => 0 | 4 => 4 | n => n, fun | n => n⟩
theorem Tryz.lays109 : Go.Proofs.Lays.n109 Tryz.prog Tryz.lays109_ren := {
  mixed := by kernel_rfl
  f109 := Tryz.func79.trans (congrArg some (by kernel_rfl))
  t0 := Tryz.underlying0
  a0 := Tryz.isAgg0
  z0 := Tryz.sizeOf0
  v0 := Tryz.zeroValue0
  t3 := Tryz.underlying3
  a3 := Tryz.isAgg3
  z3 := Tryz.sizeOf3
  v3 := Tryz.zeroValue3
  t4 := Tryz.underlying4
  a4 := Tryz.isAgg4
  z4 := Tryz.sizeOf4
  v4 := Tryz.zeroValue4
  t9 := Tryz.underlying9
  a9 := Tryz.isAgg9
  z9 := Tryz.sizeOf9
  v9 := Tryz.zeroValue9
  t31 := Tryz.underlying34
  a31 := Tryz.isAgg34
  z31 := Tryz.sizeOf34
  v31 := Tryz.zeroValue34 }
open Go.Lib in
/-- slices.Index at []string: "Index returns the index of the first occurrence of v in s, or -1 if not present.": IT RETURNS 'Lib.idxOfS (the elements) v'; the world is as it was. 'zs': what the cells behind the slice's address hold (its spare capacity too, if you have it); 'zs.take n': its elements. (LAID: no walk: one application.) -/
theorem Tryz.slices_Index_string (b off n c : Nat) (zs : List ByteArray) (x : ByteArray) (w : World) (hz : n ≤ zs.length) (hbig : n ≤ 9223372036854775807) (hc : ∀ j, j < zs.length → w.cell? ⟨b, off + j, none⟩ = some (.string (zs.getD j ByteArray.empty))) :
    Calls Tryz.prog 79 #[.slice (some ⟨b, off, none⟩) n c, .string x] w fun e w' => e = .returned (.int .i64 (Lib.idxOfS (zs.take n) x)) ∧ w' = w := Any.slices_Index_string Tryz.lays109 b off n c zs x w hz hbig hc
open Go.Lib in
/-- The same at a slice of length 0, a nil one too: no cell is known, none is asked for. (LAID: no walk: one application.) -/
theorem Tryz.slices_Index_string_empty (a : Option Addr) (c : Nat) (x : ByteArray) (w : World) :
    Calls Tryz.prog 79 #[.slice a 0 c, .string x] w fun e w' => e = .returned (.int .i64 (Lib.idxOfS [] x)) ∧ w' = w := Any.slices_Index_string_empty Tryz.lays109 a c x w
def Tryz.lays110_ren : Go.Shelf.Ren := ⟨fun | 110 => 56 | 109 => 79 | n => n, fun | 31 => 34 | 9 => 9 | 4 => 4 | 3 => 3 | 0 => 0 | n => n, fun | n => n⟩
theorem Tryz.lays110 : Go.Proofs.Lays.n110 Tryz.prog Tryz.lays110_ren := {
  mixed := by kernel_rfl
  f109 := Tryz.func79.trans (congrArg some (by kernel_rfl))
  f110 := Tryz.func56.trans (congrArg some (by kernel_rfl))
  t0 := Tryz.underlying0
  a0 := Tryz.isAgg0
  z0 := Tryz.sizeOf0
  v0 := Tryz.zeroValue0
  t3 := Tryz.underlying3
  a3 := Tryz.isAgg3
  z3 := Tryz.sizeOf3
  v3 := Tryz.zeroValue3
  t4 := Tryz.underlying4
  a4 := Tryz.isAgg4
  z4 := Tryz.sizeOf4
  v4 := Tryz.zeroValue4
  t9 := Tryz.underlying9
  a9 := Tryz.isAgg9
  z9 := Tryz.sizeOf9
  v9 := Tryz.zeroValue9
  t31 := Tryz.underlying34
  a31 := Tryz.isAgg34
  z31 := Tryz.sizeOf34
  v31 := Tryz.zeroValue34 }
open Go.Lib in
/-- slices.Contains at []string: "Contains reports whether v is present in s.": IT RETURNS 'Lib.containsS (the elements) v', which is true just where v is among them ('Lib.containsS_iff'); the world is as it was. ITS CALLEE slices.Index IS MET BY ITS OWN CONTRACT OFF THE SHELF (lay that first): no loop is walked here. (LAID: no walk: one application.) -/
theorem Tryz.slices_Contains_string (b off n c : Nat) (zs : List ByteArray) (x : ByteArray) (w : World) (hz : n ≤ zs.length) (hbig : n ≤ 9223372036854775807) (hc : ∀ j, j < zs.length → w.cell? ⟨b, off + j, none⟩ = some (.string (zs.getD j ByteArray.empty))) :
    Calls Tryz.prog 56 #[.slice (some ⟨b, off, none⟩) n c, .string x] w fun e w' => e = .returned (.bool (Lib.containsS (zs.take n) x)) ∧ w' = w := Any.slices_Contains_string Tryz.lays110 b off n c zs x w hz hbig hc
open Go.Lib in
/-- The same at a slice of length 0, a nil one too. (LAID: no walk: one application.) -/
theorem Tryz.slices_Contains_string_empty (a : Option Addr) (c : Nat) (x : ByteArray) (w : World) :
    Calls Tryz.prog 56 #[.slice a 0 c, .string x] w fun e w' => e = .returned (.bool false) ∧ w' = w := Any.slices_Contains_string_empty Tryz.lays110 a c x w
def Tryz.lays194_ren : Go.Shelf.Ren := ⟨fun | 194 => 52 | n => n, fun | 31 => 34 | 9 => 9 | 3 => 3 | 4 => 4 | 0 => 0 | n => n, fun | n => n⟩
theorem Tryz.lays194 : Go.Proofs.Lays.n194 Tryz.prog Tryz.lays194_ren := {
  mixed := by kernel_rfl
  f194 := Tryz.func52.trans (congrArg some (by kernel_rfl))
  t0 := Tryz.underlying0
  a0 := Tryz.isAgg0
  z0 := Tryz.sizeOf0
  v0 := Tryz.zeroValue0
  t3 := Tryz.underlying3
  a3 := Tryz.isAgg3
  z3 := Tryz.sizeOf3
  v3 := Tryz.zeroValue3
  t4 := Tryz.underlying4
  a4 := Tryz.isAgg4
  z4 := Tryz.sizeOf4
  v4 := Tryz.zeroValue4
  t9 := Tryz.underlying9
  a9 := Tryz.isAgg9
  z9 := Tryz.sizeOf9
  v9 := Tryz.zeroValue9
  t31 := Tryz.underlying34
  a31 := Tryz.isAgg34
  z31 := Tryz.sizeOf34
  v31 := Tryz.zeroValue34 }
open Go.RowKit Go.Lib Go.Sort in
/-- slices.Compact at []string, over an array: the library's two loops are walked. (LAID: no walk: one application.) -/
theorem Tryz.slices_Compact_string_arr (blk off cap : Nat) (d : Array (List UInt8)) (w : World) (hH : Holds encStr w blk off d) (hsz : d.size ≤ 9223372036854775807) (hcap : d.size ≤ cap) :
    Calls Tryz.prog 52 #[.slice (some ⟨blk, off, none⟩) d.size cap] w fun e w' => e = .returned (.slice (some ⟨blk, off, none⟩) (compactUpTo d d.size).length cap) ∧ ∃ q, w' = putRow encStr (Sort.ahead w q) blk off (compactUpTo d d.size ++ List.replicate (d.size - (compactUpTo d d.size).length) []).toArray := Any.slices_Compact_string_arr Tryz.lays194 blk off cap d w hH hsz hcap
open Go.RowKit Go.Lib Go.Sort in
/-- slices.Compact at []string: "Compact replaces consecutive runs of equal elements with a single copy. This is like the uniq command found on Unix. Compact modifies the contents of the slice s and returns the modified slice, which may have a smaller length. Compact zeroes the elements between the new length and the original length. The result preserves the nilness of s.": IT RETURNS THE SLICE CUT TO 'Lib.compact zs'; ITS CELLS HOLD 'Lib.compact zs', THEN ZERO VALUES up to the old length; all else is as it was, but for the count of draws. IN THE WORDS OF slices.Sort's CONTRACT ('Holds', 'putRow'): so the everyday 'slices.Sort(xs); xs = slices.Compact(xs)' goes from the one contract to the other. It asks 'zs.length ≤ cap' (every slice's: the reslicing 's[:k]' looks at it). Length 0, nil: '.._empty'. (LAID: no walk: one application.) -/
theorem Tryz.slices_Compact_string (blk off cap : Nat) (zs : List (List UInt8)) (w : World) (hH : Holds encStr w blk off zs.toArray) (hsz : zs.length ≤ 9223372036854775807) (hcap : zs.length ≤ cap) :
    Calls Tryz.prog 52 #[.slice (some ⟨blk, off, none⟩) zs.length cap] w fun e w' => e = .returned (.slice (some ⟨blk, off, none⟩) (Lib.compact zs).length cap) ∧ ∃ q, w' = putRow encStr (Sort.ahead w q) blk off (Lib.compact zs ++ List.replicate (zs.length - (Lib.compact zs).length) []).toArray := Any.slices_Compact_string Tryz.lays194 blk off cap zs w hH hsz hcap
open Go.RowKit Go.Lib Go.Sort in
/-- The same at a slice of length 0, a nil one too: it comes back as it is. (LAID: no walk: one application.) -/
theorem Tryz.slices_Compact_string_empty (a : Option Addr) (cap : Nat) (w : World) :
    Calls Tryz.prog 52 #[.slice a 0 cap] w fun e w' => e = .returned (.slice a 0 cap) ∧ w' = w := Any.slices_Compact_string_empty Tryz.lays194 a cap w
open Go.RowKit Go.Lib Go.Sort in
/-- slices.Compact at []string, of an argument. (LAID: no walk: one application.) -/
theorem Tryz.slices_Compact_string_cells (b off n c : Nat) (Sx : Nat → ByteArray) (w : World) (hbig : n ≤ 9223372036854775807) (hcap : n ≤ c) (hc : ∀ i, i < n → w.cell? ⟨b, off + i, none⟩ = some (.string (Sx i))) (hf : ∀ j, j < n → w.frozen? ⟨b, off + j, none⟩ = false) :
    Calls Tryz.prog 52 #[.slice (some ⟨b, off, none⟩) n c] w fun e w' => e = .returned (.slice (some ⟨b, off, none⟩) (Lib.compact (Lib.strsOf Sx n)).length c) ∧ ∃ q, w' = (w.drewN q).setCells b off ((Lib.compact (Lib.strsOf Sx n) ++ List.replicate (n - (Lib.compact (Lib.strsOf Sx n)).length) []).map encStr) := Any.slices_Compact_string_cells Tryz.lays194 b off n c Sx w hbig hcap hc hf
open Go.RowKit Go.Sort in
/-- .. and plain. (LAID: no walk: one application.) -/
theorem Tryz.slices_Sort_string_none (p : Option Addr) (cap : Nat) (w : World) :
    Calls Tryz.prog 51 #[.slice p 0 cap] w fun e w' => e = .returned (.tuple #[]) ∧ w' = w := Any.slices_Sort_string_none Tryz.lays190 p cap w
end Go.Proofs
namespace Go.Proofs.YthefddclefimoaaGreatDoor
open Go.RowKit
set_option linter.unusedVariables false

set_option maxHeartbeats 400000 in
theorem isDigit_any (c : Int) (w : World) : Calls Tryz.prog 91 #[.int .u8 c] w fun e w' => e = .returned (.bool (digI c)) ∧ w = w' := by
  go_enter Tryz.func91, Tryz.ntmps91
  go_wp2
  all_goals go_ret
  all_goals exact ⟨by simp [digI, *]; try omega, rfl⟩
set_option maxHeartbeats 400000 in
theorem isSmall_any (c : Int) (w : World) : Calls Tryz.prog 90 #[.int .u8 c] w fun e w' => e = .returned (.bool (smlI c)) ∧ w = w' := by
  go_enter Tryz.func90, Tryz.ntmps90
  go_wp2
  all_goals go_ret
  all_goals exact ⟨by simp [smlI, *]; try omega, rfl⟩
set_option maxHeartbeats 400000 in
theorem isGreat_any (c : Int) (w : World) : Calls Tryz.prog 146 #[.int .u8 c] w fun e w' => e = .returned (.bool (grtI c)) ∧ w = w' := by
  go_enter Tryz.func146, Tryz.ntmps146
  go_wp2
  all_goals go_ret
  all_goals exact ⟨by simp [grtI, *]; try omega, rfl⟩
set_option maxHeartbeats 400000 in
theorem ofHost_any (c : Int) (w : World) : Calls Tryz.prog 127 #[.int .u8 c] w fun e w' => e = .returned (.bool (hostI c)) ∧ w = w' := by
  go_enter Tryz.func127, Tryz.ntmps127
  go_wp2_with (first | (go_at_call 90; refine (isSmall_any _ _).mono ?_; rintro e w' ⟨rfl, rfl⟩) | (go_at_call 146; refine (isGreat_any _ _).mono ?_; rintro e w' ⟨rfl, rfl⟩) | (go_at_call 91; refine (isDigit_any _ _).mono ?_; rintro e w' ⟨rfl, rfl⟩))
  all_goals go_ret
  all_goals exact ⟨by simp [hostI, *], rfl⟩
theorem signs_user (c : Int) (h0 : 0 ≤ c) (h1 : c ≤ 255) : decide (0 ≤ Lib.indexByte [46, 95, 61, 47, 43, 45] c.toNat.toUInt8) = (c == 46 || c == 95 || c == 61 || c == 47 || c == 43 || c == 45) := by
  have key : ∀ n : Fin 256, decide (0 ≤ Lib.indexByte [46, 95, 61, 47, 43, 45] n.val.toUInt8) = ((n.val : Int) == 46 || (n.val : Int) == 95 || (n.val : Int) == 61 || (n.val : Int) == 47 || (n.val : Int) == 43 || (n.val : Int) == 45) := by decide +kernel
  have := key ⟨c.toNat, by omega⟩
  simpa only [Int.toNat_of_nonneg h0] using this
set_option maxHeartbeats 400000 in
theorem ofUser_any (c : Int) (w : World) (h0 : 0 ≤ c) (h1 : c ≤ 255) : Calls Tryz.prog 68 #[.int .u8 c] w fun e w' => e = .returned (.bool (userI c)) ∧ w = w' := by
  have hs := Lib.hid (signs_user c h0 h1)
  go_enter Tryz.func68, Tryz.ntmps68
  go_wp2_with (first | (go_at_call 90; refine (isSmall_any _ _).mono ?_; rintro e w' ⟨rfl, rfl⟩) | (go_at_call 91; refine (isDigit_any _ _).mono ?_; rintro e w' ⟨rfl, rfl⟩) | (go_at_call 92; refine (Tryz.strings_IndexByte ⟨#[46, 95, 61, 47, 43, 45]⟩ _ _).mono ?_; rintro e w' ⟨rfl, hw⟩; subst hw))
  all_goals go_ret
  all_goals refine ⟨?_, rfl⟩
  · simp [userI, *]
  · simp [userI, *]
  · have h := hs.out
    simp only [Bool.or_assoc] at h
    have : (smlI c || digI c) = false := by simp [*]
    simp only [userI, Bool.or_assoc]
    rw [← h]
    simp [*]

/-- What a kind of bytes is, as the program's functions of it tell. -/
def Kind (g : Nat) (K : Int → Bool) : Prop := ∀ (c : Int) (w : World), 0 ≤ c → c ≤ 255 → Calls Tryz.prog g #[.int .u8 c] w fun e w' => e = .returned (.bool (K c)) ∧ w = w'
theorem kind_digit : Kind 91 digI := fun c w _ _ => isDigit_any c w
theorem kind_host : Kind 127 hostI := fun c w _ _ => ofHost_any c w
theorem kind_user : Kind 68 userI := fun c w h0 h1 => ofUser_any c w h0 h1
theorem made_no (l : List Int) (most : Int) (K : Int → Bool) (h : l.length < 1 ∨ most < (l.length : Int)) : madeI l most K = false := by
  unfold madeI
  rcases h with h | h
  · rw [decide_eq_false (by omega)]; rfl
  · rw [decide_eq_false (p := (l.length : Int) ≤ most) (by omega)]; simp
theorem made_yes (l : List Int) (most : Int) (K : Int → Bool) (h1 : 1 ≤ l.length) (h2 : (l.length : Int) ≤ most) : madeI l most K = l.all K := by
  unfold madeI
  rw [decide_eq_true h1, decide_eq_true h2]; rfl
set_option maxHeartbeats 400000 in
theorem made_digit (s : ByteArray) (most : Int) (w : World) (hs : s.size ≤ maxLen) :
    Calls Tryz.prog 88 #[.string s, .int .i64 most, .func (.func 91) #[] #[]] w fun e w' => e = .returned (.bool (madeI (sb s) most digI)) ∧ w = w' := by
  have hl := sb_length s
  unfold maxLen at hs
  have HL := Lib.hid hl; clear hl
  by_cases h1 : (s.size : Int) < 1
  · have HM := Lib.hid (made_no (sb s) most digI (by have := HL.out; omega))
    go_enter Tryz.func88, Tryz.ntmps88
    go_wp2
    go_ret
    exact ⟨by rw [HM.out]; rfl, rfl⟩
  by_cases h2 : most < (s.size : Int)
  · have HM := Lib.hid (made_no (sb s) most digI (by have := HL.out; omega))
    go_enter Tryz.func88, Tryz.ntmps88
    go_wp2
    go_ret
    exact ⟨by rw [HM.out]; rfl, rfl⟩
  have HM := Lib.hid (made_yes (sb s) most digI (by have := HL.out; omega) (by have := HL.out; omega))
  go_enter Tryz.func88, Tryz.ntmps88
  go_wp2
  go_loop [7, 19] (fun _ i => ∃ k : Nat, k ≤ s.size ∧ i = .int .i64 k ∧ ((sb s).take k).all digI = true) (fun _ i => s.size - (intOf i).toNat)
  case atStart => exact ⟨0, Nat.zero_le _, rfl, rfl⟩
  case round =>
    obtain ⟨k, hk, rfl, hall⟩ := hrel
    have H := Lib.hid hall; clear hall
    by_cases hlt : k < s.size
    · have hat := at0_sb s k hlt
      have HA := Lib.hid hat; clear hat
      have hlk : k < (sb s).length := by have := HL.out; omega
      go_wp2_with fail
      have hb := (s[k]'hlt).toNat_lt
      refine (kind_digit _ _ (by omega) (by omega)).mono ?_
      rintro e w' ⟨rfl, rfl⟩
      rw [← HA.out]
      go_wp2
      · go_ret
        refine ⟨?_, rfl⟩
        have : (sb s).all digI = false := by
          rw [List.all_eq_false]
          exact ⟨_, at0_mem hlk, by simpa using ‹(!digI (at0 (sb s) k)) = true›⟩
        rw [HM.out, this]; rfl
      · go_round
        case rel =>
          refine ⟨k + 1, by omega, by go_num, ?_⟩
          rw [List.take_add_one, List.getElem?_eq_getElem hlk, List.all_append, H.out, Option.toList_some, ← at0_lt hlk]
          have h9 : (!digI (at0 (sb s) k)) = false := by assumption
          simpa using h9
        case measure => simp [intOf]; omega
    · go_wp2
      go_ret
      refine ⟨?_, rfl⟩
      have h := H.out
      rw [List.take_of_length_le (by have := HL.out; omega)] at h
      rw [HM.out, h]; rfl

set_option maxHeartbeats 400000 in
theorem made_host (s : ByteArray) (most : Int) (w : World) (hs : s.size ≤ maxLen) :
    Calls Tryz.prog 88 #[.string s, .int .i64 most, .func (.func 127) #[] #[]] w fun e w' => e = .returned (.bool (madeI (sb s) most hostI)) ∧ w = w' := by
  have hl := sb_length s
  unfold maxLen at hs
  have HL := Lib.hid hl; clear hl
  by_cases h1 : (s.size : Int) < 1
  · have HM := Lib.hid (made_no (sb s) most hostI (by have := HL.out; omega))
    go_enter Tryz.func88, Tryz.ntmps88
    go_wp2
    go_ret
    exact ⟨by rw [HM.out]; rfl, rfl⟩
  by_cases h2 : most < (s.size : Int)
  · have HM := Lib.hid (made_no (sb s) most hostI (by have := HL.out; omega))
    go_enter Tryz.func88, Tryz.ntmps88
    go_wp2
    go_ret
    exact ⟨by rw [HM.out]; rfl, rfl⟩
  have HM := Lib.hid (made_yes (sb s) most hostI (by have := HL.out; omega) (by have := HL.out; omega))
  go_enter Tryz.func88, Tryz.ntmps88
  go_wp2
  go_loop [7, 19] (fun _ i => ∃ k : Nat, k ≤ s.size ∧ i = .int .i64 k ∧ ((sb s).take k).all hostI = true) (fun _ i => s.size - (intOf i).toNat)
  case atStart => exact ⟨0, Nat.zero_le _, rfl, rfl⟩
  case round =>
    obtain ⟨k, hk, rfl, hall⟩ := hrel
    have H := Lib.hid hall; clear hall
    by_cases hlt : k < s.size
    · have hat := at0_sb s k hlt
      have HA := Lib.hid hat; clear hat
      have hlk : k < (sb s).length := by have := HL.out; omega
      go_wp2_with fail
      have hb := (s[k]'hlt).toNat_lt
      refine (kind_host _ _ (by omega) (by omega)).mono ?_
      rintro e w' ⟨rfl, rfl⟩
      rw [← HA.out]
      go_wp2
      · go_ret
        refine ⟨?_, rfl⟩
        have : (sb s).all hostI = false := by
          rw [List.all_eq_false]
          exact ⟨_, at0_mem hlk, by simpa using ‹(!hostI (at0 (sb s) k)) = true›⟩
        rw [HM.out, this]; rfl
      · go_round
        case rel =>
          refine ⟨k + 1, by omega, by go_num, ?_⟩
          rw [List.take_add_one, List.getElem?_eq_getElem hlk, List.all_append, H.out, Option.toList_some, ← at0_lt hlk]
          have h9 : (!hostI (at0 (sb s) k)) = false := by assumption
          simpa using h9
        case measure => simp [intOf]; omega
    · go_wp2
      go_ret
      refine ⟨?_, rfl⟩
      have h := H.out
      rw [List.take_of_length_le (by have := HL.out; omega)] at h
      rw [HM.out, h]; rfl

set_option maxHeartbeats 400000 in
theorem made_user (s : ByteArray) (most : Int) (w : World) (hs : s.size ≤ maxLen) :
    Calls Tryz.prog 88 #[.string s, .int .i64 most, .func (.func 68) #[] #[]] w fun e w' => e = .returned (.bool (madeI (sb s) most userI)) ∧ w = w' := by
  have hl := sb_length s
  unfold maxLen at hs
  have HL := Lib.hid hl; clear hl
  by_cases h1 : (s.size : Int) < 1
  · have HM := Lib.hid (made_no (sb s) most userI (by have := HL.out; omega))
    go_enter Tryz.func88, Tryz.ntmps88
    go_wp2
    go_ret
    exact ⟨by rw [HM.out]; rfl, rfl⟩
  by_cases h2 : most < (s.size : Int)
  · have HM := Lib.hid (made_no (sb s) most userI (by have := HL.out; omega))
    go_enter Tryz.func88, Tryz.ntmps88
    go_wp2
    go_ret
    exact ⟨by rw [HM.out]; rfl, rfl⟩
  have HM := Lib.hid (made_yes (sb s) most userI (by have := HL.out; omega) (by have := HL.out; omega))
  go_enter Tryz.func88, Tryz.ntmps88
  go_wp2
  go_loop [7, 19] (fun _ i => ∃ k : Nat, k ≤ s.size ∧ i = .int .i64 k ∧ ((sb s).take k).all userI = true) (fun _ i => s.size - (intOf i).toNat)
  case atStart => exact ⟨0, Nat.zero_le _, rfl, rfl⟩
  case round =>
    obtain ⟨k, hk, rfl, hall⟩ := hrel
    have H := Lib.hid hall; clear hall
    by_cases hlt : k < s.size
    · have hat := at0_sb s k hlt
      have HA := Lib.hid hat; clear hat
      have hlk : k < (sb s).length := by have := HL.out; omega
      go_wp2_with fail
      have hb := (s[k]'hlt).toNat_lt
      refine (kind_user _ _ (by omega) (by omega)).mono ?_
      rintro e w' ⟨rfl, rfl⟩
      rw [← HA.out]
      go_wp2
      · go_ret
        refine ⟨?_, rfl⟩
        have : (sb s).all userI = false := by
          rw [List.all_eq_false]
          exact ⟨_, at0_mem hlk, by simpa using ‹(!userI (at0 (sb s) k)) = true›⟩
        rw [HM.out, this]; rfl
      · go_round
        case rel =>
          refine ⟨k + 1, by omega, by go_num, ?_⟩
          rw [List.take_add_one, List.getElem?_eq_getElem hlk, List.all_append, H.out, Option.toList_some, ← at0_lt hlk]
          have h9 : (!userI (at0 (sb s) k)) = false := by assumption
          simpa using h9
        case measure => simp [intOf]; omega
    · go_wp2
      go_ret
      refine ⟨?_, rfl⟩
      have h := H.out
      rw [List.take_of_length_le (by have := HL.out; omega)] at h
      rw [HM.out, h]; rfl

/-- The library's variable holds some int. -/
def MaxC (w : World) : Prop := ∃ m, w.cell? ⟨0, 0, none⟩ = some (.int .i64 m)
theorem MaxC.below {w w' : World} (h : MaxC w) (hb : Below w.heap.size w w') : MaxC w' := by
  obtain ⟨m, h⟩ := h
  exact ⟨m, by rw [hb.cell (World.block_lt_of_cell? w _ h)]; exact h⟩
theorem cut_any (s : ByteArray) (w : World) (hm : MaxC w) (hs : s.size ≤ 1000000) :
    Calls Tryz.prog 87 #[.string s, .string ⟨#[58]⟩] w fun e w' => ∃ a b : ByteArray, (sb a = (sb s).take (colI (sb s)) ∧ sb b = (sb s).drop (colI (sb s) + 1)) ∧ e = .returned (.tuple #[.string a, .string b, .bool (decide (colI (sb s) < (sb s).length))]) ∧ Below w.heap.size w w' := by
  obtain ⟨m, hm⟩ := hm
  obtain ⟨h1, h2, h3⟩ := cut_col s
  refine (Tryz.strings_Cut s ⟨#[58]⟩ m w (by omega) hm).mono ?_
  rintro e w' ⟨rfl, n, rfl⟩
  exact ⟨_, _, ⟨h1, h2⟩, by rw [← h3], below_drewN (Below.refl _ _) n⟩
theorem cut_yes (s : ByteArray) (w : World) (hm : MaxC w) (hs : s.size ≤ 1000000) (hc : colI (sb s) < (sb s).length) :
    Calls Tryz.prog 87 #[.string s, .string ⟨#[58]⟩] w fun e w' => ∃ a b : ByteArray, (sb a = (sb s).take (colI (sb s)) ∧ sb b = (sb s).drop (colI (sb s) + 1)) ∧ e = .returned (.tuple #[.string a, .string b, .bool true]) ∧ Below w.heap.size w w' := by
  have := cut_any s w hm hs
  rwa [decide_eq_true hc] at this
theorem cut_no (s : ByteArray) (w : World) (hm : MaxC w) (hs : s.size ≤ 1000000) (hc : ¬ colI (sb s) < (sb s).length) :
    Calls Tryz.prog 87 #[.string s, .string ⟨#[58]⟩] w fun e w' => ∃ a b : ByteArray, (sb a = (sb s).take (colI (sb s)) ∧ sb b = (sb s).drop (colI (sb s) + 1)) ∧ e = .returned (.tuple #[.string a, .string b, .bool false]) ∧ Below w.heap.size w w' := by
  have := cut_any s w hm hs
  rwa [decide_eq_false hc] at this
theorem dots_any (s : ByteArray) (w : World) (hm : MaxC w) (hs : s.size ≤ 1000000) (b : Bool) (hb : dotsI (sb s) = b) :
    Calls Tryz.prog 128 #[.string s, .string ⟨#[46, 46]⟩] w fun e w' => e = .returned (.bool b) ∧ w = w' := by
  obtain ⟨m, hm⟩ := hm
  refine (Tryz.strings_Contains s ⟨#[46, 46]⟩ m w (by omega) hm).mono ?_
  rintro e w' ⟨rfl, rfl⟩
  exact ⟨by rw [← hb, dots_lib]; rfl, rfl⟩
theorem trim_any (s : ByteArray) (w : World) (hs : s.size ≤ 1000000) :
    Calls Tryz.prog 129 #[.string s, .string ⟨#[46, 45]⟩] w fun e w' => ∃ t : ByteArray, (t = s ↔ edgesI (sb s) = true) ∧ e = .returned (.string t) ∧ Below w.heap.size w w' := by
  refine (Any.strings_Trim_laid Tryz.lays160 (by kernel_rfl) s ⟨#[46, 45]⟩ w (by omega) (by decide) (ascii_of_all (by decide))).mono ?_
  rintro e w' ⟨rfl, hb⟩
  refine ⟨_, ?_, rfl, hb⟩
  rw [sb, ← trimS_edges]
  constructor
  · intro h
    have := congrArg (fun t : ByteArray => t.data.toList) h
    simpa using this
  · intro h
    show (⟨(Lib.trimS s.data.toList [46, 45]).toArray⟩ : ByteArray) = s
    rw [h]
set_option maxHeartbeats 400000 in
theorem host_any (s : ByteArray) (w : World) (hm : MaxC w) (hs : s.size ≤ 1000000) :
    Calls Tryz.prog 111 #[.string s] w fun e w' => e = .returned (.bool (hostL (sb s))) ∧ Below w.heap.size w w' := by
  have hs' : s.size ≤ maxLen := by unfold maxLen; omega
  have HM := made_host s 230
  cases h1 : madeI (sb s) 230 hostI
  · have HF := Lib.hid (show hostL (sb s) = false by rw [hostL, h1]; rfl)
    rw [h1] at HM
    clear h1
    go_enter Tryz.func111, Tryz.ntmps111
    go_wp2_with fail
    refine (HM _ hs').mono ?_
    rintro e w' ⟨rfl, rfl⟩
    go_wp2
    go_ret
    exact ⟨by rw [HF.out]; rfl, Below.refl _ _⟩
  rw [h1] at HM
  cases h2 : dotsI (sb s)
  · have HD := dots_any s w hm hs false h2
    have HF := Lib.hid (show hostL (sb s) = edgesI (sb s) by rw [hostL, h1, h2]; rfl)
    have HT := trim_any s w hs
    clear h1 h2
    go_enter Tryz.func111, Tryz.ntmps111
    go_wp2_with fail
    refine (HM _ hs').mono ?_
    rintro e w' ⟨rfl, rfl⟩
    go_wp2_with fail
    refine HD.mono ?_
    rintro e w' ⟨rfl, rfl⟩
    go_wp2_with fail
    refine HT.mono ?_
    rintro e w1 ⟨t, ht, rfl, hb⟩
    go_wp2
    go_ret
    refine ⟨?_, hb⟩
    rw [HF.out]
    show Ending.returned (.bool (t.toList == s.toList)) = _
    by_cases hts : t = s
    · rw [str_eq_yes hts, ht.1 hts]
    · rw [str_eq_no hts]
      cases he : edgesI (sb s)
      · rfl
      · exact (hts (ht.2 he)).elim
  · have HD := dots_any s w hm hs true h2
    have HF := Lib.hid (show hostL (sb s) = false by rw [hostL, h1, h2]; rfl)
    clear h1 h2
    go_enter Tryz.func111, Tryz.ntmps111
    go_wp2_with fail
    refine (HM _ hs').mono ?_
    rintro e w' ⟨rfl, rfl⟩
    go_wp2_with fail
    refine HD.mono ?_
    rintro e w' ⟨rfl, rfl⟩
    go_wp2
    go_ret
    exact ⟨by rw [HF.out]; rfl, Below.refl _ _⟩
end Go.Proofs.YthefddclefimoaaGreatDoor
namespace Go.Proofs.YthefddclefimoaaGreatDoor
open Go.RowKit
set_option linter.unusedVariables false

theorem sb_extract (s : ByteArray) (i j : Nat) : sb (s.extract i j) = ((sb s).take j).drop i := by
  rw [Lib.extract_eq]
  simp [sb, List.map_take, List.map_drop, List.drop_take]
theorem sb_tail (s : ByteArray) (i : Nat) : sb (s.extract i s.size) = (sb s).drop i := by
  rw [sb_extract, List.take_of_length_le (by rw [sb_length]; omega)]
theorem size_of_sb {a : ByteArray} {l : List Int} {n : Nat} (h : sb a = l) (hl : l.length ≤ n) : a.size ≤ n := by
  rw [← sb_length, h]; exact hl
set_option maxHeartbeats 400000 in
theorem server_any (s : ByteArray) (w : World) (hm : MaxC w) (hs : s.size ≤ 1000000) :
    Calls Tryz.prog 89 #[.string s] w fun e w' => e = .returned (.bool (serverL (sb s))) ∧ Below w.heap.size w w' := by
  have hL := sb_length s
  by_cases hc : colI (sb s) < (sb s).length
  · have HC := cut_yes s w hm hs hc
    have HD := Lib.hid (show decide ((sb s).length ≤ colI (sb s)) = false by simp; omega)
    have HL := Lib.hid hL; clear hL hc
    go_enter Tryz.func89, Tryz.ntmps89
    go_wp2_with fail
    refine HC.mono ?_
    rintro e w1 ⟨a, b, hab, rfl, hb⟩
    have sa := size_of_sb (n := 1000000) hab.1 (by have := HL.out; rw [List.length_take]; omega)
    have sb' := size_of_sb (n := 1000000) hab.2 (by have := HL.out; rw [List.length_drop]; omega)
    have HAB := Lib.hid hab; clear hab HC
    have hm1 := hm.below hb
    go_wp2_with fail
    refine (made_digit b 5 _ (by unfold maxLen; omega)).mono ?_
    rintro e w' ⟨rfl, rfl⟩
    go_wp2_with (go_at_call 111; refine (host_any a _ hm1 sa).mono ?_; rintro e w2 ⟨rfl, hb2⟩)
    · go_ret
      refine ⟨?_, hb⟩
      have h1 : (!madeI (sb b) 5 digI) = true := by assumption
      have h2 : madeI (sb b) 5 digI = false := by simpa using h1
      rw [HAB.out.2] at h2
      rw [serverL, HD.out, h2]; rfl
    · go_ret
      refine ⟨?_, below_then hb hb2⟩
      have h1 : (!madeI (sb b) 5 digI) = false := by assumption
      have h2 : madeI (sb b) 5 digI = true := by simpa using h1
      rw [HAB.out.2] at h2
      rw [serverL, HD.out, h2, ← HAB.out.1]; rfl
  · have HC := cut_no s w hm hs hc
    have HD := Lib.hid (show decide ((sb s).length ≤ colI (sb s)) = true by simp; omega)
    have HL := Lib.hid hL; clear hL hc
    go_enter Tryz.func89, Tryz.ntmps89
    go_wp2_with fail
    refine HC.mono ?_
    rintro e w1 ⟨a, b, hab, rfl, hb⟩
    have sa := size_of_sb (n := 1000000) hab.1 (by have := HL.out; rw [List.length_take]; omega)
    have HAB := Lib.hid hab; clear hab HC
    have hm1 := hm.below hb
    go_wp2_with (go_at_call 111; refine (host_any a _ hm1 sa).mono ?_; rintro e w2 ⟨rfl, hb2⟩)
    go_ret
    refine ⟨?_, below_then hb hb2⟩
    rw [serverL, HD.out, ← HAB.out.1]; rfl
theorem head_at (l : List Int) (h : 0 < l.length) : l.head? = some (at0 l 0) := by
  cases l with
  | nil => simp at h
  | cons x l => rfl
set_option maxHeartbeats 400000 in
theorem named_user_any (s : ByteArray) (w : World) (hm : MaxC w) (hs : s.size ≤ 1000000) :
    Calls Tryz.prog 67 #[.string s, .int .u8 64, .int .i64 200, .func (.func 68) #[] #[]] w fun e w' => e = .returned (.bool (userL (sb s))) ∧ Below w.heap.size w w' := by
  have hL := sb_length s
  by_cases h1 : 255 < s.size
  · have HF := Lib.hid (show userL (sb s) = false by rw [userL, namedL, decide_eq_false (by omega)]; rfl)
    go_enter Tryz.func67, Tryz.ntmps67
    go_wp2
    go_ret
    exact ⟨by rw [HF.out]; rfl, Below.refl _ _⟩
  by_cases h2 : s.size = 0
  · have HF := Lib.hid (show userL (sb s) = false by rw [userL, namedL, List.eq_nil_of_length_eq_zero (by omega : (sb s).length = 0)]; rfl)
    have hb : ((s.size : Int) == 0) = true := by rw [h2]; rfl
    clear h2
    go_enter Tryz.func67, Tryz.ntmps67
    go_wp2
    go_ret
    exact ⟨by rw [HF.out]; rfl, Below.refl _ _⟩
  have h2' : 0 < s.size := by omega
  have hat := at0_sb s 0 h2'
  have hh := head_at (sb s) (by omega)
  have HL := Lib.hid hL; clear hL
  have hb : ((s.size : Int) == 0) = false := by rw [beq_eq_false_iff_ne]; omega
  have HA := Lib.hid hat; clear hat
  have HH := Lib.hid hh; clear hh
  by_cases h3 : at0 (sb s) 0 = 64
  · have h4 := h3
    rw [HA.out] at h4
    have hn : (((s[0]'h2').toNat : Int) != 64) = false := by simpa using h4
    have h1' : s.size ≤ 255 := by omega
    have h2i : (1 : Int) ≤ (s.size : Int) := by omega
    clear h4
    go_enter Tryz.func67, Tryz.ntmps67
    go_wp2_with fail
    have ht := sb_tail s 1
    have st : (s.extract 1 s.size).size ≤ 255 := size_of_sb ht (by have := HL.out; rw [List.length_drop]; omega)
    generalize s.extract 1 s.size = t at *
    have HT := Lib.hid ht; clear ht
    refine (cut_any t w hm (by omega)).mono ?_
    rintro e w1 ⟨a, b, hab, rfl, hbl⟩
    have HTL := Lib.hid (sb_length t)
    have sa := size_of_sb (n := 255) hab.1 (by have := HTL.out; rw [List.length_take]; omega)
    have sb' := size_of_sb (n := 1000000) hab.2 (by have := HTL.out; rw [List.length_drop]; omega)
    have HAB := Lib.hid hab; clear hab
    have hm1 := hm.below hbl
    have HF := Lib.hid (show userL (sb s) = (madeI (sb a) 200 userI && serverL (sb b)) by
      rw [userL, namedL, HH.out, h3, ← HT.out, decide_eq_true (show (sb s).length ≤ 255 by have := HL.out; omega), HAB.out.1, HAB.out.2]; rfl)
    go_wp2_with (first | (go_at_call 88; refine (made_user a 200 _ (by unfold maxLen; omega)).mono ?_; rintro e w' ⟨rfl, rfl⟩) | (go_at_call 89; refine (server_any b _ hm1 sb').mono ?_; rintro e w2 ⟨rfl, hb2⟩))
    · go_ret
      refine ⟨?_, below_then hbl hb2⟩
      have h5 : madeI (sb a) 200 userI = true := by assumption
      rw [HF.out, h5]; rfl
    · go_ret
      refine ⟨?_, hbl⟩
      have h5 : madeI (sb a) 200 userI = false := by simp only [*]
      rw [HF.out, h5]; rfl
  · have HF := Lib.hid (show userL (sb s) = false by
      have : ((some (at0 (sb s) 0) : Option Int) == some 64) = false := by rw [beq_eq_false_iff_ne]; simpa using h3
      rw [userL, namedL, HH.out, this]; simp)
    have h4 := h3
    rw [HA.out] at h4
    have hn : (((s[0]'h2').toNat : Int) != 64) = true := by simpa using h4
    go_enter Tryz.func67, Tryz.ntmps67
    go_wp2
    go_ret
    exact ⟨by rw [HF.out]; rfl, Below.refl _ _⟩
set_option maxHeartbeats 400000 in
theorem user_any (s : ByteArray) (w : World) (hm : MaxC w) (hs : s.size ≤ 1000000) :
    Calls Tryz.prog 37 #[.string s] w fun e w' => e = .returned (.bool (userL (sb s))) ∧ Below w.heap.size w w' := by
  go_enter Tryz.func37, Tryz.ntmps37
  go_wp2_with (go_at_call 67; refine (named_user_any s _ hm hs).mono ?_; rintro e w2 ⟨rfl, hb2⟩)
  go_ret
  exact ⟨rfl, hb2⟩
end Go.Proofs.YthefddclefimoaaGreatDoor
namespace Go.Proofs.YthefddclefimoaaGreatDoor
open Go.RowKit
set_option linter.unusedVariables false
/-- The library's variable, and that no block of one's own is its. -/
def MaxL (L : List Nat) (w : World) : Prop := MaxC w ∧ 0 ∉ L
theorem MaxC.lt {w : World} (h : MaxC w) : 0 < w.heap.size := by
  obtain ⟨m, h⟩ := h
  exact World.block_lt_of_cell? w _ h
theorem MaxL.below {L : List Nat} {w w' : World} (h : MaxL L w) (hb : Below w.heap.size w w') : MaxL L w' := ⟨h.1.below hb, h.2⟩
theorem MaxL.more {L : List Nat} {w w' : World} (h : MaxL L w) (hb : Below w.heap.size w w') {B : Nat} (hB : w.heap.size ≤ B) : MaxL (B :: L) w' := ⟨h.1.below hb, fun hx => by
  have := h.1.lt
  rcases List.mem_cons.1 hx with e | e
  · omega
  · exact h.2 e⟩
theorem MaxC.at {w w' : World} (h : MaxC w) (he : w'.heap[0]? = w.heap[0]?) : MaxC w' := by
  obtain ⟨m, h⟩ := h
  exact ⟨m, by unfold World.cell? at h ⊢; simp only [he]; exact h⟩
theorem MaxL.only {L : List Nat} {w w' : World} (h : MaxL L w) {B : Nat} (ho : Only B w w') (hB : B ∈ L) : MaxL L w' := ⟨h.1.at (ho.block 0 (fun e => h.2 (e ▸ hB))), h.2⟩
theorem MaxL.grow' {L : List Nat} {B B' : Nat} {w w' : World} (h : MaxL L w) (hg : GrowB B B' w w') (hB : B ∈ L) : MaxL (B' :: L) w' := ⟨h.1.at (hg.block 0 h.1.lt (fun e => h.2 (e ▸ hB))), fun hx => by
  have := h.1.lt
  rcases List.mem_cons.1 hx with e | e
  · rcases hg.new with n | n
    · exact h.2 (by rw [e, n]; exact hB)
    · omega
  · exact h.2 e⟩
theorem MaxL.less {L L' : List Nat} {w : World} (h : MaxL L w) (hl : ∀ x, x ∈ L' → x ∈ L) : MaxL L' w := ⟨h.1, fun hx => h.2 (hl _ hx)⟩
theorem MaxL.nil {L : List Nat} {w : World} (h : MaxL L w) : MaxL [] w := ⟨h.1, by simp⟩
end Go.Proofs.YthefddclefimoaaGreatDoor
namespace Go.Proofs.YthefddclefimoaaGreatDoor
open Go.RowKit
set_option linter.unusedVariables false
set_option linter.unusedSimpArgs false
set_option maxRecDepth 8000

abbrev userB (s : ByteArray) : Bool := userL (sb s)
set_option maxHeartbeats 1000000 in
theorem namedBig_v (s : ByteArray) (w : World) (L : List Nat) (hL : LL L w)   (h : 255 < s.size) : CV Tryz.prog 67 [.string s, .int .u8 64, .int .i64 200, .func (.func 68) #[] #[]] w fun v W => v = .bool false := by
  refine cv_enter (N := 41) (f := [(0, .string s), (1, .int .u8 64), (2, .int .i64 200), (3, .func (.func 68) #[] #[])]) Tryz.func67 rfl rfl rfl rfl fun Q hQ hE => ?_
  have hB := Below.refl w.heap.size w
  refine WC.seq fun K1 hK1 => ?_
  refine WC.region ?_
  refine WL.val (dx_assign rfl rfl) rfl rfl ?_
  refine WL.nil ?_
  refine hK1 ?_
  refine WC.seq fun K2 hK2 => ?_
  refine WC.seq fun K3 hK3 => ?_
  refine WC.region ?_
  refine WL.val (dx_move rfl rfl) rfl rfl ?_
  refine WL.val (dx_lenT rfl Tryz.underlying9 rfl) rfl rfl ?_
  refine WL.val (dx_gtr rfl rfl rfl) rfl rfl ?_
  refine WL.val (dx_move rfl rfl) rfl rfl ?_
  refine WL.split 15 rfl (fun g4 => ?_) (fun g4 => ?_)
  ·
    replace g4 := of_decide_eq_true g4
    refine WL.off rfl rfl rfl ?_
    refine WL.off rfl rfl rfl ?_
    refine WL.off rfl rfl rfl ?_
    refine WL.val (dx_pick rfl rfl rfl) rfl rfl ?_
    refine WL.val (dx_move rfl rfl) rfl rfl ?_
    refine WL.off rfl rfl rfl ?_
    refine WL.off rfl rfl rfl ?_
    refine WL.off rfl rfl rfl ?_
    refine WL.off rfl rfl rfl ?_
    refine WL.val (dx_pick rfl rfl rfl) rfl rfl ?_
    refine WL.nil ?_
    refine hK3 ?_
    refine WC.condT rfl ?_
    refine WC.seq fun K5 hK5 => ?_
    refine WC.region ?_
    refine WL.val (dx_assign rfl rfl) rfl rfl ?_
    refine WL.nil ?_
    refine hK5 ?_
    refine WC.ret fun a_ ha_ => ?_
    exact hQ (cv_ret1 rfl (.tmp rfl) rfl hB ha_)
  ·
    replace g4 := of_decide_eq_false g4
    exfalso; omega

set_option maxHeartbeats 1000000 in
theorem userBig_v (s : ByteArray) (w : World) (L : List Nat) (hL : LL L w)   (h : 255 < s.size) : CV Tryz.prog 37 [.string s] w fun v W => v = .bool false := by
  refine cv_enter (N := 5) (f := [(0, .string s)]) Tryz.func37 rfl rfl rfl rfl fun Q hQ hE => ?_
  have hB := Below.refl w.heap.size w
  refine WC.seq fun K1 hK1 => ?_
  refine WC.region ?_
  refine WL.val (dx_assign rfl rfl) rfl rfl ?_
  refine WL.nil ?_
  refine hK1 ?_
  refine WC.seq fun K2 hK2 => ?_
  refine WC.region ?_
  refine WL.val (dx_move rfl rfl) rfl rfl ?_
  refine WL.get (dx_cv rfl Tryz.func67 rfl rfl rfl (namedBig_v s w [] (LL.nil _) h)) rfl rfl ?_
  rintro _ W4 ⟨rfl, b3⟩
  replace hB := below_then hB b3
  replace hL := LL.below hL b3
  refine WL.val (dx_assign rfl rfl) rfl rfl ?_
  refine WL.nil ?_
  refine hK2 ?_
  refine WC.ret fun a_ ha_ => ?_
  exact hQ (cv_ret1 rfl (.tmp rfl) rfl hB ha_)

theorem user_v (s : ByteArray) (w : World) (hm : MaxC w) : CV Tryz.prog 37 [.string s] w fun v W => v = .bool (userB s) := by
  by_cases h : 255 < s.size
  · have e : userB s = false := by
      have hl := sb_length s
      unfold userB
      rw [userL, namedL, decide_eq_false (by omega)]
      rfl
    rw [e]
    exact userBig_v s w [] (LL.nil _) h
  · exact (user_any s w hm (by omega)).mono fun e w' ⟨h1, h2⟩ => ⟨_, h1, rfl, h2⟩
end Go.Proofs.YthefddclefimoaaGreatDoor
namespace Go.Proofs.YthefddclefimoaaGreatDoor
open Go.RowKit
set_option linter.unusedVariables false
section
variable {α : Type} {g : α → Bool} {r : α → α → Bool} {n : Nat}
def upL (r : α → α → Bool) : List α → Bool
  | a :: b :: l => r a b && upL r (b :: l)
  | _ => true
def rightL (n : Nat) (g : α → Bool) (r : α → α → Bool) (xs : List α) : Bool := decide (xs.length ≤ n) && (xs.all g && upL r xs)
theorem upL_t : ∀ (xs : List α), (∀ k a b, k + 1 < xs.length → xs[k]? = some a → xs[k + 1]? = some b → r a b = true) → upL r xs = true
  | [], _ => rfl
  | [a], _ => rfl
  | a :: b :: l, h => by
    unfold upL
    rw [h 0 a b (by simp) rfl rfl, Bool.true_and]
    exact upL_t (b :: l) fun k x y hk hx hy => h (k + 1) x y (by simpa using hk) (by simpa using hx) (by simpa using hy)
theorem upL_f : ∀ (xs : List α) (k : Nat) (a b : α), xs[k]? = some a → xs[k + 1]? = some b → r a b = false → upL r xs = false
  | [], k, a, b, h, _, _ => by simp at h
  | [x], k, a, b, _, h, _ => by simp at h
  | x :: y :: l, 0, a, b, h1, h2, h => by
    simp at h1 h2
    subst h1 h2
    simp [upL, h]
  | x :: y :: l, k + 1, a, b, h1, h2, h => by
    unfold upL
    rw [upL_f (y :: l) k a b (by simpa using h1) (by simpa using h2) h, Bool.and_false]
theorem right_t {xs : List α} (h : xs.length ≤ n) (hv : ∀ k a, k < xs.length → xs[k]? = some a → g a = true) (hu : ∀ k a b, k + 1 < xs.length → xs[k]? = some a → xs[k + 1]? = some b → r a b = true) : rightL n g r xs = true := by
  unfold rightL
  rw [decide_eq_true h, upL_t xs hu, Bool.and_true, Bool.true_and, List.all_eq_true]
  intro x hx
  obtain ⟨k, hk, rfl⟩ := List.getElem_of_mem hx
  exact hv k _ hk (List.getElem?_eq_getElem hk)
theorem right_f1 {xs : List α} (h : n < xs.length) : rightL n g r xs = false := by
  unfold rightL
  rw [decide_eq_false (by omega), Bool.false_and]
theorem right_f2 {xs : List α} {k : Nat} {a : α} (h : xs[k]? = some a) (ha : g a = false) : rightL n g r xs = false := by
  have : xs.all g = false := List.all_eq_false.2 ⟨a, List.mem_of_getElem? h, by simp [ha]⟩
  unfold rightL
  rw [this, Bool.false_and, Bool.and_false]
theorem right_f3 {xs : List α} {k i : Nat} {a b : α} (hk : xs[k]? = some a) (hi : xs[i]? = some b) (e : k + 1 = i) (h : r a b = false) : rightL n g r xs = false := by
  subst e
  unfold rightL
  rw [upL_f xs k a b hk hi h, Bool.and_false, Bool.and_false]
/-- The loop's facts, one step on. -/
theorem good_step {xs : List α} {i : Nat} {a : α} (h : ∀ k a, k < i → xs[k]? = some a → g a = true) (hi : xs[i]? = some a) (ha : g a = true) : ∀ k b, k < i + 1 → xs[k]? = some b → g b = true := fun k b hk hb => by
  rcases Nat.lt_or_ge k i with hl | hl
  · exact h k b hl hb
  · obtain rfl : k = i := by omega
    rw [hi] at hb
    cases hb
    exact ha
theorem up_step0 {xs : List α} {i : Nat} (hi : ¬ 0 < i) : ∀ k a b, k + 1 < i + 1 → xs[k]? = some a → xs[k + 1]? = some b → r a b = true := fun k a b hk _ _ => by omega
theorem up_step {xs : List α} {i j : Nat} {a b : α} (h : ∀ k a b, k + 1 < i → xs[k]? = some a → xs[k + 1]? = some b → r a b = true) (hj : xs[j]? = some a) (hi : xs[i]? = some b) (e : j + 1 = i) (hab : r a b = true) : ∀ k a b, k + 1 < i + 1 → xs[k]? = some a → xs[k + 1]? = some b → r a b = true := fun k x y hk hx hy => by
  rcases Nat.lt_or_ge (k + 1) i with hl | hl
  · exact h k x y hl hx hy
  · obtain rfl : k = j := by omega
    subst e
    rw [hj] at hx
    rw [hi] at hy
    cases hx
    cases hy
    exact hab
-- what a drawn test says: c: not good; d: there is one ahead
theorem not3 {a b c x y z : Bool} (h1 : a = !x) (h2 : b = (a || !y)) (h3 : c = (b || !z)) : c = !(x && (y && z)) := by
  subst h1 h2 h3
  cases x <;> cases y <;> cases z <;> rfl
theorem stepD {xs : List α} {i : Nat} {x y : α} {c d : Bool} (hv : ∀ k a, k < i → xs[k]? = some a → g a = true) (hu : ∀ k a b, k + 1 < i → xs[k]? = some a → xs[k + 1]? = some b → r a b = true) (hj : xs[i - 1]? = some y) (hi : xs[i]? = some x) (hc : c = !g x) (hd : d = (!c && decide (0 < (i : Int)))) (h1 : c = false) (h2 : (d && !r y x) = false) :
    (∀ k a, k < i + 1 → xs[k]? = some a → g a = true) ∧ (∀ k a b, k + 1 < i + 1 → xs[k]? = some a → xs[k + 1]? = some b → r a b = true) := by
  have hg : g x = true := by rw [h1] at hc; cases hx : g x <;> simp_all
  refine ⟨good_step hv hi hg, ?_⟩
  by_cases h0 : 0 < i
  · refine up_step hu hj hi (by omega) ?_
    have hd1 : d = true := by rw [hd, h1, decide_eq_true (by omega)]; rfl
    rw [hd1] at h2
    simpa using h2
  · exact up_step0 h0
theorem right_fD {xs : List α} {i : Nat} {x y : α} {c d : Bool} (hj : xs[i - 1]? = some y) (hi : xs[i]? = some x) (hc : c = !g x) (hd : d = (!c && decide (0 < (i : Int)))) (h : (c || (d && !r y x)) = true) : rightL n g r xs = false := by
  cases hx : g x with
  | false => exact right_f2 hi hx
  | true =>
    rw [hx] at hc
    subst hc
    simp only [Bool.not_true, Bool.not_false, Bool.true_and] at hd
    subst hd
    simp only [Bool.not_true, Bool.false_or, Bool.and_eq_true, decide_eq_true_eq, Bool.not_eq_true'] at h
    exact right_f3 hj hi (by omega) h.2
-- what it means
theorem right_iff {xs : List α} (ht : ∀ a b c, r a b = true → r b c = true → r a c = true) : rightL n g r xs = true ↔ xs.length ≤ n ∧ (∀ x ∈ xs, g x = true) ∧ xs.Pairwise (fun a b => r a b = true) := by
  have key : ∀ l : List α, upL r l = true ↔ l.Pairwise (fun a b => r a b = true) := by
    intro l
    induction l with
    | nil => simp [upL]
    | cons a l ih =>
      cases l with
      | nil => simp [upL]
      | cons b l =>
        rw [upL, Bool.and_eq_true, ih]
        constructor
        · rintro ⟨h1, h2⟩
          refine List.pairwise_cons.2 ⟨fun x hx => ?_, h2⟩
          rcases List.mem_cons.1 hx with rfl | hx
          · exact h1
          · exact ht _ _ _ h1 ((List.pairwise_cons.1 h2).1 x hx)
        · intro h
          exact ⟨(List.pairwise_cons.1 h).1 b (.head _), (List.pairwise_cons.1 h).2⟩
  unfold rightL
  rw [Bool.and_eq_true, Bool.and_eq_true, decide_eq_true_iff, List.all_eq_true, key]
end
theorem right_len {α : Type} {n : Nat} {g : α → Bool} {r : α → α → Bool} {xs : List α} (h : rightL n g r xs = true) : xs.length ≤ n := by
  unfold rightL at h
  simp only [Bool.and_eq_true, decide_eq_true_eq] at h
  exact h.1
-- the first place
theorem idxX_lt {α : Type} {p : α → Bool} : ∀ (xs : List α) (i : Int), idxX p xs i = -1 ∨ (i ≤ idxX p xs i ∧ idxX p xs i < i + xs.length)
  | [], i => .inl rfl
  | x :: l, i => by
    unfold idxX
    split
    · refine .inr ⟨by omega, by simp; omega⟩
    · rcases idxX_lt l (i + 1) with h | ⟨h1, h2⟩
      · exact .inl h
      · refine .inr ⟨by omega, by simp only [List.length_cons]; omega⟩
theorem idxX_is {α : Type} {p : α → Bool} : ∀ (xs : List α) (i : Int), 0 ≤ i → 0 ≤ idxX p xs i → ∃ k a, idxX p xs i = i + (k : Nat) ∧ xs[k]? = some a ∧ p a = true ∧ ∀ j b, j < k → xs[j]? = some b → p b = false
  | [], i, _, h => by simp [idxX] at h
  | x :: l, i, hi, h => by
    unfold idxX at h ⊢
    cases hx : p x with
    | true =>
      simp only [if_pos]
      exact ⟨0, x, by simp, rfl, hx, fun j b hj => absurd hj (by omega)⟩
    | false =>
      rw [hx] at h
      simp only [Bool.false_eq_true, if_false] at h ⊢
      obtain ⟨k, a, h1, h2, h3, h4⟩ := idxX_is l (i + 1) (by omega) h
      refine ⟨k + 1, a, by rw [h1]; omega, by simpa using h2, h3, fun j b hj hb => ?_⟩
      cases j with
      | zero => simp at hb; subst hb; exact hx
      | succ j => exact h4 j b (by omega) (by simpa using hb)
theorem idxX_no {α : Type} {p : α → Bool} : ∀ (xs : List α) (i : Int), 0 ≤ i → idxX p xs i < 0 → ∀ a ∈ xs, p a = false
  | [], i, _, _, a, ha => by cases ha
  | x :: l, i, hi, h, a, ha => by
    unfold idxX at h
    cases hx : p x with
    | true => rw [hx] at h; simp at h; omega
    | false =>
      rw [hx] at h
      simp only [Bool.false_eq_true, if_false] at h
      rcases List.mem_cons.1 ha with rfl | ha
      · exact hx
      · exact idxX_no l (i + 1) (by omega) h a ha
end Go.Proofs.YthefddclefimoaaGreatDoor
namespace Go.Proofs.YthefddclefimoaaGreatDoor
open Go.RowKit
set_option linter.unusedVariables false
theorem bl_irrefl : ∀ x : List UInt8, Op.bytesLess x x = false
  | [] => rfl
  | a :: x => by
    have h : ¬ a < a := by simp
    rw [Op.bytesLess, bl_irrefl x, decide_eq_false h]; simp
theorem u8_tri (a b : UInt8) : a < b ∨ a = b ∨ b < a := by
  rcases Nat.lt_trichotomy a.toNat b.toNat with h | h | h
  · exact .inl (UInt8.lt_iff_toNat_lt.2 h)
  · exact .inr (.inl (UInt8.toNat_inj.1 h))
  · exact .inr (.inr (UInt8.lt_iff_toNat_lt.2 h))
theorem u8_no {a b : UInt8} (h : a < b) : ¬ b < a ∧ a ≠ b := by
  have := UInt8.lt_iff_toNat_lt.1 h
  constructor
  · intro g; have := UInt8.lt_iff_toNat_lt.1 g; omega
  · intro g; rw [g] at this; omega
theorem bl_tri : ∀ x y : List UInt8, (Op.bytesLess x y = true ∧ Op.bytesLess y x = false ∧ x ≠ y) ∨ (Op.bytesLess x y = false ∧ Op.bytesLess y x = true ∧ x ≠ y) ∨ x = y
  | [], [] => .inr (.inr rfl)
  | [], _ :: _ => .inl ⟨rfl, rfl, by simp⟩
  | _ :: _, [] => .inr (.inl ⟨rfl, rfl, by simp⟩)
  | a :: x, b :: y => by
    rcases u8_tri a b with h | h | h
    · obtain ⟨h1, h2⟩ := u8_no h
      exact .inl ⟨by simp [Op.bytesLess, h], by simp [Op.bytesLess, h1]; exact fun e => absurd e.symm h2, fun e => h2 (List.cons.inj e).1⟩
    · subst h
      have h0 : ¬ a < a := by simp
      rcases bl_tri x y with ⟨p, q, r⟩ | ⟨p, q, r⟩ | r
      · exact .inl ⟨by simp [Op.bytesLess, p], by simp [Op.bytesLess, h0, q], fun e => r (List.cons.inj e).2⟩
      · exact .inr (.inl ⟨by simp [Op.bytesLess, h0, p], by simp [Op.bytesLess, q], fun e => r (List.cons.inj e).2⟩)
      · exact .inr (.inr (by rw [r]))
    · obtain ⟨h1, h2⟩ := u8_no h
      exact .inr (.inl ⟨by simp [Op.bytesLess, h1]; exact fun e => absurd e.symm h2, by simp [Op.bytesLess, h], fun e => h2 (List.cons.inj e).1.symm⟩)
theorem bl_trans : ∀ x y z : List UInt8, Op.bytesLess x y = true → Op.bytesLess y z = true → Op.bytesLess x z = true
  | [], [], _, h, _ => by simp [Op.bytesLess] at h
  | _ :: _, [], _, h, _ => by simp [Op.bytesLess] at h
  | [], _ :: _, [], _, g => by simp [Op.bytesLess] at g
  | _ :: _, _ :: _, [], _, g => by simp [Op.bytesLess] at g
  | [], _ :: _, _ :: _, _, _ => rfl
  | a :: x, b :: y, c :: z, h, g => by
    have h' : a < b ∨ (a = b ∧ Op.bytesLess x y = true) := by simpa [Op.bytesLess] using h
    have g' : b < c ∨ (b = c ∧ Op.bytesLess y z = true) := by simpa [Op.bytesLess] using g
    have : a < c ∨ (a = c ∧ Op.bytesLess x z = true) := by
      rcases h' with h' | ⟨rfl, h'⟩
      · rcases g' with g' | ⟨rfl, g'⟩
        · exact .inl (UInt8.lt_iff_toNat_lt.2 (by have := UInt8.lt_iff_toNat_lt.1 h'; have := UInt8.lt_iff_toNat_lt.1 g'; omega))
        · exact .inl h'
      · rcases g' with g' | ⟨rfl, g'⟩
        · exact .inl g'
        · exact .inr ⟨rfl, bl_trans x y z h' g'⟩
    simpa [Op.bytesLess] using this
theorem toList_inj {a b : ByteArray} (h : a.toList = b.toList) : a = b := by
  rw [ByteArray.toList_eq, ByteArray.toList_eq] at h
  exact ByteArray.ext (Array.toList_inj.mp h)
theorem sless_irrefl (a : ByteArray) : sless a a = false := bl_irrefl _
theorem sless_trans (a b c : ByteArray) (h : sless a b = true) (g : sless b c = true) : sless a c = true := bl_trans _ _ _ h g
theorem sless_tri (a b : ByteArray) : (sless a b = true ∧ sless b a = false ∧ a ≠ b) ∨ (sless a b = false ∧ sless b a = true ∧ a ≠ b) ∨ a = b := by
  rcases bl_tri a.toList b.toList with ⟨p, q, r⟩ | ⟨p, q, r⟩ | r
  · exact .inl ⟨p, q, fun e => r (by rw [e])⟩
  · exact .inr (.inl ⟨p, q, fun e => r (by rw [e])⟩)
  · exact .inr (.inr (toList_inj r))
theorem sless_ne {a b : ByteArray} (h : sless a b = true) : a ≠ b := fun e => by rw [e, sless_irrefl] at h; cases h
theorem sless_asymm {a b : ByteArray} (h : sless a b = true) : sless b a = false := by
  rcases sless_tri a b with ⟨_, q, _⟩ | ⟨p, _, _⟩ | rfl
  · exact q
  · rw [p] at h; cases h
  · rw [sless_irrefl] at h; cases h
end Go.Proofs.YthefddclefimoaaGreatDoor
namespace Go.Proofs.YthefddclefimoaaGreatDoor
open Go.RowKit
set_option linter.unusedVariables false
set_option linter.unusedSimpArgs false
set_option maxRecDepth 8000

/-- A user: token, name, what was agreed to. -/
abbrev UserX := ByteArray × ByteArray × Value × List ByteArray
def encT (s : ByteArray) : List Value := [.string s]
def encU (p : UserX) : List Value := [.string p.1, .string p.2.1, p.2.2.1]
theorem oc_T (p : ByteArray) : ∀ u ∈ encT p, u.oneCell' = true := oc_cons rfl oc_nil
/-- What the users agreed to reads as it says. -/
def AgU (L : List Nat) (w : World) (xs : List UserX) : Prop := ∀ u ∈ xs, RdF 1 L w u.2.2.1 (u.2.2.2.map encT)
theorem AgU.below {L : List Nat} {w w' : World} {xs : List UserX} (h : AgU L w xs) (hb : Below w.heap.size w w') : AgU L w' xs := fun u hu => (h u hu).below hb
theorem AgU.more {L : List Nat} {w w' : World} {xs : List UserX} (h : AgU L w xs) (hb : Below w.heap.size w w') {B : Nat} (hB : w.heap.size ≤ B) : AgU (B :: L) w' xs := fun u hu => (h u hu).more hb hB
theorem AgU.only {L : List Nat} {w w' : World} {xs : List UserX} (h : AgU L w xs) {B : Nat} (ho : Only B w w') (hB : B ∈ L) : AgU L w' xs := fun u hu => (h u hu).only ho hB
theorem AgU.grow' {L : List Nat} {B B' : Nat} {w w' : World} {xs : List UserX} (h : AgU L w xs) (hg : GrowB B B' w w') (hB : B ∈ L) : AgU (B' :: L) w' xs := fun u hu => (h u hu).grow' hg hB
theorem AgU.less {L L' : List Nat} {w : World} {xs : List UserX} (h : AgU L w xs) (hl : ∀ x, x ∈ L' → x ∈ L) : AgU L' w xs := fun u hu => (h u hu).less hl
theorem AgU.sub {L : List Nat} {w : World} {xs ys : List UserX} (h : AgU L w xs) (hl : ∀ x, x ∈ ys → x ∈ xs) : AgU L w ys := fun u hu => h u (hl u hu)
theorem AgU.one {L : List Nat} {w : World} {xs : List UserX} (h : AgU L w xs) {i : Nat} {r : UserX} (hr : xs[i]? = some r) : r.2.2.1.oneCell' = true := (h r (List.mem_of_getElem? hr)).one
theorem AgU.oc {L : List Nat} {w : World} {xs : List UserX} (h : AgU L w xs) : ∀ r ∈ xs.map encU, ∀ u ∈ r, u.oneCell' = true := fun r hr => by
  obtain ⟨x, hx, rfl⟩ := List.mem_map.1 hr
  exact oc_cons rfl (oc_cons rfl (oc_cons (h x hx).one oc_nil))
abbrev risingB (ts : List ByteArray) : Bool := rightL 4 wordB sless ts
set_option maxHeartbeats 1000000 in
theorem rising_v (ts : List ByteArray) (tv : Value) (w : World) (L : List Nat) (hL : LL L w) (h3 : RdF 1 L w tv (ts.map encT)) : CV Tryz.prog 49 [tv] w fun v W => v = .bool (risingB ts) := by
  refine cv_enter (N := 32) (f := [(0, tv)]) Tryz.func49 rfl rfl rfl rfl fun Q hQ hE => ?_
  have hB := Below.refl w.heap.size w
  have h3m : ts.length ≤ maxLen := by have := h3.len; rwa [List.length_map] at this
  unfold maxLen at h3m
  refine WC.seq fun K1 hK1 => ?_
  refine WC.region ?_
  refine WL.val (dx_assign rfl rfl) rfl rfl ?_
  refine WL.nil ?_
  refine hK1 ?_
  refine WC.seq fun K2 hK2 => ?_
  refine WC.seq fun K3 hK3 => ?_
  refine WC.region ?_
  refine WL.val (dx_move rfl rfl) rfl rfl ?_
  refine WL.val (dx_lenX rfl ty_slice_34 rfl h3) rfl rfl ?_
  refine WL.val (dx_gtr rfl rfl rfl) rfl rfl ?_
  refine WL.nil ?_
  refine hK3 ?_
  refine WC.cond rfl (fun c4 => ?_) (fun c4 => ?_)
  ·
    replace c4 := of_decide_eq_true c4
    refine WC.seq fun K5 hK5 => ?_
    refine WC.region ?_
    refine WL.val (dx_assign rfl rfl) rfl rfl ?_
    refine WL.nil ?_
    refine hK5 ?_
    refine WC.ret fun a_ ha_ => ?_
    exact hQ (cv_ret1 rfl (.tmp rfl) (by rw [show risingB ts = false from right_f1 (by omega)]) hB ha_)
  ·
    replace c4 := of_decide_eq_false c4
    refine WC.skip ?_
    refine hK2 ?_
    refine WC.seq fun K6 hK6 => ?_
    refine WC.seq fun K7 hK7 => ?_
    refine WC.region ?_
    refine WL.val (dx_move rfl rfl) rfl rfl ?_
    refine WL.val (dx_lenX rfl ty_slice_34 rfl h3) rfl rfl ?_
    refine WL.val (dx_move rfl rfl) rfl rfl ?_
    refine WL.nil ?_
    refine hK7 ?_
    refine WC.block ?_
    refine WC.loop (fun (i : Nat) => [(0, tv), (8, tv), (9, .int .i64 (ts.length : Int)), (10, .int .i64 (i : Int))]) (fun (i : Nat) W => i ≤ ts.length ∧ (∀ k a, k < i → ts[k]? = some a → wordB a = true) ∧ (∀ k a b, k + 1 < i → ts[k]? = some a → ts[k + 1]? = some b → (sless) a b = true) ∧ Below w.heap.size w W ∧ LL (L) W ∧ RdF 1 (L) W tv (ts.map encT)) (fun (i : Nat) => ts.length - i) 0 (by repeat first | exact trivial | exact And.intro rfl trivial | refine And.intro rfl ?_ | refine And.intro (congrArg (fun z : Int => some (Value.int .i64 z)) (by omega)) ?_) ⟨Nat.zero_le _, (fun k a hk => by omega), (fun k a b hk => by omega), hB, hL, h3⟩ ?_
    clear h3 hB hL
    rintro K8 i W9 ⟨hi, hv, hu, hB, hL, h3⟩ hK8
    refine WC.seq fun K10 hK10 => ?_
    refine WC.region ?_
    refine WL.val (dx_lss rfl rfl rfl) rfl rfl ?_
    refine WL.nil ?_
    refine hK10 ?_
    refine WC.seq fun K11 hK11 => ?_
    refine WC.cond rfl (fun c12 => ?_) (fun c12 => ?_)
    ·
      replace c12 := of_decide_eq_true c12
      refine WC.skip ?_
      refine hK11 ?_
      refine WC.seq fun K13 hK13 => ?_
      refine WC.block ?_
      refine WC.seq fun K14 hK14 => ?_
      refine WC.region ?_
      refine WL.val (dx_move rfl rfl) rfl rfl ?_
      obtain ⟨r15, e16⟩ : ∃ x, ts[i]? = some x := ⟨_, List.getElem?_eq_getElem (by omega)⟩
      refine WL.get (dx_idxF i rfl ty_slice_34 rfl rfl h3 (by omega) (at_mapX e16)) rfl rfl ?_
      rintro u17 _ ⟨rfl, p18⟩
      refine WL.val (dx_loadP rfl ty_one_9 rfl p18) rfl rfl ?_
      refine WL.val (dx_assign rfl rfl) rfl rfl ?_
      refine WL.val (dx_assign rfl rfl) rfl rfl ?_
      refine WL.nil ?_
      refine hK14 ?_
      refine WC.seq fun K19 hK19 => ?_
      refine WC.region ?_
      refine WL.val (dx_move rfl rfl) rfl rfl ?_
      refine WL.get (dx_cv rfl Tryz.func36 rfl rfl rfl (word_v r15 W9 [] (LL.nil _))) rfl rfl ?_
      rintro _ W21 ⟨rfl, b20⟩
      replace h3 := h3.below b20
      replace hB := below_then hB b20
      replace hL := LL.below hL b20
      refine WL.val (dx_not rfl rfl) rfl rfl ?_
      refine WL.val (dx_move rfl rfl) rfl rfl ?_
      refine WL.split 18 rfl (fun g22 => ?_) (fun g22 => ?_)
      ·
        replace g22 := bnot_t g22
        refine WL.off rfl rfl rfl ?_
        refine WL.off rfl rfl rfl ?_
        refine WL.off rfl rfl rfl ?_
        refine WL.off rfl rfl rfl ?_
        refine WL.off rfl rfl rfl ?_
        refine WL.off rfl rfl rfl ?_
        refine WL.off rfl rfl rfl ?_
        refine WL.off rfl rfl rfl ?_
        refine WL.off rfl rfl rfl ?_
        refine WL.off rfl rfl rfl ?_
        refine WL.off rfl rfl rfl ?_
        refine WL.val (dx_pick rfl rfl rfl) rfl rfl ?_
        refine WL.nil ?_
        refine hK19 ?_
        refine WC.condT rfl ?_
        refine WC.seq fun K23 hK23 => ?_
        refine WC.region ?_
        refine WL.val (dx_assign rfl rfl) rfl rfl ?_
        refine WL.nil ?_
        refine hK23 ?_
        refine WC.ret fun a_ ha_ => ?_
        exact hQ (cv_ret1 rfl (.tmp rfl) (by rw [show risingB ts = false from right_f2 e16 (by simp [*])]) hB ha_)
      ·
        replace g22 := bnot_f g22
        refine WL.val (dx_move rfl rfl) rfl rfl ?_
        refine WL.val (dx_gtr rfl rfl rfl) rfl rfl ?_
        refine WL.val (dx_move rfl rfl) rfl rfl ?_
        refine WL.split 21 rfl (fun g24 => ?_) (fun g24 => ?_)
        ·
          replace g24 := of_decide_eq_true g24
          refine WL.val (dx_move rfl rfl) rfl rfl ?_
          refine WL.val (dx_move rfl rfl) rfl rfl ?_
          refine WL.val (dx_sub (r := (i : Int) - 1) rfl rfl rfl (wrap64_id (by omega))) rfl rfl ?_
          obtain ⟨r25, e26⟩ : ∃ x, ts[(i - 1)]? = some x := ⟨_, List.getElem?_eq_getElem (by omega)⟩
          refine WL.get (dx_idxF (i - 1) rfl ty_slice_34 rfl rfl h3 (by omega) (at_mapX e26)) rfl rfl ?_
          rintro u27 _ ⟨rfl, p28⟩
          refine WL.val (dx_loadP rfl ty_one_9 rfl p28) rfl rfl ?_
          refine WL.val (dx_move rfl rfl) rfl rfl ?_
          refine WL.val (dx_geqT rfl rfl rfl) rfl rfl ?_
          refine WL.val (dx_pick rfl rfl rfl) rfl rfl ?_
          refine WL.val (dx_pick rfl rfl rfl) rfl rfl ?_
          refine WL.nil ?_
          refine hK19 ?_
          refine WC.cond rfl (fun c29 => ?_) (fun c29 => ?_)
          ·
            replace c29 := bnot_t c29
            refine WC.seq fun K30 hK30 => ?_
            refine WC.region ?_
            refine WL.val (dx_assign rfl rfl) rfl rfl ?_
            refine WL.nil ?_
            refine hK30 ?_
            refine WC.ret fun a_ ha_ => ?_
            exact hQ (cv_ret1 rfl (.tmp rfl) (by rw [show risingB ts = false from right_f3 e26 e16 (by omega) (by simp [*])]) hB ha_)
          ·
            replace c29 := bnot_f c29
            refine WC.skip ?_
            refine hK13 ?_
            refine WC.region ?_
            refine WL.val (dx_add (r := (i : Int) + 1) rfl rfl rfl (wrap64_id (by omega))) rfl rfl ?_
            refine WL.val (dx_move rfl rfl) rfl rfl ?_
            refine WL.nil ?_
            exact hK8 (i + 1) ⟨(by omega), (good_step hv e16 (by assumption)), (up_step hu e26 e16 (by omega) (by first | assumption | simp [*])), hB, hL, h3⟩ (by omega) (by repeat first | exact trivial | exact And.intro rfl trivial | refine And.intro rfl ?_ | refine And.intro (congrArg (fun z : Int => some (Value.int .i64 z)) (by omega)) ?_)
        ·
          replace g24 := of_decide_eq_false g24
          refine WL.off rfl rfl rfl ?_
          refine WL.off rfl rfl rfl ?_
          refine WL.off rfl rfl rfl ?_
          refine WL.off rfl rfl rfl ?_
          refine WL.off rfl rfl rfl ?_
          refine WL.off rfl rfl rfl ?_
          refine WL.off rfl rfl rfl ?_
          refine WL.val (dx_pick rfl rfl rfl) rfl rfl ?_
          refine WL.val (dx_pick rfl rfl rfl) rfl rfl ?_
          refine WL.nil ?_
          refine hK19 ?_
          refine WC.condF rfl ?_
          refine WC.skip ?_
          refine hK13 ?_
          refine WC.region ?_
          refine WL.val (dx_add (r := (i : Int) + 1) rfl rfl rfl (wrap64_id (by omega))) rfl rfl ?_
          refine WL.val (dx_move rfl rfl) rfl rfl ?_
          refine WL.nil ?_
          exact hK8 (i + 1) ⟨(by omega), (good_step hv e16 (by assumption)), (up_step0 (by omega)), hB, hL, h3⟩ (by omega) (by repeat first | exact trivial | exact And.intro rfl trivial | refine And.intro rfl ?_ | refine And.intro (congrArg (fun z : Int => some (Value.int .i64 z)) (by omega)) ?_)
    ·
      replace c12 := of_decide_eq_false c12
      refine WC.exit ?_
      refine hK6 ?_
      refine WC.seq fun K31 hK31 => ?_
      refine WC.region ?_
      refine WL.val (dx_assign rfl rfl) rfl rfl ?_
      refine WL.nil ?_
      refine hK31 ?_
      refine WC.ret fun a_ ha_ => ?_
      exact hQ (cv_ret1 rfl (.tmp rfl) (by rw [show risingB ts = true from right_t (by omega) (fun k a hk => hv k a (by omega)) (fun k a b hk => hu k a b (by omega))]) hB ha_)

def goodU (u : UserX) : Bool := wordB u.1 && (userB u.2.1 && risingB u.2.2.2)
abbrev rightU (xs : List UserX) : Bool := rightL 16 goodU (fun a b => sless a.1 b.1) xs
set_option maxHeartbeats 1000000 in
theorem rightU_v (xs : List UserX) (sv : Value) (w : World) (L : List Nat) (hL : LL L w) (h1 : RdF 3 L w sv (xs.map encU)) (h2 : AgU L w xs) (hM : MaxL L w) : CV Tryz.prog 16 [sv] w fun v W => v = .bool (rightU xs) := by
  refine cv_enter (N := 47) (f := [(0, sv)]) Tryz.func16 rfl rfl rfl rfl fun Q hQ hE => ?_
  have hB := Below.refl w.heap.size w
  have h1m : xs.length ≤ maxLen := by have := h1.len; rwa [List.length_map] at this
  unfold maxLen at h1m
  refine WC.seq fun K1 hK1 => ?_
  refine WC.region ?_
  refine WL.val (dx_assign rfl rfl) rfl rfl ?_
  refine WL.nil ?_
  refine hK1 ?_
  refine WC.seq fun K2 hK2 => ?_
  refine WC.seq fun K3 hK3 => ?_
  refine WC.region ?_
  refine WL.val (dx_move rfl rfl) rfl rfl ?_
  refine WL.val (dx_lenX rfl ty_slice_22 rfl h1) rfl rfl ?_
  refine WL.val (dx_gtr rfl rfl rfl) rfl rfl ?_
  refine WL.nil ?_
  refine hK3 ?_
  refine WC.cond rfl (fun c4 => ?_) (fun c4 => ?_)
  ·
    replace c4 := of_decide_eq_true c4
    refine WC.seq fun K5 hK5 => ?_
    refine WC.region ?_
    refine WL.val (dx_assign rfl rfl) rfl rfl ?_
    refine WL.nil ?_
    refine hK5 ?_
    refine WC.ret fun a_ ha_ => ?_
    exact hQ (cv_ret1 rfl (.tmp rfl) (by rw [show rightU xs = false from right_f1 (by omega)]) hB ha_)
  ·
    replace c4 := of_decide_eq_false c4
    refine WC.skip ?_
    refine hK2 ?_
    refine WC.seq fun K6 hK6 => ?_
    refine WC.seq fun K7 hK7 => ?_
    refine WC.region ?_
    refine WL.val (dx_move rfl rfl) rfl rfl ?_
    refine WL.val (dx_lenX rfl ty_slice_22 rfl h1) rfl rfl ?_
    refine WL.val (dx_move rfl rfl) rfl rfl ?_
    refine WL.nil ?_
    refine hK7 ?_
    refine WC.block ?_
    refine WC.loop (fun (i : Nat) => [(0, sv), (8, sv), (9, .int .i64 (xs.length : Int)), (10, .int .i64 (i : Int))]) (fun (i : Nat) W => i ≤ xs.length ∧ (∀ k a, k < i → xs[k]? = some a → goodU a = true) ∧ (∀ k a b, k + 1 < i → xs[k]? = some a → xs[k + 1]? = some b → (fun a b => sless a.1 b.1) a b = true) ∧ Below w.heap.size w W ∧ LL (L) W ∧ RdF 3 (L) W sv (xs.map encU) ∧ AgU (L) W xs ∧ MaxL (L) W) (fun (i : Nat) => xs.length - i) 0 (by repeat first | exact trivial | exact And.intro rfl trivial | refine And.intro rfl ?_ | refine And.intro (congrArg (fun z : Int => some (Value.int .i64 z)) (by omega)) ?_) ⟨Nat.zero_le _, (fun k a hk => by omega), (fun k a b hk => by omega), hB, hL, h1, h2, hM⟩ ?_
    clear h1 h2 hM hB hL
    rintro K8 i W9 ⟨hi, hv, hu, hB, hL, h1, h2, hM⟩ hK8
    refine WC.seq fun K10 hK10 => ?_
    refine WC.region ?_
    refine WL.val (dx_lss rfl rfl rfl) rfl rfl ?_
    refine WL.nil ?_
    refine hK10 ?_
    refine WC.seq fun K11 hK11 => ?_
    refine WC.cond rfl (fun c12 => ?_) (fun c12 => ?_)
    ·
      replace c12 := of_decide_eq_true c12
      refine WC.skip ?_
      refine hK11 ?_
      refine WC.seq fun K13 hK13 => ?_
      refine WC.block ?_
      refine WC.seq fun K14 hK14 => ?_
      refine WC.region ?_
      refine WL.val (dx_move rfl rfl) rfl rfl ?_
      obtain ⟨r15, e16⟩ : ∃ x, xs[i]? = some x := ⟨_, List.getElem?_eq_getElem (by omega)⟩
      refine WL.get (dx_idxF i rfl ty_slice_22 rfl rfl h1 (by omega) (at_mapX e16)) rfl rfl ?_
      rintro u17 _ ⟨rfl, p18⟩
      refine WL.val (dx_loadPN rfl ty_agg_54_3 rfl p18 rfl) rfl rfl ?_
      refine WL.get (dx_alloc rfl ty_zero_54 rfl) rfl rfl ?_
      rintro _ W19 ⟨rfl, k20, b21, z22⟩
      have l23 := hB.size
      replace h1 := h1.more b21 (Nat.le_refl _)
      replace h2 := h2.more b21 (Nat.le_refl _)
      replace hM := hM.more b21 (Nat.le_refl _)
      replace p18 := p18.more b21 (Nat.le_refl _)
      replace hB := below_then hB b21
      replace hL := LL.more hL z22
      refine WL.val (dx_assign rfl rfl) rfl rfl ?_
      refine WL.do (dx_store (cs' := [.string r15.1, .string r15.2.1, r15.2.2.1]) (vs := [.string r15.1, .string r15.2.1, r15.2.2.1]) rfl ty_size_54_3 rfl rfl rfl (oc_cons rfl (oc_cons rfl (oc_cons (h2.one e16) oc_nil))) k20 rfl (Nat.le_of_ble_eq_true rfl) rfl) rfl ?_
      rintro _ W24 ⟨k26, o25⟩
      clear k20
      replace h1 := h1.only o25 (.head _)
      replace h2 := h2.only o25 (.head _)
      replace hM := hM.only o25 (.head _)
      replace p18 := p18.only o25 (.head _)
      replace hB := o25.below hB l23
      replace hL := LL.only hL o25
      refine WL.nil ?_
      refine hK14 ?_
      refine WC.seq fun K27 hK27 => ?_
      obtain ⟨b28, hb28⟩ : ∃ b, b = (!(wordB r15.1)) := ⟨_, rfl⟩
      obtain ⟨b29, hb29⟩ : ∃ b, b = (b28 || (!(userB r15.2.1))) := ⟨_, rfl⟩
      obtain ⟨b30, hb30⟩ : ∃ b, b = (b29 || (!(risingB r15.2.2.2))) := ⟨_, rfl⟩
      obtain ⟨b31, hb31⟩ : ∃ b, b = ((!b30) && (decide (0 < (i : Int)))) := ⟨_, rfl⟩
      obtain ⟨r32, e33⟩ : ∃ x, xs[(i - 1)]? = some x := ⟨_, List.getElem?_eq_getElem (by omega)⟩
      refine WC.drawM 31 [(some 15, .is (.pointer (some ⟨W9.heap.size, 0, none⟩))), (some 16, .is (.string r15.1)), (some 17, .is (.bool (wordB r15.1))), (some 18, .is (.bool (!(wordB r15.1)))), (some 19, .is (.bool b28)), (some 20, .is (bif b28 then undef else .pointer (some ⟨W9.heap.size, 1, none⟩))), (some 21, .is (bif b28 then undef else .string r15.2.1)), (some 22, .is (bif b28 then undef else .bool (userB r15.2.1))), (some 23, .is (bif b28 then undef else .bool (!(userB r15.2.1)))), (some 24, .is (.bool (b28 || (!(userB r15.2.1))))), (some 25, .is (.bool b29)), (some 26, .is (bif b29 then undef else .pointer (some ⟨W9.heap.size, 2, none⟩))), (some 27, .is (bif b29 then undef else r15.2.2.1)), (some 28, .is (bif b29 then undef else .bool (risingB r15.2.2.2))), (some 29, .is (bif b29 then undef else .bool (!(risingB r15.2.2.2)))), (some 30, .is (.bool (b29 || (!(risingB r15.2.2.2))))), (some 31, .is (.bool b30)), (some 32, .is (bif b30 then undef else .int .i64 (i : Int))), (some 33, .is (bif b30 then undef else .bool (decide (0 < (i : Int))))), (some 34, .is (bif b30 then undef else .bool b31)), (some 35, .is (bif b31 then sv else undef)), (some 36, .is (bif b31 then .int .i64 (i : Int) else undef)), (some 37, .is (bif b31 then .int .i64 ((i : Int) - 1) else undef)), (some 38, .by fun u W => b31 = true → PtR (W9.heap.size :: L) W u [.string r32.1, .string r32.2.1, r32.2.2.1]), (some 39, .by fun u W => b31 = true → PtR (W9.heap.size :: L) W u [.string r32.1]), (some 40, .is (bif b31 then .string r32.1 else undef)), (some 41, .is (bif b31 then .pointer (some ⟨W9.heap.size, 0, none⟩) else undef)), (some 42, .is (bif b31 then .string r15.1 else undef)), (some 43, .is (bif b31 then .bool (!(sless r32.1 r15.1)) else undef)), (some 44, .is (bif b30 then undef else .bool (b31 && (!(sless r32.1 r15.1))))), (some 45, .is (.bool (b30 || (b31 && (!(sless r32.1 r15.1))))))] [[], [0], [1], [2], [3, 2], [4], [5, 4], [6, 4, 4], [7, 4], [4, 8], [9, 7], [10], [11, 10], [12, 10, 10], [13, 10], [10, 14], [15, 13], [16], [17, 16], [18, 16, 16], [19], [19], [21, 19], [20, 22, 19], [23, 19], [24, 19], [19], [26, 19], [25, 27, 19], [19, 28, 16], [16, 29]] (by kernel_rfl) (by kernel_rfl) (by kernel_rfl) (by kernel_rfl) (by kernel_rfl) (by kernel_rfl) (by kernel_rfl) ⟨fun _ _ _ hb h g => (h g).below hb, fun _ _ _ hb h g => (h g).below hb, trivial⟩ ?_ ?_
      ·
        refine DSteps.cons (fun Wd hd => ?_) ?_
        ·
          exact DV.dr (dx_fld (o1 := 0) rfl ty_fld_54_0_0 rfl rfl) ⟨Below.refl _ _, rfl⟩
        refine DSteps.cons (fun Wd hd => ?_) ?_
        ·
          have k26 := k26.below hd
          exact DV.dr (dx_load rfl ty_one_9 rfl (k26.cell (k := 0) rfl)) ⟨Below.refl _ _, rfl⟩
        refine DSteps.cons (fun Wd hd => ?_) ?_
        ·
          exact DR.mono (dx_cv rfl Tryz.func36 rfl rfl rfl (word_v r15.1 Wd [] (LL.nil _))) (fun v W' ⟨h, hb⟩ => ⟨hb, (by rw [h]; exact rfl)⟩)
        refine DSteps.cons (fun Wd hd => ?_) ?_
        ·
          exact DV.dr (dx_not rfl rfl) ⟨Below.refl _ _, rfl⟩
        refine DSteps.cons (fun Wd hd => ?_) ?_
        ·
          exact DV.dr (dx_move rfl rfl) ⟨Below.refl _ _, by rw [hb28]; rfl⟩
        refine DSteps.cons (fun Wd hd => ?_) ?_
        ·
          cases b28
          ·
            exact DV.dr (dx_fld (o1 := 1) rfl ty_fld_54_1_1 rfl rfl) ⟨Below.refl _ _, rfl⟩
          ·
            exact DV.dr (dv_off rfl) ⟨Below.refl _ _, rfl⟩
        refine DSteps.cons (fun Wd hd => ?_) ?_
        ·
          cases b28
          ·
            have k26 := k26.below hd
            exact DV.dr (dx_load rfl ty_one_9 rfl (k26.cell (k := 1) rfl)) ⟨Below.refl _ _, rfl⟩
          ·
            exact DV.dr (dv_off rfl) ⟨Below.refl _ _, rfl⟩
        refine DSteps.cons (fun Wd hd => ?_) ?_
        ·
          cases b28
          ·
            have hM := hM.below hd
            exact DR.mono (dx_cv rfl Tryz.func37 rfl rfl rfl (user_v r15.2.1 Wd hM.1)) (fun v W' ⟨h, hb⟩ => ⟨hb, (by rw [h]; exact rfl)⟩)
          ·
            exact DV.dr (dv_off rfl) ⟨Below.refl _ _, rfl⟩
        refine DSteps.cons (fun Wd hd => ?_) ?_
        ·
          cases b28
          ·
            exact DV.dr (dx_not rfl rfl) ⟨Below.refl _ _, rfl⟩
          ·
            exact DV.dr (dv_off rfl) ⟨Below.refl _ _, rfl⟩
        refine DSteps.cons (fun Wd hd => ?_) ?_
        ·
          cases b28
          ·
            exact DV.dr (dx_pick rfl rfl rfl) ⟨Below.refl _ _, rfl⟩
          ·
            exact DV.dr (dx_pick rfl rfl rfl) ⟨Below.refl _ _, rfl⟩
        refine DSteps.cons (fun Wd hd => ?_) ?_
        ·
          exact DV.dr (dx_move rfl rfl) ⟨Below.refl _ _, by rw [hb29]; rfl⟩
        refine DSteps.cons (fun Wd hd => ?_) ?_
        ·
          cases b29
          ·
            exact DV.dr (dx_fld (o1 := 2) rfl ty_fld_54_2_2 rfl rfl) ⟨Below.refl _ _, rfl⟩
          ·
            exact DV.dr (dv_off rfl) ⟨Below.refl _ _, rfl⟩
        refine DSteps.cons (fun Wd hd => ?_) ?_
        ·
          cases b29
          ·
            have k26 := k26.below hd
            exact DV.dr (dx_load rfl ty_one_34 rfl (k26.cell (k := 2) rfl)) ⟨Below.refl _ _, rfl⟩
          ·
            exact DV.dr (dv_off rfl) ⟨Below.refl _ _, rfl⟩
        refine DSteps.cons (fun Wd hd => ?_) ?_
        ·
          cases b29
          ·
            have h2 := h2.below hd
            exact DR.mono (dx_cv rfl Tryz.func49 rfl rfl rfl (rising_v r15.2.2.2 _ Wd [] (LL.nil _) ((h2 r15 (List.mem_of_getElem? e16)).less (by simp)))) (fun v W' ⟨h, hb⟩ => ⟨hb, (by rw [h]; exact rfl)⟩)
          ·
            exact DV.dr (dv_off rfl) ⟨Below.refl _ _, rfl⟩
        refine DSteps.cons (fun Wd hd => ?_) ?_
        ·
          cases b29
          ·
            exact DV.dr (dx_not rfl rfl) ⟨Below.refl _ _, rfl⟩
          ·
            exact DV.dr (dv_off rfl) ⟨Below.refl _ _, rfl⟩
        refine DSteps.cons (fun Wd hd => ?_) ?_
        ·
          cases b29
          ·
            exact DV.dr (dx_pick rfl rfl rfl) ⟨Below.refl _ _, rfl⟩
          ·
            exact DV.dr (dx_pick rfl rfl rfl) ⟨Below.refl _ _, rfl⟩
        refine DSteps.cons (fun Wd hd => ?_) ?_
        ·
          exact DV.dr (dx_move rfl rfl) ⟨Below.refl _ _, by rw [hb30]; rfl⟩
        refine DSteps.cons (fun Wd hd => ?_) ?_
        ·
          cases b30
          ·
            exact DV.dr (dx_move rfl rfl) ⟨Below.refl _ _, rfl⟩
          ·
            exact DV.dr (dv_off rfl) ⟨Below.refl _ _, rfl⟩
        refine DSteps.cons (fun Wd hd => ?_) ?_
        ·
          cases b30
          ·
            exact DV.dr (dx_gtr rfl rfl rfl) ⟨Below.refl _ _, rfl⟩
          ·
            exact DV.dr (dv_off rfl) ⟨Below.refl _ _, rfl⟩
        refine DSteps.cons (fun Wd hd => ?_) ?_
        ·
          cases b30
          ·
            exact DV.dr (dx_move rfl rfl) ⟨Below.refl _ _, by rw [hb31]; rfl⟩
          ·
            exact DV.dr (dv_off rfl) ⟨Below.refl _ _, by rw [hb31]; rfl⟩
        refine DSteps.cons (fun Wd hd => ?_) ?_
        ·
          cases b30
          ·
            cases b31
            ·
              exact DV.dr (dv_off rfl) ⟨Below.refl _ _, rfl⟩
            ·
              exact DV.dr (dx_move rfl rfl) ⟨Below.refl _ _, rfl⟩
          ·
            cases b31
            ·
              exact DV.dr (dv_off rfl) ⟨Below.refl _ _, rfl⟩
            ·
              exact absurd hb31 (by simp)
        refine DSteps.cons (fun Wd hd => ?_) ?_
        ·
          cases b30
          ·
            cases b31
            ·
              exact DV.dr (dv_off rfl) ⟨Below.refl _ _, rfl⟩
            ·
              exact DV.dr (dx_move rfl rfl) ⟨Below.refl _ _, rfl⟩
          ·
            cases b31
            ·
              exact DV.dr (dv_off rfl) ⟨Below.refl _ _, rfl⟩
            ·
              exact absurd hb31 (by simp)
        refine DSteps.cons (fun Wd hd => ?_) ?_
        ·
          cases b30
          ·
            cases b31
            ·
              exact DV.dr (dv_off rfl) ⟨Below.refl _ _, rfl⟩
            ·
              exact DV.dr (dx_sub (r := (i : Int) - 1) rfl rfl rfl (wrap64_id (by omega))) ⟨Below.refl _ _, rfl⟩
          ·
            cases b31
            ·
              exact DV.dr (dv_off rfl) ⟨Below.refl _ _, rfl⟩
            ·
              exact absurd hb31 (by simp)
        refine DSteps.cons (fun Wd hd => ?_) ?_
        ·
          cases b30
          ·
            cases b31
            ·
              exact DV.dr (dv_off rfl) ⟨Below.refl _ _, fun h => by cases h⟩
            ·
              have h1 := h1.below hd
              exact (dx_idxF (i - 1) rfl ty_slice_22 rfl rfl h1 (by first | omega | (have hq_ := of_decide_eq_true hb31.symm; omega)) (at_mapX e33)).mono (fun v W' h => ⟨by rw [← h.1]; exact Below.refl _ _, fun _ => by rw [← h.1]; exact h.2⟩)
          ·
            cases b31
            ·
              exact DV.dr (dv_off rfl) ⟨Below.refl _ _, fun h => by cases h⟩
            ·
              exact absurd hb31 (by simp)
        refine DSteps.cons (fun Wd hd => ?_) ?_
        ·
          intro u6_23 p6_23
          cases b30
          ·
            cases b31
            ·
              exact DV.dr (dv_off rfl) ⟨Below.refl _ _, fun h => by cases h⟩
            ·
              replace p6_23 := p6_23 rfl
              exact (dx_fldP 1 rfl ty_fld_54_0_0 rfl p6_23 (cs' := [.string r32.1]) rfl (Nat.succ_pos _)).mono (fun v W' h => ⟨by rw [← h.1]; exact Below.refl _ _, fun _ => by rw [← h.1]; exact h.2⟩)
          ·
            cases b31
            ·
              exact DV.dr (dv_off rfl) ⟨Below.refl _ _, fun h => by cases h⟩
            ·
              replace p6_23 := p6_23 rfl
              exact absurd hb31 (by simp)
        refine DSteps.cons (fun Wd hd => ?_) ?_
        ·
          intro u6_24 p6_24
          cases b30
          ·
            cases b31
            ·
              exact DV.dr (dv_off rfl) ⟨Below.refl _ _, rfl⟩
            ·
              replace p6_24 := p6_24 rfl
              exact DV.dr (dx_loadP rfl ty_one_9 rfl p6_24) ⟨Below.refl _ _, rfl⟩
          ·
            cases b31
            ·
              exact DV.dr (dv_off rfl) ⟨Below.refl _ _, rfl⟩
            ·
              replace p6_24 := p6_24 rfl
              exact absurd hb31 (by simp)
        refine DSteps.cons (fun Wd hd => ?_) ?_
        ·
          cases b30
          ·
            cases b31
            ·
              exact DV.dr (dv_off rfl) ⟨Below.refl _ _, rfl⟩
            ·
              exact DV.dr (dx_fld (o1 := 0) rfl ty_fld_54_0_0 rfl rfl) ⟨Below.refl _ _, rfl⟩
          ·
            cases b31
            ·
              exact DV.dr (dv_off rfl) ⟨Below.refl _ _, rfl⟩
            ·
              exact absurd hb31 (by simp)
        refine DSteps.cons (fun Wd hd => ?_) ?_
        ·
          cases b30
          ·
            cases b31
            ·
              exact DV.dr (dv_off rfl) ⟨Below.refl _ _, rfl⟩
            ·
              have k26 := k26.below hd
              exact DV.dr (dx_load rfl ty_one_9 rfl (k26.cell (k := 0) rfl)) ⟨Below.refl _ _, rfl⟩
          ·
            cases b31
            ·
              exact DV.dr (dv_off rfl) ⟨Below.refl _ _, rfl⟩
            ·
              exact absurd hb31 (by simp)
        refine DSteps.cons (fun Wd hd => ?_) ?_
        ·
          cases b30
          ·
            cases b31
            ·
              exact DV.dr (dv_off rfl) ⟨Below.refl _ _, rfl⟩
            ·
              exact DV.dr (dx_geqT rfl rfl rfl) ⟨Below.refl _ _, rfl⟩
          ·
            cases b31
            ·
              exact DV.dr (dv_off rfl) ⟨Below.refl _ _, rfl⟩
            ·
              exact absurd hb31 (by simp)
        refine DSteps.cons (fun Wd hd => ?_) ?_
        ·
          cases b30
          ·
            cases b31
            ·
              exact DV.dr (dx_pick rfl rfl rfl) ⟨Below.refl _ _, rfl⟩
            ·
              exact DV.dr (dx_pick rfl rfl rfl) ⟨Below.refl _ _, rfl⟩
          ·
            cases b31
            ·
              exact DV.dr (dv_off rfl) ⟨Below.refl _ _, rfl⟩
            ·
              exact absurd hb31 (by simp)
        refine DSteps.cons (fun Wd hd => ?_) ?_
        ·
          cases b30
          ·
            exact DV.dr (dx_pick rfl rfl rfl) ⟨Below.refl _ _, rfl⟩
          ·
            exact DV.dr (dx_pick rfl rfl rfl) ⟨Below.refl _ _, rfl⟩
        exact trivial
      ·
        intro W34 b35
        intro _ _
        intro _ _
        replace h1 := h1.below b35
        replace h2 := h2.below b35
        replace hM := hM.below b35
        replace k26 := k26.below b35
        replace hB := below_then hB b35
        replace hL := LL.below hL b35
        refine WL.nil ?_
        refine hK27 ?_
        refine WC.cond rfl (fun c36 => ?_) (fun c36 => ?_)
        ·
          refine WC.seq fun K37 hK37 => ?_
          refine WC.region ?_
          refine WL.val (dx_assign rfl rfl) rfl rfl ?_
          refine WL.nil ?_
          refine hK37 ?_
          refine WC.ret fun a_ ha_ => ?_
          exact hQ (cv_ret1 rfl (.tmp rfl) (by rw [show rightU xs = false from right_fD (g := goodU) (r := (fun a b => sless a.1 b.1)) e33 e16 (not3 hb28 hb29 hb30) hb31 c36]) hB ha_)
        ·
          obtain ⟨g38, g39⟩ := bor_f c36
          refine WC.skip ?_
          refine hK13 ?_
          refine WC.region ?_
          refine WL.val (dx_add (r := (i : Int) + 1) rfl rfl rfl (wrap64_id (by omega))) rfl rfl ?_
          refine WL.val (dx_move rfl rfl) rfl rfl ?_
          refine WL.nil ?_
          obtain ⟨hv', hu'⟩ := stepD (g := goodU) (r := (fun a b => sless a.1 b.1)) hv hu e33 e16 (not3 hb28 hb29 hb30) hb31 g38 g39
          replace hL := hL.less (fun x hx => (.tail _ hx))
          replace h1 := h1.less (fun x hx => (.tail _ hx))
          replace h2 := h2.less (fun x hx => (.tail _ hx))
          replace hM := hM.less (fun x hx => (.tail _ hx))
          exact hK8 (i + 1) ⟨(by omega), hv', hu', hB, hL, h1, h2, hM⟩ (by omega) (by repeat first | exact trivial | exact And.intro rfl trivial | refine And.intro rfl ?_ | refine And.intro (congrArg (fun z : Int => some (Value.int .i64 z)) (by omega)) ?_)
    ·
      replace c12 := of_decide_eq_false c12
      refine WC.exit ?_
      refine hK6 ?_
      refine WC.seq fun K40 hK40 => ?_
      refine WC.region ?_
      refine WL.val (dx_assign rfl rfl) rfl rfl ?_
      refine WL.nil ?_
      refine hK40 ?_
      refine WC.ret fun a_ ha_ => ?_
      exact hQ (cv_ret1 rfl (.tmp rfl) (by rw [show rightU xs = true from right_t (by omega) (fun k a hk => hv k a (by omega)) (fun k a b hk => hu k a b (by omega))]) hB ha_)

end Go.Proofs.YthefddclefimoaaGreatDoor
namespace Go.Proofs.YthefddclefimoaaGreatDoor
open Go.RowKit
set_option linter.unusedVariables false
set_option linter.unusedSimpArgs false
set_option maxRecDepth 8000

set_option maxHeartbeats 1000000 in
theorem indexFuncU_v (xs : List (UserX)) (p : UserX → Bool) (sv g : Value) (w : World) (L : List Nat) (hL : LL L w) (h1 : RdF 3 L w sv (xs.map encU))  (hg : ∀ W, Below w.heap.size w W → ∀ x ∈ xs, FV Tryz.prog g [.agg (encU x).toArray] W fun v _ => v = .bool (p x)) : CV Tryz.prog 40 [sv, g] w fun v W => v = .int .i64 (idxX p xs 0) := by
  refine cv_enter (N := 19) (f := [(0, sv), (1, g)]) Tryz.func40 rfl rfl rfl rfl fun Q hQ hE => ?_
  have hB := Below.refl w.heap.size w
  have h1m : xs.length ≤ maxLen := by have := h1.len; rwa [List.length_map] at this
  unfold maxLen at h1m
  refine WC.seq fun K1 hK1 => ?_
  refine WC.region ?_
  refine WL.val (dx_assign rfl rfl) rfl rfl ?_
  refine WL.nil ?_
  refine hK1 ?_
  refine WC.seq fun K2 hK2 => ?_
  refine WC.seq fun K3 hK3 => ?_
  refine WC.region ?_
  refine WL.val (dx_move rfl rfl) rfl rfl ?_
  refine WL.val (dx_lenX rfl ty_slice_22 rfl h1) rfl rfl ?_
  refine WL.val (dx_move rfl rfl) rfl rfl ?_
  refine WL.nil ?_
  refine hK3 ?_
  refine WC.block ?_
  refine WC.loop (fun (i : Nat) => [(0, sv), (1, g), (7, .int .i64 (xs.length : Int)), (8, .int .i64 (i : Int))]) (fun (i : Nat) W => i ≤ xs.length ∧ idxX p xs 0 = idxX p (xs.drop i) i ∧ Below w.heap.size w W ∧ LL (L) W ∧ RdF 3 (L) W sv (xs.map encU)) (fun (i : Nat) => xs.length - i) 0 (by repeat first | exact trivial | exact And.intro rfl trivial | refine And.intro rfl ?_ | refine And.intro (congrArg (fun z : Int => some (Value.int .i64 z)) (by omega)) ?_) ⟨Nat.zero_le _, rfl, hB, hL, h1⟩ ?_
  clear h1 hB hL
  rintro K4 i W5 ⟨hi, hv, hB, hL, h1⟩ hK4
  refine WC.seq fun K6 hK6 => ?_
  refine WC.region ?_
  refine WL.val (dx_lss rfl rfl rfl) rfl rfl ?_
  refine WL.nil ?_
  refine hK6 ?_
  refine WC.seq fun K7 hK7 => ?_
  refine WC.cond rfl (fun c8 => ?_) (fun c8 => ?_)
  ·
    replace c8 := of_decide_eq_true c8
    refine WC.skip ?_
    refine hK7 ?_
    refine WC.seq fun K9 hK9 => ?_
    refine WC.block ?_
    refine WC.seq fun K10 hK10 => ?_
    refine WC.region ?_
    refine WL.val (dx_move rfl rfl) rfl rfl ?_
    refine WL.val (dx_assign rfl rfl) rfl rfl ?_
    refine WL.nil ?_
    refine hK10 ?_
    refine WC.seq fun K11 hK11 => ?_
    refine WC.region ?_
    refine WL.val (dx_move rfl rfl) rfl rfl ?_
    refine WL.val (dx_move rfl rfl) rfl rfl ?_
    refine WL.val (dx_move rfl rfl) rfl rfl ?_
    obtain ⟨r12, e13⟩ : ∃ x, xs[i]? = some x := ⟨_, List.getElem?_eq_getElem (by omega)⟩
    refine WL.get (dx_idxF i rfl ty_slice_22 rfl rfl h1 (by omega) (at_mapX e13)) rfl rfl ?_
    rintro u14 _ ⟨rfl, p15⟩
    refine WL.val (dx_loadPN rfl ty_agg_54_3 rfl p15 rfl) rfl rfl ?_
    refine WL.get (dx_fv rfl rfl rfl (hg _ hB r12 (List.mem_of_getElem? e13))) rfl rfl ?_
    rintro _ W17 ⟨rfl, b16⟩
    replace h1 := h1.below b16
    replace p15 := p15.below b16
    replace hB := below_then hB b16
    replace hL := LL.below hL b16
    refine WL.nil ?_
    refine hK11 ?_
    refine WC.cond rfl (fun c18 => ?_) (fun c18 => ?_)
    ·
      refine WC.seq fun K19 hK19 => ?_
      refine WC.region ?_
      refine WL.val (dx_move rfl rfl) rfl rfl ?_
      refine WL.val (dx_assign rfl rfl) rfl rfl ?_
      refine WL.nil ?_
      refine hK19 ?_
      refine WC.ret fun a_ ha_ => ?_
      exact hQ (cv_ret1 rfl (.tmp rfl) (by rw [hv, idxX_here e13 (by assumption)]) hB ha_)
    ·
      refine WC.skip ?_
      refine hK9 ?_
      refine WC.region ?_
      refine WL.val (dx_add (r := (i : Int) + 1) rfl rfl rfl (wrap64_id (by omega))) rfl rfl ?_
      refine WL.val (dx_move rfl rfl) rfl rfl ?_
      refine WL.nil ?_
      exact hK4 (i + 1) ⟨(by omega), (by rw [hv]; exact idxX_step e13 (by assumption)), hB, hL, h1⟩ (by omega) (by repeat first | exact trivial | exact And.intro rfl trivial | refine And.intro rfl ?_ | refine And.intro (congrArg (fun z : Int => some (Value.int .i64 z)) (by omega)) ?_)
  ·
    replace c8 := of_decide_eq_false c8
    refine WC.exit ?_
    refine hK2 ?_
    refine WC.seq fun K20 hK20 => ?_
    refine WC.region ?_
    refine WL.val (dx_assign rfl rfl) rfl rfl ?_
    refine WL.nil ?_
    refine hK20 ?_
    refine WC.ret fun a_ ha_ => ?_
    exact hQ (cv_ret1 rfl (.tmp rfl) (by rw [hv, idxX_end (by omega)]) hB ha_)

set_option maxHeartbeats 1000000 in
theorem containsFuncU_v (xs : List (UserX)) (p : UserX → Bool) (sv g : Value) (w : World) (L : List Nat) (hL : LL L w) (h1 : RdF 3 L w sv (xs.map encU))  (hg : ∀ W, Below w.heap.size w W → ∀ x ∈ xs, FV Tryz.prog g [.agg (encU x).toArray] W fun v _ => v = .bool (p x)) : CV Tryz.prog 38 [sv, g] w fun v W => v = .bool (xs.any p) := by
  refine cv_enter (N := 9) (f := [(0, sv), (1, g)]) Tryz.func38 rfl rfl rfl rfl fun Q hQ hE => ?_
  have hB := Below.refl w.heap.size w
  have h1m : xs.length ≤ maxLen := by have := h1.len; rwa [List.length_map] at this
  unfold maxLen at h1m
  refine WC.seq fun K1 hK1 => ?_
  refine WC.region ?_
  refine WL.val (dx_assign rfl rfl) rfl rfl ?_
  refine WL.nil ?_
  refine hK1 ?_
  refine WC.seq fun K2 hK2 => ?_
  refine WC.region ?_
  refine WL.val (dx_move rfl rfl) rfl rfl ?_
  refine WL.val (dx_move rfl rfl) rfl rfl ?_
  refine WL.get (dx_cv rfl Tryz.func40 rfl rfl rfl (indexFuncU_v xs p _ _ w L (by first | exact hL | exact LL.below hL hB) h1 (fun W hW => hg W (below_then hB hW)))) rfl rfl ?_
  rintro _ W4 ⟨rfl, b3⟩
  replace h1 := h1.below b3
  replace hB := below_then hB b3
  replace hL := LL.below hL b3
  refine WL.val (dx_geq rfl rfl rfl) rfl rfl ?_
  refine WL.val (dx_assign rfl rfl) rfl rfl ?_
  refine WL.nil ?_
  refine hK2 ?_
  refine WC.ret fun a_ ha_ => ?_
  exact hQ (cv_ret1 rfl (.tmp rfl) (by rw [idxX_any xs 0 (by omega)]) hB ha_)

set_option maxHeartbeats 1000000 in
theorem indexFuncT_v (xs : List (ByteArray)) (p : ByteArray → Bool) (sv g : Value) (w : World) (L : List Nat) (hL : LL L w) (h1 : RdF 1 L w sv (xs.map encT))  (hg : ∀ W, Below w.heap.size w W → ∀ x ∈ xs, FV Tryz.prog g [.string x] W fun v _ => v = .bool (p x)) : CV Tryz.prog 78 [sv, g] w fun v W => v = .int .i64 (idxX p xs 0) := by
  refine cv_enter (N := 19) (f := [(0, sv), (1, g)]) Tryz.func78 rfl rfl rfl rfl fun Q hQ hE => ?_
  have hB := Below.refl w.heap.size w
  have h1m : xs.length ≤ maxLen := by have := h1.len; rwa [List.length_map] at this
  unfold maxLen at h1m
  refine WC.seq fun K1 hK1 => ?_
  refine WC.region ?_
  refine WL.val (dx_assign rfl rfl) rfl rfl ?_
  refine WL.nil ?_
  refine hK1 ?_
  refine WC.seq fun K2 hK2 => ?_
  refine WC.seq fun K3 hK3 => ?_
  refine WC.region ?_
  refine WL.val (dx_move rfl rfl) rfl rfl ?_
  refine WL.val (dx_lenX rfl ty_slice_34 rfl h1) rfl rfl ?_
  refine WL.val (dx_move rfl rfl) rfl rfl ?_
  refine WL.nil ?_
  refine hK3 ?_
  refine WC.block ?_
  refine WC.loop (fun (i : Nat) => [(0, sv), (1, g), (7, .int .i64 (xs.length : Int)), (8, .int .i64 (i : Int))]) (fun (i : Nat) W => i ≤ xs.length ∧ idxX p xs 0 = idxX p (xs.drop i) i ∧ Below w.heap.size w W ∧ LL (L) W ∧ RdF 1 (L) W sv (xs.map encT)) (fun (i : Nat) => xs.length - i) 0 (by repeat first | exact trivial | exact And.intro rfl trivial | refine And.intro rfl ?_ | refine And.intro (congrArg (fun z : Int => some (Value.int .i64 z)) (by omega)) ?_) ⟨Nat.zero_le _, rfl, hB, hL, h1⟩ ?_
  clear h1 hB hL
  rintro K4 i W5 ⟨hi, hv, hB, hL, h1⟩ hK4
  refine WC.seq fun K6 hK6 => ?_
  refine WC.region ?_
  refine WL.val (dx_lss rfl rfl rfl) rfl rfl ?_
  refine WL.nil ?_
  refine hK6 ?_
  refine WC.seq fun K7 hK7 => ?_
  refine WC.cond rfl (fun c8 => ?_) (fun c8 => ?_)
  ·
    replace c8 := of_decide_eq_true c8
    refine WC.skip ?_
    refine hK7 ?_
    refine WC.seq fun K9 hK9 => ?_
    refine WC.block ?_
    refine WC.seq fun K10 hK10 => ?_
    refine WC.region ?_
    refine WL.val (dx_move rfl rfl) rfl rfl ?_
    refine WL.val (dx_assign rfl rfl) rfl rfl ?_
    refine WL.nil ?_
    refine hK10 ?_
    refine WC.seq fun K11 hK11 => ?_
    refine WC.region ?_
    refine WL.val (dx_move rfl rfl) rfl rfl ?_
    refine WL.val (dx_move rfl rfl) rfl rfl ?_
    refine WL.val (dx_move rfl rfl) rfl rfl ?_
    obtain ⟨r12, e13⟩ : ∃ x, xs[i]? = some x := ⟨_, List.getElem?_eq_getElem (by omega)⟩
    refine WL.get (dx_idxF i rfl ty_slice_34 rfl rfl h1 (by omega) (at_mapX e13)) rfl rfl ?_
    rintro u14 _ ⟨rfl, p15⟩
    refine WL.val (dx_loadP rfl ty_one_9 rfl p15) rfl rfl ?_
    refine WL.get (dx_fv rfl rfl rfl (hg _ hB r12 (List.mem_of_getElem? e13))) rfl rfl ?_
    rintro _ W17 ⟨rfl, b16⟩
    replace h1 := h1.below b16
    replace p15 := p15.below b16
    replace hB := below_then hB b16
    replace hL := LL.below hL b16
    refine WL.nil ?_
    refine hK11 ?_
    refine WC.cond rfl (fun c18 => ?_) (fun c18 => ?_)
    ·
      refine WC.seq fun K19 hK19 => ?_
      refine WC.region ?_
      refine WL.val (dx_move rfl rfl) rfl rfl ?_
      refine WL.val (dx_assign rfl rfl) rfl rfl ?_
      refine WL.nil ?_
      refine hK19 ?_
      refine WC.ret fun a_ ha_ => ?_
      exact hQ (cv_ret1 rfl (.tmp rfl) (by rw [hv, idxX_here e13 (by assumption)]) hB ha_)
    ·
      refine WC.skip ?_
      refine hK9 ?_
      refine WC.region ?_
      refine WL.val (dx_add (r := (i : Int) + 1) rfl rfl rfl (wrap64_id (by omega))) rfl rfl ?_
      refine WL.val (dx_move rfl rfl) rfl rfl ?_
      refine WL.nil ?_
      exact hK4 (i + 1) ⟨(by omega), (by rw [hv]; exact idxX_step e13 (by assumption)), hB, hL, h1⟩ (by omega) (by repeat first | exact trivial | exact And.intro rfl trivial | refine And.intro rfl ?_ | refine And.intro (congrArg (fun z : Int => some (Value.int .i64 z)) (by omega)) ?_)
  ·
    replace c8 := of_decide_eq_false c8
    refine WC.exit ?_
    refine hK2 ?_
    refine WC.seq fun K20 hK20 => ?_
    refine WC.region ?_
    refine WL.val (dx_assign rfl rfl) rfl rfl ?_
    refine WL.nil ?_
    refine hK20 ?_
    refine WC.ret fun a_ ha_ => ?_
    exact hQ (cv_ret1 rfl (.tmp rfl) (by rw [hv, idxX_end (by omega)]) hB ha_)

set_option maxHeartbeats 1000000 in
theorem containsFuncT_v (xs : List (ByteArray)) (p : ByteArray → Bool) (sv g : Value) (w : World) (L : List Nat) (hL : LL L w) (h1 : RdF 1 L w sv (xs.map encT))  (hg : ∀ W, Below w.heap.size w W → ∀ x ∈ xs, FV Tryz.prog g [.string x] W fun v _ => v = .bool (p x)) : CV Tryz.prog 54 [sv, g] w fun v W => v = .bool (xs.any p) := by
  refine cv_enter (N := 9) (f := [(0, sv), (1, g)]) Tryz.func54 rfl rfl rfl rfl fun Q hQ hE => ?_
  have hB := Below.refl w.heap.size w
  have h1m : xs.length ≤ maxLen := by have := h1.len; rwa [List.length_map] at this
  unfold maxLen at h1m
  refine WC.seq fun K1 hK1 => ?_
  refine WC.region ?_
  refine WL.val (dx_assign rfl rfl) rfl rfl ?_
  refine WL.nil ?_
  refine hK1 ?_
  refine WC.seq fun K2 hK2 => ?_
  refine WC.region ?_
  refine WL.val (dx_move rfl rfl) rfl rfl ?_
  refine WL.val (dx_move rfl rfl) rfl rfl ?_
  refine WL.get (dx_cv rfl Tryz.func78 rfl rfl rfl (indexFuncT_v xs p _ _ w L (by first | exact hL | exact LL.below hL hB) h1 (fun W hW => hg W (below_then hB hW)))) rfl rfl ?_
  rintro _ W4 ⟨rfl, b3⟩
  replace h1 := h1.below b3
  replace hB := below_then hB b3
  replace hL := LL.below hL b3
  refine WL.val (dx_geq rfl rfl rfl) rfl rfl ?_
  refine WL.val (dx_assign rfl rfl) rfl rfl ?_
  refine WL.nil ?_
  refine hK2 ?_
  refine WC.ret fun a_ ha_ => ?_
  exact hQ (cv_ret1 rfl (.tmp rfl) (by rw [idxX_any xs 0 (by omega)]) hB ha_)

set_option maxHeartbeats 1000000 in
theorem of1_v (p : UserX) (tok : ByteArray) (u : Value) (w : World) (L : List Nat) (hL : LL L w) (h0 : PtR L w u [.string tok]) : CV Tryz.prog 69 [.agg #[.string p.1, .string p.2.1, p.2.2.1], u] w fun v W => v = .bool (decide (p.1 = tok)) := by
  refine cv_enter (N := 8) (f := [(0, .agg #[.string p.1, .string p.2.1, p.2.2.1]), (1, u)]) Tryz.func69 rfl rfl rfl rfl fun Q hQ hE => ?_
  have hB := Below.refl w.heap.size w
  refine WC.seq fun K1 hK1 => ?_
  refine WC.region ?_
  refine WL.get (dx_box rfl rfl rfl) rfl rfl ?_
  rintro _ W2 ⟨rfl, k3, b4, z5⟩
  have l6 := hB.size
  replace h0 := h0.more b4 (Nat.le_refl _)
  replace hB := below_then hB b4
  replace hL := LL.more hL z5
  refine WL.val (dx_assign rfl rfl) rfl rfl ?_
  refine WL.nil ?_
  refine hK1 ?_
  refine WC.seq fun K7 hK7 => ?_
  refine WC.region ?_
  refine WL.val (dx_fld (o1 := 0) rfl ty_fld_54_0_0 rfl rfl) rfl rfl ?_
  refine WL.val (dx_load rfl ty_one_9 rfl (k3.cell (k := 0) rfl)) rfl rfl ?_
  refine WL.val (dx_loadP rfl ty_one_9 rfl h0) rfl rfl ?_
  refine WL.val (dx_eqlT rfl rfl rfl) rfl rfl ?_
  refine WL.val (dx_assign rfl rfl) rfl rfl ?_
  refine WL.nil ?_
  refine hK7 ?_
  refine WC.ret fun a_ ha_ => ?_
  exact hQ (cv_ret1 rfl (.tmp rfl) rfl hB ha_)

set_option maxHeartbeats 1000000 in
theorem of_v (tok : ByteArray) (w : World) (L : List Nat) (hL : LL L w)  : CV Tryz.prog 39 [.string tok] w fun v W => ∃ u, v = .func (.func 69) #[] #[u] ∧ PtR L W u [.string tok] := by
  refine cv_enter (N := 4) (f := [(0, .string tok)]) Tryz.func39 rfl rfl rfl rfl fun Q hQ hE => ?_
  have hB := Below.refl w.heap.size w
  have hL0 := hL
  refine WC.seq fun K1 hK1 => ?_
  refine WC.region ?_
  refine WL.get (dx_box (cs := [.string tok]) rfl rfl rfl) rfl rfl ?_
  rintro _ W2 ⟨rfl, k3, b4, z5⟩
  have l6 := hB.size
  replace hB := below_then hB b4
  replace hL := LL.more hL z5
  refine WL.val (dx_assign rfl rfl) rfl rfl ?_
  refine WL.nil ?_
  refine hK1 ?_
  refine WC.seq fun K7 hK7 => ?_
  refine WC.region ?_
  refine WL.val (dx_func rfl rfl rfl) rfl rfl ?_
  refine WL.val (dx_assign rfl rfl) rfl rfl ?_
  refine WL.nil ?_
  refine hK7 ?_
  refine WC.ret fun a_ ha_ => ?_
  exact hQ (cv_ret1 rfl (.tmp rfl) ⟨_, rfl, ⟨Nat.succ_pos _, _, _, rfl, hL0.notin l6, k3.range⟩⟩ hB ha_)

abbrev tokP (tok : ByteArray) (u : UserX) : Bool := decide (u.1 = tok)
abbrev gtP (tok : ByteArray) (u : UserX) : Bool := !(sless u.1 tok || decide (u.1 = tok))
def findU (xs : List UserX) (tok : ByteArray) : Int × Int := if rightU xs = true then (if idxX (tokP tok) xs 0 < 0 then (0, 14) else (idxX (tokP tok) xs 0, 0)) else (0, 1)
theorem findU_ok {xs : List UserX} {tok : ByteArray} (h : (findU xs tok).2 = 0) : rightU xs = true ∧ ∃ k u, (findU xs tok).1 = (k : Nat) ∧ xs[k]? = some u ∧ u.1 = tok ∧ ∀ j b, j < k → xs[j]? = some b → b.1 ≠ tok := by
  unfold findU at h ⊢
  split at h
  · rename_i hr
    refine ⟨hr, ?_⟩
    split at h
    · cases h
    · rename_i hi
      rw [if_pos hr, if_neg hi]
      obtain ⟨k, a, h1, h2, h3, h4⟩ := idxX_is (p := tokP tok) xs 0 (by omega) (by omega)
      exact ⟨k, a, by rw [h1]; simp, h2, by simpa using h3, fun j b hj hb => by simpa using h4 j b hj hb⟩
  · cases h
set_option maxHeartbeats 1000000 in
theorem find_v (xs : List UserX) (tok : ByteArray) (sv : Value) (w : World) (L : List Nat) (hL : LL L w) (h1 : RdF 3 L w sv (xs.map encU)) (h2 : AgU L w xs) (hM : MaxL L w) : CV Tryz.prog 47 [sv, .string tok] w fun v W => v = .tuple #[.int .i64 (findU xs tok).1, .int .i64 (findU xs tok).2] := by
  refine cv_enter (N := 17) (f := [(0, sv), (1, .string tok)]) Tryz.func47 rfl rfl rfl rfl fun Q hQ hE => ?_
  have hB := Below.refl w.heap.size w
  have h1m : xs.length ≤ maxLen := by have := h1.len; rwa [List.length_map] at this
  unfold maxLen at h1m
  refine WC.seq fun K1 hK1 => ?_
  refine WC.region ?_
  refine WL.val (dx_assign rfl rfl) rfl rfl ?_
  refine WL.val (dx_assign rfl rfl) rfl rfl ?_
  refine WL.nil ?_
  refine hK1 ?_
  refine WC.seq fun K2 hK2 => ?_
  refine WC.seq fun K3 hK3 => ?_
  refine WC.region ?_
  refine WL.val (dx_move rfl rfl) rfl rfl ?_
  refine WL.get (dx_cv rfl Tryz.func16 rfl rfl rfl (rightU_v xs _ w _ hL h1 h2 hM)) rfl rfl ?_
  rintro _ W5 ⟨rfl, b4⟩
  replace h1 := h1.below b4
  replace h2 := h2.below b4
  replace hM := hM.below b4
  replace hB := below_then hB b4
  replace hL := LL.below hL b4
  refine WL.val (dx_not rfl rfl) rfl rfl ?_
  refine WL.nil ?_
  refine hK3 ?_
  refine WC.cond rfl (fun c6 => ?_) (fun c6 => ?_)
  ·
    replace c6 := bnot_t c6
    refine WC.seq fun K7 hK7 => ?_
    refine WC.region ?_
    refine WL.val (dx_assign rfl rfl) rfl rfl ?_
    refine WL.val (dx_assign rfl rfl) rfl rfl ?_
    refine WL.nil ?_
    refine hK7 ?_
    refine WC.ret fun a_ ha_ => ?_
    exact hQ (cv_ret2 rfl (.tmp rfl) (.tmp rfl) (by unfold findU; simp [*]) hB ha_)
  ·
    replace c6 := bnot_f c6
    refine WC.skip ?_
    refine hK2 ?_
    refine WC.seq fun K8 hK8 => ?_
    refine WC.region ?_
    refine WL.val (dx_move rfl rfl) rfl rfl ?_
    refine WL.val (dx_move rfl rfl) rfl rfl ?_
    refine WL.get (dx_cv rfl Tryz.func39 rfl rfl rfl (of_v tok W5 _ hL)) rfl rfl ?_
    rintro _ W12 ⟨⟨u9, rfl, p10⟩, b11⟩
    replace h1 := h1.below b11
    replace h2 := h2.below b11
    replace hM := hM.below b11
    replace hB := below_then hB b11
    replace hL := LL.below hL b11
    refine WL.get (dx_cv rfl Tryz.func40 rfl rfl rfl (indexFuncU_v xs (tokP tok) _ _ W12 _ hL h1 (fun W hW x hx => fv_of (cs := [u9]) Tryz.func69 rfl rfl (of1_v x tok _ W _ (LL.below hL hW) (p10.below hW))))) rfl rfl ?_
    rintro _ W14 ⟨rfl, b13⟩
    replace h1 := h1.below b13
    replace h2 := h2.below b13
    replace hM := hM.below b13
    replace p10 := p10.below b13
    replace hB := below_then hB b13
    replace hL := LL.below hL b13
    refine WL.val (dx_assign rfl rfl) rfl rfl ?_
    refine WL.nil ?_
    refine hK8 ?_
    refine WC.seq fun K15 hK15 => ?_
    refine WC.seq fun K16 hK16 => ?_
    refine WC.region ?_
    refine WL.val (dx_move rfl rfl) rfl rfl ?_
    refine WL.val (dx_lss rfl rfl rfl) rfl rfl ?_
    refine WL.nil ?_
    refine hK16 ?_
    refine WC.cond rfl (fun c17 => ?_) (fun c17 => ?_)
    ·
      replace c17 := of_decide_eq_true c17
      refine WC.seq fun K18 hK18 => ?_
      refine WC.region ?_
      refine WL.val (dx_assign rfl rfl) rfl rfl ?_
      refine WL.val (dx_assign rfl rfl) rfl rfl ?_
      refine WL.nil ?_
      refine hK18 ?_
      refine WC.ret fun a_ ha_ => ?_
      exact hQ (cv_ret2 rfl (.tmp rfl) (.tmp rfl) (by unfold findU; simp [*]) hB ha_)
    ·
      replace c17 := of_decide_eq_false c17
      refine WC.skip ?_
      refine hK15 ?_
      refine WC.seq fun K19 hK19 => ?_
      refine WC.region ?_
      refine WL.val (dx_move rfl rfl) rfl rfl ?_
      refine WL.val (dx_assign rfl rfl) rfl rfl ?_
      refine WL.val (dx_assign rfl rfl) rfl rfl ?_
      refine WL.nil ?_
      refine hK19 ?_
      refine WC.ret fun a_ ha_ => ?_
      exact hQ (cv_ret2 rfl (.tmp rfl) (.tmp rfl) (by unfold findU; simp [*]) hB ha_)

def whoU (xs : List UserX) (tok : ByteArray) : ByteArray × Int := if (findU xs tok).2 = 0 then (((xs[(findU xs tok).1.toNat]?).map (·.2.1)).getD ⟨#[]⟩, 0) else (⟨#[]⟩, (findU xs tok).2)
set_option maxHeartbeats 1000000 in
theorem whose_v (xs : List UserX) (tok : ByteArray) (sv : Value) (w : World) (L : List Nat) (hL : LL L w) (h1 : RdF 3 L w sv (xs.map encU)) (h2 : AgU L w xs) (hM : MaxL L w) : CV Tryz.prog 13 [sv, .string tok] w fun v W => v = .tuple #[.string (whoU xs tok).1, .int .i64 (whoU xs tok).2] := by
  refine cv_enter (N := 22) (f := [(0, sv), (1, .string tok)]) Tryz.func13 rfl rfl rfl rfl fun Q hQ hE => ?_
  have hB := Below.refl w.heap.size w
  have h1m : xs.length ≤ maxLen := by have := h1.len; rwa [List.length_map] at this
  unfold maxLen at h1m
  refine WC.seq fun K1 hK1 => ?_
  refine WC.region ?_
  refine WL.val (dx_assign rfl rfl) rfl rfl ?_
  refine WL.val (dx_assign rfl rfl) rfl rfl ?_
  refine WL.nil ?_
  refine hK1 ?_
  refine WC.seq fun K2 hK2 => ?_
  refine WC.region ?_
  refine WL.val (dx_move rfl rfl) rfl rfl ?_
  refine WL.val (dx_move rfl rfl) rfl rfl ?_
  refine WL.get (dx_cv rfl Tryz.func47 rfl rfl rfl (find_v xs tok _ w _ hL h1 h2 hM)) rfl rfl ?_
  rintro _ W4 ⟨rfl, b3⟩
  replace h1 := h1.below b3
  replace h2 := h2.below b3
  replace hM := hM.below b3
  replace hB := below_then hB b3
  replace hL := LL.below hL b3
  refine WL.val (dx_move rfl rfl) rfl rfl ?_
  refine WL.val (dx_extract rfl rfl rfl) rfl rfl ?_
  refine WL.val (dx_extract rfl rfl rfl) rfl rfl ?_
  refine WL.val (dx_assign rfl rfl) rfl rfl ?_
  refine WL.val (dx_assign rfl rfl) rfl rfl ?_
  refine WL.nil ?_
  refine hK2 ?_
  refine WC.seq fun K5 hK5 => ?_
  refine WC.seq fun K6 hK6 => ?_
  refine WC.region ?_
  refine WL.val (dx_move rfl rfl) rfl rfl ?_
  refine WL.val (dx_neq rfl rfl rfl) rfl rfl ?_
  refine WL.nil ?_
  refine hK6 ?_
  refine WC.cond rfl (fun c7 => ?_) (fun c7 => ?_)
  ·
    replace c7 := bnot_t c7
    replace c7 := of_decide_eq_false c7
    refine WC.seq fun K8 hK8 => ?_
    refine WC.region ?_
    refine WL.val (dx_move rfl rfl) rfl rfl ?_
    refine WL.val (dx_assign rfl rfl) rfl rfl ?_
    refine WL.val (dx_assign rfl rfl) rfl rfl ?_
    refine WL.nil ?_
    refine hK8 ?_
    refine WC.ret fun a_ ha_ => ?_
    exact hQ (cv_ret2 rfl (.tmp rfl) (.tmp rfl) (by unfold whoU; rw [if_neg (by assumption)]; rfl) hB ha_)
  ·
    replace c7 := bnot_f c7
    replace c7 := of_decide_eq_true c7
    refine WC.skip ?_
    refine hK5 ?_
    refine WC.seq fun K9 hK9 => ?_
    obtain ⟨hr0, k0, u0, hk0, hu0, ht0, hn0⟩ := findU_ok (by first | assumption | exact Classical.not_not.1 (by assumption))
    have hl0 := (List.getElem?_eq_some_iff.1 hu0).1
    have hrl := right_len hr0
    refine WC.region ?_
    refine WL.val (dx_move rfl rfl) rfl rfl ?_
    refine WL.val (dx_move rfl rfl) rfl rfl ?_
    refine WL.get (dx_idxF k0 rfl ty_slice_22 rfl rfl h1 (by omega) (at_mapX hu0)) rfl rfl ?_
    rintro u10 _ ⟨rfl, p11⟩
    refine WL.get (dx_fldP 1 rfl ty_fld_54_1_1 rfl p11 (cs' := [.string u0.2.1]) rfl (Nat.succ_pos _)) rfl rfl ?_
    rintro u12 _ ⟨rfl, p13⟩
    refine WL.val (dx_loadP rfl ty_one_9 rfl p13) rfl rfl ?_
    refine WL.val (dx_assign rfl rfl) rfl rfl ?_
    refine WL.val (dx_assign rfl rfl) rfl rfl ?_
    refine WL.nil ?_
    refine hK9 ?_
    refine WC.ret fun a_ ha_ => ?_
    exact hQ (cv_ret2 rfl (.tmp rfl) (.tmp rfl) (by unfold whoU; rw [if_pos (by assumption), hk0, Int.toNat_natCast, hu0]; rfl) hB ha_)

def regE (xs : List UserX) (tok mx : ByteArray) : Int := if rightU xs = true ∧ wordB tok = true ∧ userB mx = true then (if xs.any (tokP tok) = true then 6 else if (xs.length : Int) = 16 then 10 else 0) else 1
def regAt (xs : List UserX) (tok : ByteArray) : Nat := if idxX (gtP tok) xs 0 < 0 then xs.length else (idxX (gtP tok) xs 0).toNat
def newU (tok mx : ByteArray) : UserX := (tok, mx, .slice none 0 0, [])
def regU (xs : List UserX) (tok mx : ByteArray) : List UserX := if regE xs tok mx = 0 then xs.take (regAt xs tok) ++ (newU tok mx :: xs.drop (regAt xs tok)) else xs
theorem regAt_le (xs : List UserX) (tok : ByteArray) : regAt xs tok ≤ xs.length := by
  unfold regAt
  rcases idxX_lt (p := gtP tok) xs 0 with h | h
  · rw [if_pos (by omega)]; omega
  · rw [if_neg (by omega)]; omega
theorem reg_ne {xs : List UserX} {tok mx : ByteArray} (h : xs.any (tokP tok) = false) : ∀ r ∈ xs.map encU, r ≠ encU (newU tok mx) := fun r hr e => by
  obtain ⟨u, hu, rfl⟩ := List.mem_map.1 hr
  refine absurd (List.any_eq_true.2 ⟨u, hu, ?_⟩) (by rw [h]; decide)
  have := (List.cons.inj e).1
  simpa [newU] using this
theorem reg_rows (xs : List UserX) (tok mx : ByteArray) (k : Nat) : (xs.map encU).take k ++ ([encU (newU tok mx)] ++ (xs.map encU).drop k) = (xs.take k ++ (newU tok mx :: xs.drop k)).map encU := by simp
theorem AgU.reg {L : List Nat} {w : World} {xs : List UserX} (h : AgU L w xs) (tok mx : ByteArray) (k : Nat) : AgU L w (xs.take k ++ (newU tok mx :: xs.drop k)) := fun u hu => by
  rcases List.mem_append.1 hu with hu | hu
  · exact h u (List.mem_of_mem_take hu)
  · rcases List.mem_cons.1 hu with rfl | hu
    · exact RdF.nil (by decide)
    · exact h u (List.mem_of_mem_drop hu)
def logU (xs : List UserX) (tok : ByteArray) : List UserX := if (findU xs tok).2 = 0 then xs.take (findU xs tok).1.toNat ++ xs.drop ((findU xs tok).1.toNat + 1) else xs
theorem log_rows (xs : List UserX) (k : Nat) : (xs.map encU).take k ++ (xs.map encU).drop (k + 1) = (xs.take k ++ xs.drop (k + 1)).map encU := by simp
theorem AgU.del {L : List Nat} {w : World} {xs : List UserX} (h : AgU L w xs) (k : Nat) : AgU L w (xs.take k ++ xs.drop (k + 1)) := fun u hu => by
  rcases List.mem_append.1 hu with hu | hu
  · exact h u (List.mem_of_mem_take hu)
  · exact h u (List.mem_of_mem_drop hu)
set_option maxHeartbeats 1000000 in
theorem reg1_v (p : UserX) (tok : ByteArray) (u : Value) (w : World) (L : List Nat) (hL : LL L w) (h0 : PtR L w u [.string tok]) : CV Tryz.prog 41 [.agg #[.string p.1, .string p.2.1, p.2.2.1], u] w fun v W => v = .bool (gtP tok p) := by
  refine cv_enter (N := 8) (f := [(0, .agg #[.string p.1, .string p.2.1, p.2.2.1]), (1, u)]) Tryz.func41 rfl rfl rfl rfl fun Q hQ hE => ?_
  have hB := Below.refl w.heap.size w
  refine WC.seq fun K1 hK1 => ?_
  refine WC.region ?_
  refine WL.get (dx_box rfl rfl rfl) rfl rfl ?_
  rintro _ W2 ⟨rfl, k3, b4, z5⟩
  have l6 := hB.size
  replace h0 := h0.more b4 (Nat.le_refl _)
  replace hB := below_then hB b4
  replace hL := LL.more hL z5
  refine WL.val (dx_assign rfl rfl) rfl rfl ?_
  refine WL.nil ?_
  refine hK1 ?_
  refine WC.seq fun K7 hK7 => ?_
  refine WC.region ?_
  refine WL.val (dx_fld (o1 := 0) rfl ty_fld_54_0_0 rfl rfl) rfl rfl ?_
  refine WL.val (dx_load rfl ty_one_9 rfl (k3.cell (k := 0) rfl)) rfl rfl ?_
  refine WL.val (dx_loadP rfl ty_one_9 rfl h0) rfl rfl ?_
  refine WL.val (dx_gtrT rfl rfl rfl) rfl rfl ?_
  refine WL.val (dx_assign rfl rfl) rfl rfl ?_
  refine WL.nil ?_
  refine hK7 ?_
  refine WC.ret fun a_ ha_ => ?_
  exact hQ (cv_ret1 rfl (.tmp rfl) rfl hB ha_)

set_option maxHeartbeats 1000000 in
theorem register_v (xs : List UserX) (tok mx : ByteArray) (sv : Value) (w : World) (L : List Nat) (hL : LL L w) (h1 : RdF 3 L w sv (xs.map encU)) (h2 : AgU L w xs) (hM : MaxL L w) : CV Tryz.prog 9 [sv, .string tok, .string mx] w fun v W => ∃ s2, v = .tuple #[s2, .int .i64 (regE xs tok mx)] ∧ RdF 3 L W s2 ((regU xs tok mx).map encU) ∧ AgU L W (regU xs tok mx) := by
  refine cv_enter (N := 47) (f := [(0, sv), (1, .string tok), (2, .string mx)]) Tryz.func9 rfl rfl rfl rfl fun Q hQ hE => ?_
  have hB := Below.refl w.heap.size w
  have hL0 := hL
  have h1m : xs.length ≤ maxLen := by have := h1.len; rwa [List.length_map] at this
  unfold maxLen at h1m
  refine WC.seq fun K1 hK1 => ?_
  refine WC.region ?_
  refine WL.get (dx_box (cs := [.string tok]) rfl rfl rfl) rfl rfl ?_
  rintro _ W2 ⟨rfl, k3, b4, z5⟩
  have l6 := hB.size
  replace h1 := h1.more b4 (Nat.le_refl _)
  replace h2 := h2.more b4 (Nat.le_refl _)
  replace hM := hM.more b4 (Nat.le_refl _)
  replace hB := below_then hB b4
  replace hL := LL.more hL z5
  refine WL.val (dx_assign rfl rfl) rfl rfl ?_
  refine WL.val (dx_assign rfl rfl) rfl rfl ?_
  refine WL.nil ?_
  refine hK1 ?_
  refine WC.seq fun K7 hK7 => ?_
  refine WC.seq fun K8 hK8 => ?_
  refine WC.region ?_
  refine WL.val (dx_move rfl rfl) rfl rfl ?_
  refine WL.get (dx_cv rfl Tryz.func16 rfl rfl rfl (rightU_v xs _ W2 _ hL h1 h2 hM)) rfl rfl ?_
  rintro _ W10 ⟨rfl, b9⟩
  replace h1 := h1.below b9
  replace h2 := h2.below b9
  replace hM := hM.below b9
  replace k3 := k3.below b9
  replace hB := below_then hB b9
  replace hL := LL.below hL b9
  refine WL.val (dx_not rfl rfl) rfl rfl ?_
  refine WL.val (dx_move rfl rfl) rfl rfl ?_
  refine WL.split 12 rfl (fun g11 => ?_) (fun g11 => ?_)
  ·
    replace g11 := bnot_t g11
    refine WL.off rfl rfl rfl ?_
    refine WL.off rfl rfl rfl ?_
    refine WL.off rfl rfl rfl ?_
    refine WL.val (dx_pick rfl rfl rfl) rfl rfl ?_
    refine WL.val (dx_move rfl rfl) rfl rfl ?_
    refine WL.off rfl rfl rfl ?_
    refine WL.off rfl rfl rfl ?_
    refine WL.off rfl rfl rfl ?_
    refine WL.val (dx_pick rfl rfl rfl) rfl rfl ?_
    refine WL.nil ?_
    refine hK8 ?_
    refine WC.condT rfl ?_
    refine WC.seq fun K12 hK12 => ?_
    refine WC.region ?_
    refine WL.val (dx_move rfl rfl) rfl rfl ?_
    refine WL.val (dx_assign rfl rfl) rfl rfl ?_
    refine WL.val (dx_assign rfl rfl) rfl rfl ?_
    refine WL.nil ?_
    refine hK12 ?_
    refine WC.ret fun a_ ha_ => ?_
    exact hQ (cv_ret2 rfl (.tmp rfl) (.tmp rfl) (by have he := (show regE xs tok mx = 1 by unfold regE; simp [*]); have hr : regU xs tok mx = xs := (by unfold regU; rw [if_neg (by rw [he]; decide)]); rw [he, hr]; exact ⟨_, rfl, (h1.less (fun x hx => (.tail _ hx))), (h2.less (fun x hx => (.tail _ hx)))⟩) hB ha_)
  ·
    replace g11 := bnot_f g11
    refine WL.val (dx_load rfl ty_one_9 rfl (k3.cell (k := 0) rfl)) rfl rfl ?_
    refine WL.get (dx_cv rfl Tryz.func36 rfl rfl rfl (word_v tok W10 [] (LL.nil _))) rfl rfl ?_
    rintro _ W14 ⟨rfl, b13⟩
    replace h1 := h1.below b13
    replace h2 := h2.below b13
    replace hM := hM.below b13
    replace k3 := k3.below b13
    replace hB := below_then hB b13
    replace hL := LL.below hL b13
    refine WL.val (dx_not rfl rfl) rfl rfl ?_
    refine WL.val (dx_pick rfl rfl rfl) rfl rfl ?_
    refine WL.val (dx_move rfl rfl) rfl rfl ?_
    refine WL.split 17 rfl (fun g15 => ?_) (fun g15 => ?_)
    ·
      replace g15 := bnot_t g15
      refine WL.off rfl rfl rfl ?_
      refine WL.off rfl rfl rfl ?_
      refine WL.off rfl rfl rfl ?_
      refine WL.val (dx_pick rfl rfl rfl) rfl rfl ?_
      refine WL.nil ?_
      refine hK8 ?_
      refine WC.condT rfl ?_
      refine WC.seq fun K16 hK16 => ?_
      refine WC.region ?_
      refine WL.val (dx_move rfl rfl) rfl rfl ?_
      refine WL.val (dx_assign rfl rfl) rfl rfl ?_
      refine WL.val (dx_assign rfl rfl) rfl rfl ?_
      refine WL.nil ?_
      refine hK16 ?_
      refine WC.ret fun a_ ha_ => ?_
      exact hQ (cv_ret2 rfl (.tmp rfl) (.tmp rfl) (by have he := (show regE xs tok mx = 1 by unfold regE; simp [*]); have hr : regU xs tok mx = xs := (by unfold regU; rw [if_neg (by rw [he]; decide)]); rw [he, hr]; exact ⟨_, rfl, (h1.less (fun x hx => (.tail _ hx))), (h2.less (fun x hx => (.tail _ hx)))⟩) hB ha_)
    ·
      replace g15 := bnot_f g15
      refine WL.val (dx_move rfl rfl) rfl rfl ?_
      refine WL.get (dx_cv rfl Tryz.func37 rfl rfl rfl (user_v mx W14 hM.1)) rfl rfl ?_
      rintro _ W18 ⟨rfl, b17⟩
      replace h1 := h1.below b17
      replace h2 := h2.below b17
      replace hM := hM.below b17
      replace k3 := k3.below b17
      replace hB := below_then hB b17
      replace hL := LL.below hL b17
      refine WL.val (dx_not rfl rfl) rfl rfl ?_
      refine WL.val (dx_pick rfl rfl rfl) rfl rfl ?_
      refine WL.nil ?_
      refine hK8 ?_
      refine WC.cond rfl (fun c19 => ?_) (fun c19 => ?_)
      ·
        replace c19 := bnot_t c19
        refine WC.seq fun K20 hK20 => ?_
        refine WC.region ?_
        refine WL.val (dx_move rfl rfl) rfl rfl ?_
        refine WL.val (dx_assign rfl rfl) rfl rfl ?_
        refine WL.val (dx_assign rfl rfl) rfl rfl ?_
        refine WL.nil ?_
        refine hK20 ?_
        refine WC.ret fun a_ ha_ => ?_
        exact hQ (cv_ret2 rfl (.tmp rfl) (.tmp rfl) (by have he := (show regE xs tok mx = 1 by unfold regE; simp [*]); have hr : regU xs tok mx = xs := (by unfold regU; rw [if_neg (by rw [he]; decide)]); rw [he, hr]; exact ⟨_, rfl, (h1.less (fun x hx => (.tail _ hx))), (h2.less (fun x hx => (.tail _ hx)))⟩) hB ha_)
      ·
        replace c19 := bnot_f c19
        refine WC.skip ?_
        refine hK7 ?_
        refine WC.seq fun K21 hK21 => ?_
        refine WC.seq fun K22 hK22 => ?_
        refine WC.region ?_
        refine WL.val (dx_move rfl rfl) rfl rfl ?_
        refine WL.val (dx_load rfl ty_one_9 rfl (k3.cell (k := 0) rfl)) rfl rfl ?_
        refine WL.get (dx_cv rfl Tryz.func39 rfl rfl rfl (of_v tok W18 _ hL)) rfl rfl ?_
        rintro _ W26 ⟨⟨u23, rfl, p24⟩, b25⟩
        replace h1 := h1.below b25
        replace h2 := h2.below b25
        replace hM := hM.below b25
        replace k3 := k3.below b25
        replace hB := below_then hB b25
        replace hL := LL.below hL b25
        refine WL.get (dx_cv rfl Tryz.func38 rfl rfl rfl (containsFuncU_v xs (tokP tok) _ _ W26 _ hL h1 (fun W hW x hx => fv_of (cs := [u23]) Tryz.func69 rfl rfl (of1_v x tok _ W _ (LL.below hL hW) (p24.below hW))))) rfl rfl ?_
        rintro _ W28 ⟨rfl, b27⟩
        replace h1 := h1.below b27
        replace h2 := h2.below b27
        replace hM := hM.below b27
        replace p24 := p24.below b27
        replace k3 := k3.below b27
        replace hB := below_then hB b27
        replace hL := LL.below hL b27
        refine WL.nil ?_
        refine hK22 ?_
        refine WC.cond rfl (fun c29 => ?_) (fun c29 => ?_)
        ·
          refine WC.seq fun K30 hK30 => ?_
          refine WC.region ?_
          refine WL.val (dx_move rfl rfl) rfl rfl ?_
          refine WL.val (dx_assign rfl rfl) rfl rfl ?_
          refine WL.val (dx_assign rfl rfl) rfl rfl ?_
          refine WL.nil ?_
          refine hK30 ?_
          refine WC.ret fun a_ ha_ => ?_
          exact hQ (cv_ret2 rfl (.tmp rfl) (.tmp rfl) (by have he := (show regE xs tok mx = 6 by unfold regE; simp [*]); have hr : regU xs tok mx = xs := (by unfold regU; rw [if_neg (by rw [he]; decide)]); rw [he, hr]; exact ⟨_, rfl, (h1.less (fun x hx => (.tail _ hx))), (h2.less (fun x hx => (.tail _ hx)))⟩) hB ha_)
        ·
          refine WC.skip ?_
          refine hK21 ?_
          refine WC.seq fun K31 hK31 => ?_
          refine WC.seq fun K32 hK32 => ?_
          refine WC.region ?_
          refine WL.val (dx_move rfl rfl) rfl rfl ?_
          refine WL.val (dx_lenX rfl ty_slice_22 rfl h1) rfl rfl ?_
          refine WL.val (dx_eql rfl rfl rfl) rfl rfl ?_
          refine WL.nil ?_
          refine hK32 ?_
          refine WC.cond rfl (fun c33 => ?_) (fun c33 => ?_)
          ·
            replace c33 := of_decide_eq_true c33
            refine WC.seq fun K34 hK34 => ?_
            refine WC.region ?_
            refine WL.val (dx_move rfl rfl) rfl rfl ?_
            refine WL.val (dx_assign rfl rfl) rfl rfl ?_
            refine WL.val (dx_assign rfl rfl) rfl rfl ?_
            refine WL.nil ?_
            refine hK34 ?_
            refine WC.ret fun a_ ha_ => ?_
            exact hQ (cv_ret2 rfl (.tmp rfl) (.tmp rfl) (by have he := (show regE xs tok mx = 10 by unfold regE; simp [*]); have hr : regU xs tok mx = xs := (by unfold regU; rw [if_neg (by rw [he]; decide)]); rw [he, hr]; exact ⟨_, rfl, (h1.less (fun x hx => (.tail _ hx))), (h2.less (fun x hx => (.tail _ hx)))⟩) hB ha_)
          ·
            replace c33 := of_decide_eq_false c33
            refine WC.skip ?_
            refine hK31 ?_
            refine WC.seq fun K35 hK35 => ?_
            refine WC.region ?_
            refine WL.val (dx_move rfl rfl) rfl rfl ?_
            refine WL.val (dx_func rfl rfl rfl) rfl rfl ?_
            refine WL.get (dx_cv rfl Tryz.func40 rfl rfl rfl (indexFuncU_v xs (gtP tok) _ _ W28 _ hL h1 (fun W hW x hx => fv_of (cs := [.pointer (some ⟨w.heap.size, 0, none⟩)]) Tryz.func41 rfl rfl (reg1_v x tok _ W [] (LL.nil _) ⟨Nat.succ_pos _, w.heap.size, 0, rfl, by simp, (k3.below hW).range⟩)))) rfl rfl ?_
            rintro _ W37 ⟨rfl, b36⟩
            replace h1 := h1.below b36
            replace h2 := h2.below b36
            replace hM := hM.below b36
            replace p24 := p24.below b36
            replace k3 := k3.below b36
            replace hB := below_then hB b36
            replace hL := LL.below hL b36
            refine WL.val (dx_assign rfl rfl) rfl rfl ?_
            refine WL.nil ?_
            refine hK35 ?_
            refine WC.seq fun K38 hK38 => ?_
            refine WC.seq fun K39 hK39 => ?_
            refine WC.region ?_
            refine WL.val (dx_move rfl rfl) rfl rfl ?_
            refine WL.val (dx_lss rfl rfl rfl) rfl rfl ?_
            refine WL.nil ?_
            refine hK39 ?_
            refine WC.cond rfl (fun c40 => ?_) (fun c40 => ?_)
            ·
              replace c40 := of_decide_eq_true c40
              refine WC.region ?_
              refine WL.val (dx_move rfl rfl) rfl rfl ?_
              refine WL.val (dx_lenX rfl ty_slice_22 rfl h1) rfl rfl ?_
              refine WL.val (dx_assign rfl rfl) rfl rfl ?_
              refine WL.nil ?_
              refine hK38 ?_
              refine WC.seq fun K41 hK41 => ?_
              have hrl := right_len (show rightU xs = true by assumption)
              have hix := idxX_lt (p := gtP tok) xs 0
              have hra := regAt_le xs tok
              have hat : (xs.length : Int) = (regAt xs tok : Nat) := (by unfold regAt; first | rw [if_pos (by omega)] | (rw [if_neg (by omega)]; omega))
              have zh1 := h1
              have zh2 := h2
              have zhM := hM
              have zp24 := p24
              have zk3 := k3
              have zhB := hB
              have zhL := hL
              refine WC.drawM 7 [(some 39, .is (sv)), (some 40, .by fun u W => NewS 3 W37.heap.size (xs.map encU) u W), (some 41, .is (.int .i64 (xs.length : Int))), (some 42, .is (.string tok)), (some 43, .is (.string mx)), (some 44, .is (.agg #[.string tok, .string mx, .slice none 0 0])), (some 45, .by fun u W => NewS 3 W37.heap.size [encU (newU tok mx)] u W)] [[], [0], [], [], [], [3, 4], [5]] (by kernel_rfl) (by kernel_rfl) (by kernel_rfl) (by kernel_rfl) (by kernel_rfl) (by kernel_rfl) (by kernel_rfl) ⟨fun _ _ _ hb h => h.below hb, fun _ _ _ hb h => h.below hb, trivial⟩ ?_ ?_
              ·
                refine DSteps.cons (fun Wd hd => ?_) ?_
                ·
                  exact DV.dr (dx_move rfl rfl) ⟨Below.refl _ _, rfl⟩
                refine DSteps.cons (fun Wd hd => ?_) ?_
                ·
                  have h1 := h1.below hd
                  have h2 := h2.below hd
                  exact DR.mono (dx_cv rfl Tryz.func43 rfl rfl rfl (cloneSUser_v _ _ Wd _ (LL.below hL hd) h1 h2.oc (by rw [List.length_map]; omega))) (fun v W' h => ⟨h.2, h.1.le hd.size⟩)
                refine DSteps.cons (fun Wd hd => ?_) ?_
                ·
                  exact DV.dr (dx_move rfl rfl) ⟨Below.refl _ _, rfl⟩
                refine DSteps.cons (fun Wd hd => ?_) ?_
                ·
                  have k3 := k3.below hd
                  exact DV.dr (dx_load rfl ty_one_9 rfl (k3.cell (k := 0) rfl)) ⟨Below.refl _ _, rfl⟩
                refine DSteps.cons (fun Wd hd => ?_) ?_
                ·
                  exact DV.dr (dx_move rfl rfl) ⟨Below.refl _ _, rfl⟩
                refine DSteps.cons (fun Wd hd => ?_) ?_
                ·
                  exact DV.dr (dx_build rfl rfl (built_of_O (cs := [.string tok, .string mx, .slice none 0 0]) (by kernel_rfl) (oc_cons rfl (oc_cons rfl oc_nil)))) ⟨Below.refl _ _, rfl⟩
                refine DSteps.cons (fun Wd hd => ?_) ?_
                ·
                  exact (dx_lit1 (r := encU (newU tok mx)) rfl ty_ap_22 (by decide) (by decide) rfl rfl rfl).mono (fun v W' h => ⟨h.2.1, NewS.of_own h.1 hd.size (by simp)⟩)
                exact trivial
              ·
                intro W42 b43
                intro u10_1 p10_1
                intro u10_6 p10_6
                replace h1 := h1.below b43
                replace h2 := h2.below b43
                replace hM := hM.below b43
                replace p24 := p24.below b43
                replace k3 := k3.below b43
                replace hB := below_then hB b43
                replace hL := LL.below hL b43
                refine WL.get (dx_callA rfl Tryz.func42 rfl rfl rfl (insertSUser_v _ _ (regAt xs tok) _ _ _ _ W42 hat p10_1 p10_6 b43.size (by rw [List.length_map]; exact hra) (by rw [List.length_map]; omega) h2.oc (oc_cons rfl (oc_cons rfl (oc_cons rfl oc_nil))) (reg_ne (by assumption)))) rfl rfl ?_
                rintro x44 W45 ⟨⟨B46, q47, k48⟩, b49⟩
                have b50 := b43.trans b49
                rw [reg_rows] at k48
                replace h1 := zh1
                replace h2 := zh2
                replace hM := zhM
                replace p24 := zp24
                replace k3 := zk3
                replace hB := zhB
                replace hL := zhL
                have n51 : w.heap.size ≠ B46 := Nat.ne_of_lt (Nat.lt_of_lt_of_le k3.lt q47)
                have l52 := Nat.le_trans hB.size q47
                replace h1 := h1.more b50 q47
                replace h2 := h2.more b50 q47
                replace hM := hM.more b50 q47
                replace p24 := p24.more b50 q47
                replace k3 := k3.below b50
                replace hB := below_then hB b50
                replace hL := LL.cons (LL.below hL b50) k48.lt
                refine WL.val (dx_assign rfl rfl) rfl rfl ?_
                refine WL.val (dx_assign rfl rfl) rfl rfl ?_
                refine WL.nil ?_
                refine hK41 ?_
                refine WC.ret fun a_ ha_ => ?_
                exact hQ (cv_ret2 rfl (.tmp rfl) (.tmp rfl) (by have he := (show regE xs tok mx = 0 by unfold regE; rw [if_pos ⟨by assumption, by assumption, by assumption⟩, if_neg (by rw [show xs.any (tokP tok) = false by assumption]; decide), if_neg (by assumption)]); have hr : regU xs tok mx = xs.take (regAt xs tok) ++ (newU tok mx :: xs.drop (regAt xs tok)) := (by unfold regU; rw [if_pos he]); rw [he, hr]; exact ⟨_, rfl, k48.notin hL0 l52, ((h2.less (fun x hx => (.tail _ (.tail _ hx))))).reg tok mx _⟩) hB ha_)
            ·
              replace c40 := of_decide_eq_false c40
              refine WC.skip ?_
              refine hK38 ?_
              refine WC.seq fun K53 hK53 => ?_
              have hrl := right_len (show rightU xs = true by assumption)
              have hix := idxX_lt (p := gtP tok) xs 0
              have hra := regAt_le xs tok
              have hat : idxX (gtP tok) xs 0 = (regAt xs tok : Nat) := (by unfold regAt; first | rw [if_pos (by omega)] | (rw [if_neg (by omega)]; omega))
              have zh1 := h1
              have zh2 := h2
              have zhM := hM
              have zp24 := p24
              have zk3 := k3
              have zhB := hB
              have zhL := hL
              refine WC.drawM 7 [(some 39, .is (sv)), (some 40, .by fun u W => NewS 3 W37.heap.size (xs.map encU) u W), (some 41, .is (.int .i64 (idxX (gtP tok) xs 0))), (some 42, .is (.string tok)), (some 43, .is (.string mx)), (some 44, .is (.agg #[.string tok, .string mx, .slice none 0 0])), (some 45, .by fun u W => NewS 3 W37.heap.size [encU (newU tok mx)] u W)] [[], [0], [], [], [], [3, 4], [5]] (by kernel_rfl) (by kernel_rfl) (by kernel_rfl) (by kernel_rfl) (by kernel_rfl) (by kernel_rfl) (by kernel_rfl) ⟨fun _ _ _ hb h => h.below hb, fun _ _ _ hb h => h.below hb, trivial⟩ ?_ ?_
              ·
                refine DSteps.cons (fun Wd hd => ?_) ?_
                ·
                  exact DV.dr (dx_move rfl rfl) ⟨Below.refl _ _, rfl⟩
                refine DSteps.cons (fun Wd hd => ?_) ?_
                ·
                  have h1 := h1.below hd
                  have h2 := h2.below hd
                  exact DR.mono (dx_cv rfl Tryz.func43 rfl rfl rfl (cloneSUser_v _ _ Wd _ (LL.below hL hd) h1 h2.oc (by rw [List.length_map]; omega))) (fun v W' h => ⟨h.2, h.1.le hd.size⟩)
                refine DSteps.cons (fun Wd hd => ?_) ?_
                ·
                  exact DV.dr (dx_move rfl rfl) ⟨Below.refl _ _, rfl⟩
                refine DSteps.cons (fun Wd hd => ?_) ?_
                ·
                  have k3 := k3.below hd
                  exact DV.dr (dx_load rfl ty_one_9 rfl (k3.cell (k := 0) rfl)) ⟨Below.refl _ _, rfl⟩
                refine DSteps.cons (fun Wd hd => ?_) ?_
                ·
                  exact DV.dr (dx_move rfl rfl) ⟨Below.refl _ _, rfl⟩
                refine DSteps.cons (fun Wd hd => ?_) ?_
                ·
                  exact DV.dr (dx_build rfl rfl (built_of_O (cs := [.string tok, .string mx, .slice none 0 0]) (by kernel_rfl) (oc_cons rfl (oc_cons rfl oc_nil)))) ⟨Below.refl _ _, rfl⟩
                refine DSteps.cons (fun Wd hd => ?_) ?_
                ·
                  exact (dx_lit1 (r := encU (newU tok mx)) rfl ty_ap_22 (by decide) (by decide) rfl rfl rfl).mono (fun v W' h => ⟨h.2.1, NewS.of_own h.1 hd.size (by simp)⟩)
                exact trivial
              ·
                intro W54 b55
                intro u10_1 p10_1
                intro u10_6 p10_6
                replace h1 := h1.below b55
                replace h2 := h2.below b55
                replace hM := hM.below b55
                replace p24 := p24.below b55
                replace k3 := k3.below b55
                replace hB := below_then hB b55
                replace hL := LL.below hL b55
                refine WL.get (dx_callA rfl Tryz.func42 rfl rfl rfl (insertSUser_v _ _ (regAt xs tok) _ _ _ _ W54 hat p10_1 p10_6 b55.size (by rw [List.length_map]; exact hra) (by rw [List.length_map]; omega) h2.oc (oc_cons rfl (oc_cons rfl (oc_cons rfl oc_nil))) (reg_ne (by assumption)))) rfl rfl ?_
                rintro x56 W57 ⟨⟨B58, q59, k60⟩, b61⟩
                have b62 := b55.trans b61
                rw [reg_rows] at k60
                replace h1 := zh1
                replace h2 := zh2
                replace hM := zhM
                replace p24 := zp24
                replace k3 := zk3
                replace hB := zhB
                replace hL := zhL
                have n63 : w.heap.size ≠ B58 := Nat.ne_of_lt (Nat.lt_of_lt_of_le k3.lt q59)
                have l64 := Nat.le_trans hB.size q59
                replace h1 := h1.more b62 q59
                replace h2 := h2.more b62 q59
                replace hM := hM.more b62 q59
                replace p24 := p24.more b62 q59
                replace k3 := k3.below b62
                replace hB := below_then hB b62
                replace hL := LL.cons (LL.below hL b62) k60.lt
                refine WL.val (dx_assign rfl rfl) rfl rfl ?_
                refine WL.val (dx_assign rfl rfl) rfl rfl ?_
                refine WL.nil ?_
                refine hK53 ?_
                refine WC.ret fun a_ ha_ => ?_
                exact hQ (cv_ret2 rfl (.tmp rfl) (.tmp rfl) (by have he := (show regE xs tok mx = 0 by unfold regE; rw [if_pos ⟨by assumption, by assumption, by assumption⟩, if_neg (by rw [show xs.any (tokP tok) = false by assumption]; decide), if_neg (by assumption)]); have hr : regU xs tok mx = xs.take (regAt xs tok) ++ (newU tok mx :: xs.drop (regAt xs tok)) := (by unfold regU; rw [if_pos he]); rw [he, hr]; exact ⟨_, rfl, k60.notin hL0 l64, ((h2.less (fun x hx => (.tail _ (.tail _ hx))))).reg tok mx _⟩) hB ha_)

set_option maxHeartbeats 1000000 in
theorem logout_v (xs : List UserX) (tok : ByteArray) (sv : Value) (w : World) (L : List Nat) (hL : LL L w) (h1 : RdF 3 L w sv (xs.map encU)) (h2 : AgU L w xs) (hM : MaxL L w) : CV Tryz.prog 11 [sv, .string tok] w fun v W => ∃ s2, v = .tuple #[s2, .int .i64 (findU xs tok).2] ∧ RdF 3 L W s2 ((logU xs tok).map encU) ∧ AgU L W (logU xs tok) := by
  refine cv_enter (N := 24) (f := [(0, sv), (1, .string tok)]) Tryz.func11 rfl rfl rfl rfl fun Q hQ hE => ?_
  have hB := Below.refl w.heap.size w
  have hL0 := hL
  have h1m : xs.length ≤ maxLen := by have := h1.len; rwa [List.length_map] at this
  unfold maxLen at h1m
  refine WC.seq fun K1 hK1 => ?_
  refine WC.region ?_
  refine WL.val (dx_assign rfl rfl) rfl rfl ?_
  refine WL.val (dx_assign rfl rfl) rfl rfl ?_
  refine WL.nil ?_
  refine hK1 ?_
  refine WC.seq fun K2 hK2 => ?_
  refine WC.region ?_
  refine WL.val (dx_move rfl rfl) rfl rfl ?_
  refine WL.val (dx_move rfl rfl) rfl rfl ?_
  refine WL.get (dx_cv rfl Tryz.func47 rfl rfl rfl (find_v xs tok _ w _ hL h1 h2 hM)) rfl rfl ?_
  rintro _ W4 ⟨rfl, b3⟩
  replace h1 := h1.below b3
  replace h2 := h2.below b3
  replace hM := hM.below b3
  replace hB := below_then hB b3
  replace hL := LL.below hL b3
  refine WL.val (dx_move rfl rfl) rfl rfl ?_
  refine WL.val (dx_extract rfl rfl rfl) rfl rfl ?_
  refine WL.val (dx_extract rfl rfl rfl) rfl rfl ?_
  refine WL.val (dx_assign rfl rfl) rfl rfl ?_
  refine WL.val (dx_assign rfl rfl) rfl rfl ?_
  refine WL.nil ?_
  refine hK2 ?_
  refine WC.seq fun K5 hK5 => ?_
  refine WC.seq fun K6 hK6 => ?_
  refine WC.region ?_
  refine WL.val (dx_move rfl rfl) rfl rfl ?_
  refine WL.val (dx_neq rfl rfl rfl) rfl rfl ?_
  refine WL.nil ?_
  refine hK6 ?_
  refine WC.cond rfl (fun c7 => ?_) (fun c7 => ?_)
  ·
    replace c7 := bnot_t c7
    replace c7 := of_decide_eq_false c7
    refine WC.seq fun K8 hK8 => ?_
    refine WC.region ?_
    refine WL.val (dx_move rfl rfl) rfl rfl ?_
    refine WL.val (dx_move rfl rfl) rfl rfl ?_
    refine WL.val (dx_assign rfl rfl) rfl rfl ?_
    refine WL.val (dx_assign rfl rfl) rfl rfl ?_
    refine WL.nil ?_
    refine hK8 ?_
    refine WC.ret fun a_ ha_ => ?_
    exact hQ (cv_ret2 rfl (.tmp rfl) (.tmp rfl) (by have hr : logU xs tok = xs := (by unfold logU; rw [if_neg (by assumption)]); rw [hr]; exact ⟨_, rfl, (h1.less (fun x hx => hx)), (h2.less (fun x hx => hx))⟩) hB ha_)
  ·
    replace c7 := bnot_f c7
    replace c7 := of_decide_eq_true c7
    refine WC.skip ?_
    refine hK5 ?_
    refine WC.seq fun K9 hK9 => ?_
    obtain ⟨hr0, k0, u0, hk0, hu0, ht0, hn0⟩ := findU_ok (by first | assumption | exact Classical.not_not.1 (by assumption))
    have hl0 := (List.getElem?_eq_some_iff.1 hu0).1
    have hrl := right_len hr0
    refine WC.region ?_
    refine WL.val (dx_move rfl rfl) rfl rfl ?_
    have zh1 := h1
    have zh2 := h2
    have zhM := hM
    have zhB := hB
    have zhL := hL
    refine WL.get (dx_cv rfl Tryz.func43 rfl rfl rfl (cloneSUser_v _ _ W4 _ hL h1 h2.oc (by rw [List.length_map]; omega))) rfl rfl ?_
    rintro u10 W11 ⟨p12, b13⟩
    replace h1 := h1.below b13
    replace h2 := h2.below b13
    replace hM := hM.below b13
    replace hB := below_then hB b13
    replace hL := LL.below hL b13
    refine WL.val (dx_move rfl rfl) rfl rfl ?_
    refine WL.val (dx_move rfl rfl) rfl rfl ?_
    refine WL.val (dx_add (r := ((findU xs tok).1) + 1) rfl rfl rfl (wrap64_id (by omega))) rfl rfl ?_
    refine WL.get (dx_callA rfl Tryz.func48 rfl rfl rfl (deleteSUser_v _ k0 _ _ _ _ W11 (by omega) (by omega) p12 b13.size (by rw [List.length_map]; exact hl0) h2.oc)) rfl rfl ?_
    rintro x14 W15 ⟨⟨B16, q17, k18⟩, b19⟩
    have b20 := b13.trans b19
    rw [log_rows] at k18
    replace h1 := zh1
    replace h2 := zh2
    replace hM := zhM
    replace hB := zhB
    replace hL := zhL
    have l21 := Nat.le_trans hB.size q17
    replace h1 := h1.more b20 q17
    replace h2 := h2.more b20 q17
    replace hM := hM.more b20 q17
    replace hB := below_then hB b20
    replace hL := LL.cons (LL.below hL b20) k18.lt
    refine WL.val (dx_assign rfl rfl) rfl rfl ?_
    refine WL.val (dx_assign rfl rfl) rfl rfl ?_
    refine WL.nil ?_
    refine hK9 ?_
    refine WC.ret fun a_ ha_ => ?_
    exact hQ (cv_ret2 rfl (.tmp rfl) (.tmp rfl) (by have hr : logU xs tok = xs.take k0 ++ xs.drop (k0 + 1) := (by unfold logU; rw [if_pos (by assumption), hk0, Int.toNat_natCast]); rw [hr, show (findU xs tok).2 = 0 by assumption]; exact ⟨_, rfl, k18.notin hL0 l21, ((h2.less (fun x hx => (.tail _ hx)))).del _⟩) hB ha_)

abbrev hasT (ts : List ByteArray) (t : ByteArray) : Bool := ts.any fun x => decide (t = x)
abbrev lacks (ts : List ByteArray) (t : ByteArray) : Bool := !hasT ts t
set_option maxHeartbeats 1000000 in
theorem indexT_v (ts : List ByteArray) (t : ByteArray) (tv : Value) (w : World) (L : List Nat) (hL : LL L w) (h3 : RdF 1 L w tv (ts.map encT)) : CV Tryz.prog 79 [tv, .string t] w fun v W => v = .int .i64 (idxX (fun x => decide (t = x)) ts 0) := by
  refine cv_enter (N := 19) (f := [(0, tv), (1, .string t)]) Tryz.func79 rfl rfl rfl rfl fun Q hQ hE => ?_
  have hB := Below.refl w.heap.size w
  have h3m : ts.length ≤ maxLen := by have := h3.len; rwa [List.length_map] at this
  unfold maxLen at h3m
  refine WC.seq fun K1 hK1 => ?_
  refine WC.region ?_
  refine WL.val (dx_assign rfl rfl) rfl rfl ?_
  refine WL.nil ?_
  refine hK1 ?_
  refine WC.seq fun K2 hK2 => ?_
  refine WC.seq fun K3 hK3 => ?_
  refine WC.region ?_
  refine WL.val (dx_move rfl rfl) rfl rfl ?_
  refine WL.val (dx_lenX rfl ty_slice_34 rfl h3) rfl rfl ?_
  refine WL.val (dx_move rfl rfl) rfl rfl ?_
  refine WL.nil ?_
  refine hK3 ?_
  refine WC.block ?_
  refine WC.loop (fun (i : Nat) => [(0, tv), (1, .string t), (7, .int .i64 (ts.length : Int)), (8, .int .i64 (i : Int))]) (fun (i : Nat) W => i ≤ ts.length ∧ idxX (fun x => decide (t = x)) ts 0 = idxX (fun x => decide (t = x)) (ts.drop i) i ∧ Below w.heap.size w W ∧ LL (L) W ∧ RdF 1 (L) W tv (ts.map encT)) (fun (i : Nat) => ts.length - i) 0 (by repeat first | exact trivial | exact And.intro rfl trivial | refine And.intro rfl ?_ | refine And.intro (congrArg (fun z : Int => some (Value.int .i64 z)) (by omega)) ?_) ⟨Nat.zero_le _, rfl, hB, hL, h3⟩ ?_
  clear h3 hB hL
  rintro K4 i W5 ⟨hi, hv, hB, hL, h3⟩ hK4
  refine WC.seq fun K6 hK6 => ?_
  refine WC.region ?_
  refine WL.val (dx_lss rfl rfl rfl) rfl rfl ?_
  refine WL.nil ?_
  refine hK6 ?_
  refine WC.seq fun K7 hK7 => ?_
  refine WC.cond rfl (fun c8 => ?_) (fun c8 => ?_)
  ·
    replace c8 := of_decide_eq_true c8
    refine WC.skip ?_
    refine hK7 ?_
    refine WC.seq fun K9 hK9 => ?_
    refine WC.block ?_
    refine WC.seq fun K10 hK10 => ?_
    refine WC.region ?_
    refine WL.val (dx_move rfl rfl) rfl rfl ?_
    refine WL.val (dx_assign rfl rfl) rfl rfl ?_
    refine WL.nil ?_
    refine hK10 ?_
    refine WC.seq fun K11 hK11 => ?_
    refine WC.region ?_
    refine WL.val (dx_move rfl rfl) rfl rfl ?_
    refine WL.val (dx_move rfl rfl) rfl rfl ?_
    refine WL.val (dx_move rfl rfl) rfl rfl ?_
    obtain ⟨r12, e13⟩ : ∃ x, ts[i]? = some x := ⟨_, List.getElem?_eq_getElem (by omega)⟩
    refine WL.get (dx_idxF i rfl ty_slice_34 rfl rfl h3 (by omega) (at_mapX e13)) rfl rfl ?_
    rintro u14 _ ⟨rfl, p15⟩
    refine WL.val (dx_loadP rfl ty_one_9 rfl p15) rfl rfl ?_
    refine WL.val (dx_eqlT rfl rfl rfl) rfl rfl ?_
    refine WL.nil ?_
    refine hK11 ?_
    refine WC.cond rfl (fun c16 => ?_) (fun c16 => ?_)
    ·
      replace c16 := of_decide_eq_true c16
      refine WC.seq fun K17 hK17 => ?_
      refine WC.region ?_
      refine WL.val (dx_move rfl rfl) rfl rfl ?_
      refine WL.val (dx_assign rfl rfl) rfl rfl ?_
      refine WL.nil ?_
      refine hK17 ?_
      refine WC.ret fun a_ ha_ => ?_
      exact hQ (cv_ret1 rfl (.tmp rfl) (by rw [hv, idxX_here e13 (decide_eq_true (by assumption))]) hB ha_)
    ·
      replace c16 := of_decide_eq_false c16
      refine WC.skip ?_
      refine hK9 ?_
      refine WC.region ?_
      refine WL.val (dx_add (r := (i : Int) + 1) rfl rfl rfl (wrap64_id (by omega))) rfl rfl ?_
      refine WL.val (dx_move rfl rfl) rfl rfl ?_
      refine WL.nil ?_
      exact hK4 (i + 1) ⟨(by omega), (by rw [hv]; exact idxX_step e13 (decide_eq_false (by assumption))), hB, hL, h3⟩ (by omega) (by repeat first | exact trivial | exact And.intro rfl trivial | refine And.intro rfl ?_ | refine And.intro (congrArg (fun z : Int => some (Value.int .i64 z)) (by omega)) ?_)
  ·
    replace c8 := of_decide_eq_false c8
    refine WC.exit ?_
    refine hK2 ?_
    refine WC.seq fun K18 hK18 => ?_
    refine WC.region ?_
    refine WL.val (dx_assign rfl rfl) rfl rfl ?_
    refine WL.nil ?_
    refine hK18 ?_
    refine WC.ret fun a_ ha_ => ?_
    exact hQ (cv_ret1 rfl (.tmp rfl) (by rw [hv, idxX_end (by omega)]) hB ha_)

set_option maxHeartbeats 1000000 in
theorem containsT_v (ts : List ByteArray) (t : ByteArray) (tv : Value) (w : World) (L : List Nat) (hL : LL L w) (h3 : RdF 1 L w tv (ts.map encT)) : CV Tryz.prog 56 [tv, .string t] w fun v W => v = .bool (hasT ts t) := by
  refine cv_enter (N := 9) (f := [(0, tv), (1, .string t)]) Tryz.func56 rfl rfl rfl rfl fun Q hQ hE => ?_
  have hB := Below.refl w.heap.size w
  have h3m : ts.length ≤ maxLen := by have := h3.len; rwa [List.length_map] at this
  unfold maxLen at h3m
  refine WC.seq fun K1 hK1 => ?_
  refine WC.region ?_
  refine WL.val (dx_assign rfl rfl) rfl rfl ?_
  refine WL.nil ?_
  refine hK1 ?_
  refine WC.seq fun K2 hK2 => ?_
  refine WC.region ?_
  refine WL.val (dx_move rfl rfl) rfl rfl ?_
  refine WL.val (dx_move rfl rfl) rfl rfl ?_
  refine WL.get (dx_cv rfl Tryz.func79 rfl rfl rfl (indexT_v ts t _ w _ hL h3)) rfl rfl ?_
  rintro _ W4 ⟨rfl, b3⟩
  replace h3 := h3.below b3
  replace hB := below_then hB b3
  replace hL := LL.below hL b3
  refine WL.val (dx_geq rfl rfl rfl) rfl rfl ?_
  refine WL.val (dx_assign rfl rfl) rfl rfl ?_
  refine WL.nil ?_
  refine hK2 ?_
  refine WC.ret fun a_ ha_ => ?_
  exact hQ (cv_ret1 rfl (.tmp rfl) (by unfold hasT; rw [idxX_any ts 0 (by omega)]) hB ha_)

set_option maxHeartbeats 1000000 in
theorem agreed1_v (xs : List UserX) (t : ByteArray) (k0 : Nat) (u0 : UserX) (hu0 : xs[k0]? = some u0) (sv a b : Value) (w : World) (L : List Nat) (hL : LL L w) (h1 : RdF 3 L w sv (xs.map encU)) (h2 : AgU L w xs) (ha : PtR L w a [sv]) (hb : PtR L w b [.int .i64 (k0 : Int)])  (hl0 : k0 < xs.length) : CV Tryz.prog 55 [.string t, a, b] w fun v W => v = .bool (lacks u0.2.2.2 t) := by
  refine cv_enter (N := 13) (f := [(0, .string t), (1, a), (2, b)]) Tryz.func55 rfl rfl rfl rfl fun Q hQ hE => ?_
  have hB := Below.refl w.heap.size w
  have h1m : xs.length ≤ maxLen := by have := h1.len; rwa [List.length_map] at this
  unfold maxLen at h1m
  refine WC.seq fun K1 hK1 => ?_
  refine WC.region ?_
  refine WL.val (dx_assign rfl rfl) rfl rfl ?_
  refine WL.nil ?_
  refine hK1 ?_
  refine WC.seq fun K2 hK2 => ?_
  refine WC.region ?_
  refine WL.val (dx_loadP rfl ty_one_22 rfl ha) rfl rfl ?_
  refine WL.val (dx_loadP rfl ty_one_3 rfl hb) rfl rfl ?_
  refine WL.get (dx_idxF k0 rfl ty_slice_22 rfl rfl h1 (by omega) (at_mapX hu0)) rfl rfl ?_
  rintro u3 _ ⟨rfl, p4⟩
  refine WL.get (dx_fldP 1 rfl ty_fld_54_2_2 rfl p4 (cs' := [u0.2.2.1]) rfl (Nat.succ_pos _)) rfl rfl ?_
  rintro u5 _ ⟨rfl, p6⟩
  refine WL.val (dx_loadP rfl ty_one_34 rfl p6) rfl rfl ?_
  refine WL.val (dx_move rfl rfl) rfl rfl ?_
  refine WL.get (dx_cv rfl Tryz.func56 rfl rfl rfl (containsT_v u0.2.2.2 t _ w _ hL (h2 u0 (List.mem_of_getElem? hu0)))) rfl rfl ?_
  rintro _ W8 ⟨rfl, b7⟩
  replace h1 := h1.below b7
  replace h2 := h2.below b7
  replace ha := ha.below b7
  replace hb := hb.below b7
  replace p4 := p4.below b7
  replace p6 := p6.below b7
  replace hB := below_then hB b7
  replace hL := LL.below hL b7
  refine WL.val (dx_not rfl rfl) rfl rfl ?_
  refine WL.val (dx_assign rfl rfl) rfl rfl ?_
  refine WL.nil ?_
  refine hK2 ?_
  refine WC.ret fun a_ ha_ => ?_
  exact hQ (cv_ret1 rfl (.tmp rfl) rfl hB ha_)

def agdU (xs : List UserX) (tok : ByteArray) (ts : List ByteArray) : Int := if (findU xs tok).2 = 0 then (if ts.any (lacks (((xs[(findU xs tok).1.toNat]?).map (·.2.2.2)).getD [])) = true then 13 else 0) else (findU xs tok).2
set_option maxHeartbeats 1000000 in
theorem agreed_v (xs : List UserX) (tok : ByteArray) (ts : List ByteArray) (sv tv : Value) (w : World) (L : List Nat) (hL : LL L w) (h1 : RdF 3 L w sv (xs.map encU)) (h2 : AgU L w xs) (hM : MaxL L w) (h3 : RdF 1 L w tv (ts.map encT)) : CV Tryz.prog 20 [sv, .string tok, tv] w fun v W => v = .int .i64 (agdU xs tok ts) := by
  refine cv_enter (N := 21) (f := [(0, sv), (1, .string tok), (2, tv)]) Tryz.func20 rfl rfl rfl rfl fun Q hQ hE => ?_
  have hB := Below.refl w.heap.size w
  have h1m : xs.length ≤ maxLen := by have := h1.len; rwa [List.length_map] at this
  unfold maxLen at h1m
  have h3m : ts.length ≤ maxLen := by have := h3.len; rwa [List.length_map] at this
  unfold maxLen at h3m
  refine WC.seq fun K1 hK1 => ?_
  refine WC.region ?_
  refine WL.get (dx_box (cs := [sv]) rfl rfl (oc_one h1.one)) rfl rfl ?_
  rintro _ W2 ⟨rfl, k3, b4, z5⟩
  have l6 := hB.size
  replace h1 := h1.more b4 (Nat.le_refl _)
  replace h2 := h2.more b4 (Nat.le_refl _)
  replace hM := hM.more b4 (Nat.le_refl _)
  replace h3 := h3.more b4 (Nat.le_refl _)
  replace hB := below_then hB b4
  replace hL := LL.more hL z5
  refine WL.val (dx_assign rfl rfl) rfl rfl ?_
  refine WL.nil ?_
  refine hK1 ?_
  refine WC.seq fun K7 hK7 => ?_
  refine WC.region ?_
  refine WL.val (dx_load rfl ty_one_22 rfl (k3.cell (k := 0) rfl)) rfl rfl ?_
  refine WL.val (dx_move rfl rfl) rfl rfl ?_
  refine WL.get (dx_cv rfl Tryz.func47 rfl rfl rfl (find_v xs tok _ W2 _ hL h1 h2 hM)) rfl rfl ?_
  rintro _ W9 ⟨rfl, b8⟩
  replace h1 := h1.below b8
  replace h2 := h2.below b8
  replace hM := hM.below b8
  replace h3 := h3.below b8
  replace k3 := k3.below b8
  replace hB := below_then hB b8
  replace hL := LL.below hL b8
  refine WL.val (dx_move rfl rfl) rfl rfl ?_
  refine WL.val (dx_extract rfl rfl rfl) rfl rfl ?_
  refine WL.val (dx_extract rfl rfl rfl) rfl rfl ?_
  refine WL.get (dx_alloc rfl ty_zero_3 rfl) rfl rfl ?_
  rintro _ W10 ⟨rfl, k11, b12, z13⟩
  have n14 : w.heap.size ≠ W9.heap.size := Nat.ne_of_lt k3.lt
  have l15 := hB.size
  replace h1 := h1.more b12 (Nat.le_refl _)
  replace h2 := h2.more b12 (Nat.le_refl _)
  replace hM := hM.more b12 (Nat.le_refl _)
  replace h3 := h3.more b12 (Nat.le_refl _)
  replace k3 := k3.below b12
  replace hB := below_then hB b12
  replace hL := LL.more hL z13
  refine WL.do (dx_store (cs' := [.int .i64 ((findU xs tok).1)]) (vs := [.int .i64 ((findU xs tok).1)]) rfl ty_size_3_1 rfl rfl rfl (oc_cons rfl oc_nil) k11 rfl (Nat.le_of_ble_eq_true rfl) rfl) rfl ?_
  rintro _ W16 ⟨k18, o17⟩
  replace k3 := k3.other o17 n14
  clear k11
  replace h1 := h1.only o17 (.head _)
  replace h2 := h2.only o17 (.head _)
  replace hM := hM.only o17 (.head _)
  replace h3 := h3.only o17 (.head _)
  replace hB := o17.below hB l15
  replace hL := LL.only hL o17
  refine WL.val (dx_assign rfl rfl) rfl rfl ?_
  refine WL.nil ?_
  refine hK7 ?_
  refine WC.seq fun K19 hK19 => ?_
  refine WC.seq fun K20 hK20 => ?_
  refine WC.region ?_
  refine WL.val (dx_move rfl rfl) rfl rfl ?_
  refine WL.val (dx_neq rfl rfl rfl) rfl rfl ?_
  refine WL.nil ?_
  refine hK20 ?_
  refine WC.cond rfl (fun c21 => ?_) (fun c21 => ?_)
  ·
    replace c21 := bnot_t c21
    replace c21 := of_decide_eq_false c21
    refine WC.seq fun K22 hK22 => ?_
    refine WC.region ?_
    refine WL.val (dx_move rfl rfl) rfl rfl ?_
    refine WL.val (dx_assign rfl rfl) rfl rfl ?_
    refine WL.nil ?_
    refine hK22 ?_
    refine WC.ret fun a_ ha_ => ?_
    exact hQ (cv_ret1 rfl (.tmp rfl) (by unfold agdU; rw [if_neg (by assumption)]; rfl) hB ha_)
  ·
    replace c21 := bnot_f c21
    replace c21 := of_decide_eq_true c21
    refine WC.skip ?_
    refine hK19 ?_
    refine WC.seq fun K23 hK23 => ?_
    refine WC.seq fun K24 hK24 => ?_
    obtain ⟨hr0, k0, u0, hk0, hu0, ht0, hn0⟩ := findU_ok (by first | assumption | exact Classical.not_not.1 (by assumption))
    have hl0 := (List.getElem?_eq_some_iff.1 hu0).1
    have hrl := right_len hr0
    refine WC.region ?_
    refine WL.val (dx_move rfl rfl) rfl rfl ?_
    refine WL.val (dx_func rfl rfl rfl) rfl rfl ?_
    refine WL.get (dx_cv rfl Tryz.func54 rfl rfl rfl (containsFuncT_v ts (lacks u0.2.2.2) _ _ W16 _ hL h3 (fun W hW x hx => fv_of (cs := [.pointer (some ⟨w.heap.size, 0, none⟩), .pointer (some ⟨W9.heap.size, 0, none⟩)]) Tryz.func55 rfl rfl (agreed1_v xs x k0 u0 hu0 sv _ _ W [] (LL.nil _) ((h1.below hW).less (by simp)) ((h2.below hW).less (by simp)) ⟨Nat.succ_pos _, w.heap.size, 0, rfl, by simp, (k3.below hW).range⟩ (by rw [← hk0]; exact ⟨Nat.succ_pos _, W9.heap.size, 0, rfl, by simp, (k18.below hW).range⟩) hl0)))) rfl rfl ?_
    rintro _ W26 ⟨rfl, b25⟩
    replace h1 := h1.below b25
    replace h2 := h2.below b25
    replace hM := hM.below b25
    replace h3 := h3.below b25
    replace k3 := k3.below b25
    replace k18 := k18.below b25
    replace hB := below_then hB b25
    replace hL := LL.below hL b25
    refine WL.nil ?_
    refine hK24 ?_
    refine WC.cond rfl (fun c27 => ?_) (fun c27 => ?_)
    ·
      refine WC.seq fun K28 hK28 => ?_
      refine WC.region ?_
      refine WL.val (dx_assign rfl rfl) rfl rfl ?_
      refine WL.nil ?_
      refine hK28 ?_
      refine WC.ret fun a_ ha_ => ?_
      exact hQ (cv_ret1 rfl (.tmp rfl) (by unfold agdU; rw [if_pos (by assumption), hk0, Int.toNat_natCast, hu0]; simp [*]) hB ha_)
    ·
      refine WC.skip ?_
      refine hK23 ?_
      refine WC.seq fun K29 hK29 => ?_
      refine WC.region ?_
      refine WL.val (dx_assign rfl rfl) rfl rfl ?_
      refine WL.nil ?_
      refine hK29 ?_
      refine WC.ret fun a_ ha_ => ?_
      exact hQ (cv_ret1 rfl (.tmp rfl) (by unfold agdU; rw [if_pos (by assumption), hk0, Int.toNat_natCast, hu0]; simp [*]) hB ha_)

end Go.Proofs.YthefddclefimoaaGreatDoor
namespace Go.Proofs.YthefddclefimoaaGreatDoor
open Go.RowKit Go.Sort
set_option linter.unusedVariables false
set_option linter.unusedSimpArgs false
-- the order of lists of bytes
theorem bl_lt : ∀ x y : List UInt8, Op.bytesLess x y = decide (x < y)
  | _, [] => by cases ‹List UInt8› <;> simp [Op.bytesLess]
  | [], _ :: _ => by simp [Op.bytesLess]
  | a :: x, b :: y => by
    rw [Op.bytesLess, bl_lt x y]
    rcases u8_tri a b with h | h | h
    · simp [h, List.cons_lt_cons_iff]
    · subst h
      simp [List.cons_lt_cons_iff]
    · obtain ⟨h1, h2⟩ := u8_no h
      have h3 : ¬ a = b := fun e => h2 e.symm
      simp [h1, h3, List.cons_lt_cons_iff]
theorem bl_le (x y : List UInt8) : decide (x ≤ y) = !Op.bytesLess y x := by
  rw [bl_lt]
  by_cases h : y < x
  · simp [h, List.not_le.2 h]
  · simp [h, List.not_lt.1 h]
abbrev bL (s : ByteArray) : List UInt8 := s.data.toList
abbrev bA (l : List UInt8) : ByteArray := ⟨l.toArray⟩
theorem bA_bL (s : ByteArray) : bA (bL s) = s := rfl
/-- Sorted; each once. -/
def sortT (ts : List ByteArray) : List ByteArray := ((ts.map bL).mergeSort fun x y => decide (x ≤ y)).map bA
def onceT (ts : List ByteArray) : List ByteArray := (Lib.compact (ts.map bL)).map bA
theorem bL_bA (l : List UInt8) : bL (bA l) = l := rfl
theorem sless_bA (x y : List UInt8) : sless (bA x) (bA y) = Op.bytesLess x y := by
  unfold sless
  rw [ByteArray.toList_eq, ByteArray.toList_eq]
theorem sortT_len (ts : List ByteArray) : (sortT ts).length = ts.length := by simp [sortT, List.length_mergeSort]
theorem sortT_mem (ts : List ByteArray) (s : ByteArray) : s ∈ sortT ts ↔ s ∈ ts := by
  unfold sortT
  simp only [List.mem_map, List.mem_mergeSort]
  constructor
  · rintro ⟨l, ⟨t, ht, rfl⟩, rfl⟩
    exact ht
  · exact fun h => ⟨_, ⟨s, h, rfl⟩, rfl⟩
theorem sortT_le (ts : List ByteArray) : (sortT ts).Pairwise fun a b => sless b a = false := by
  unfold sortT
  rw [List.pairwise_map]
  have h := List.pairwise_mergeSort (le := fun x y : List UInt8 => decide (x ≤ y)) (fun a b c h1 h2 => ?_) (fun a b => ?_) (ts.map bL)
  · refine h.imp fun {a b} hab => ?_
    rw [sless_bA]
    rw [bl_le] at hab
    simpa using hab
  · simp only [bl_le, Bool.not_eq_true'] at h1 h2 ⊢
    rcases bl_tri c a with ⟨p, _, _⟩ | ⟨p, _, _⟩ | rfl
    · rcases bl_tri b a with ⟨q, _, _⟩ | ⟨_, q, _⟩ | rfl
      · rw [q] at h1; cases h1
      · rw [bl_trans _ _ _ p q] at h2; cases h2
      · rw [p] at h2; cases h2
    · exact p
    · exact bl_irrefl _
  · simp only [bl_le, Bool.or_eq_true, Bool.not_eq_true']
    rcases bl_tri a b with ⟨_, p, _⟩ | ⟨p, _, _⟩ | rfl
    · exact .inl p
    · exact .inr p
    · exact .inl (bl_irrefl _)
theorem once_mem (zs : List (List UInt8)) (x : List UInt8) : x ∈ Lib.compact zs ↔ x ∈ zs := by
  unfold Lib.compact Lib.compactUpTo
  simp only [List.mem_map, List.mem_filter, List.mem_range]
  constructor
  · rintro ⟨j, ⟨hj, _⟩, rfl⟩
    rw [getElem!_pos zs.toArray j (by simpa using hj)]
    exact List.getElem_mem _
  · intro hx
    obtain ⟨k, hk, rfl⟩ := List.getElem_of_mem hx
    have key : ∀ n k (hk : k < zs.length), k ≤ n → ∃ j, (j < zs.length ∧ Lib.keeps zs.toArray j = true) ∧ zs.toArray[j]! = zs[k] := by
      intro n
      induction n with
      | zero =>
        intro k hk hn
        obtain rfl : k = 0 := by omega
        exact ⟨0, ⟨hk, by simp [Lib.keeps]⟩, by rw [getElem!_pos zs.toArray 0 (by simpa using hk)]; rfl⟩
      | succ n ih =>
        intro k hk hn
        by_cases hq : Lib.keeps zs.toArray k = true
        · exact ⟨k, ⟨hk, hq⟩, by rw [getElem!_pos zs.toArray k (by simpa using hk)]; rfl⟩
        · have h1 : ¬ (k = 0 ∨ zs.toArray[k]! ≠ zs.toArray[k - 1]!) := fun h => hq (by unfold Lib.keeps; exact decide_eq_true h)
          have h2 : k ≠ 0 := fun e => h1 (.inl e)
          have h3 : zs.toArray[k]! = zs.toArray[k - 1]! := Classical.byContradiction fun e => h1 (.inr e)
          obtain ⟨j, hj, e⟩ := ih (k - 1) (by omega) (by omega)
          refine ⟨j, hj, ?_⟩
          rw [getElem!_pos zs.toArray k (by simpa using hk), getElem!_pos zs.toArray (k - 1) (by simp; omega)] at h3
          rw [e]
          simpa using h3.symm
    exact key k k hk (Nat.le_refl _)
theorem onceT_mem (ts : List ByteArray) (s : ByteArray) : s ∈ onceT ts ↔ s ∈ ts := by
  unfold onceT
  simp only [List.mem_map, once_mem]
  constructor
  · rintro ⟨l, ⟨t, ht, rfl⟩, rfl⟩
    exact ht
  · exact fun h => ⟨_, ⟨s, h, rfl⟩, rfl⟩
theorem onceT_up {ts : List ByteArray} (h : ts.Pairwise fun a b => sless b a = false) : (onceT ts).Pairwise fun a b => sless a b = true := by
  unfold onceT Lib.compact Lib.compactUpTo
  rw [List.map_map, List.pairwise_map]
  refine List.Pairwise.imp_of_mem ?_ (List.Pairwise.filter _ List.pairwise_lt_range)
  intro i j hi hj hij
  simp only [List.mem_filter, List.mem_range, List.length_map] at hi hj
  have gi : (ts.map bL).toArray[i]! = bL ts[i] := by rw [getElem!_pos _ i (by simpa using hi.1)]; simp
  have gj : (ts.map bL).toArray[j]! = bL ts[j] := by rw [getElem!_pos _ j (by simpa using hj.1)]; simp
  have gp : (ts.map bL).toArray[j - 1]! = bL (ts[j - 1]'(by omega)) := by rw [getElem!_pos _ (j - 1) (by simp; omega)]; simp
  have hk := of_decide_eq_true hj.2
  rw [gj, gp] at hk
  have hne : ts[j] ≠ ts[j - 1]'(by omega) := by
    rcases hk with hk | hk
    · omega
    · exact fun e => hk (by rw [e])
  have h1 := List.pairwise_iff_getElem.1 h (j - 1) j (by omega) hj.1 (by omega)
  show sless (bA (ts.map bL).toArray[i]!) (bA (ts.map bL).toArray[j]!) = true
  rw [gi, gj]
  show sless ts[i] ts[j] = true
  have h2 : sless (ts[j - 1]'(by omega)) ts[j] = true := by
    rcases sless_tri (ts[j - 1]'(by omega)) ts[j] with ⟨p, _, _⟩ | ⟨_, p, _⟩ | p
    · exact p
    · rw [p] at h1; cases h1
    · exact absurd p.symm hne
  by_cases hij' : i = j - 1
  · subst hij'; exact h2
  · have h3 := List.pairwise_iff_getElem.1 h i (j - 1) hi.1 (by omega) (by omega)
    rcases sless_tri ts[i] (ts[j - 1]'(by omega)) with ⟨p, _, _⟩ | ⟨_, p, _⟩ | p
    · exact sless_trans _ _ _ p h2
    · rw [p] at h3; cases h3
    · rw [p]; exact h2
-- texts of one's own
theorem flat_T {enc : ByteArray → List Value} (he : ∀ s, enc s = [.string s]) : ∀ ts : List ByteArray, (ts.map enc).flatten = (ts.map bL).map encStr
  | [] => rfl
  | a :: l => by rw [List.map_cons, List.flatten_cons, flat_T he l, he]; rfl
theorem OwS.holds {w : World} {v : Value} {ts : List ByteArray} {B : Nat} {enc : ByteArray → List Value} (he : ∀ s, enc s = [.string s]) (h : OwS 1 w v (ts.map enc) B) : ∃ cap cur t, v = .slice (some ⟨B, 0, none⟩) (ts.map bL).length cap ∧ ts.length ≤ cap ∧ cap ≤ maxLen ∧ w.heap[B]? = some (.cells cur t (0, 0)) ∧ cur.size = cap ∧ Holds encStr w B 0 (ts.map bL).toArray := by
  obtain ⟨_, hr, cap, sp, rfl, h1, h2, h3, t, hb⟩ := h
  simp only [List.length_map, Nat.mul_one] at h1 h3
  rw [flat_T he] at hb
  refine ⟨cap, _, t, by simp, h1, h2, hb, by simp; omega, fun j hj => ?_⟩
  have hj' : j < ts.length := by simpa using hj
  refine ⟨?_, by simp [World.frozen?, hb]⟩
  refine (Blk.range ⟨t, hb⟩) j _ ?_
  rw [List.getElem?_append_left (by simpa using hj'), getElem!_pos _ j hj]
  simp [hj']
theorem ows_cur {w : World} {B n cap : Nat} {t : TypeId} {cur : Array Value} {ts : List ByteArray} {enc : ByteArray → List Value} (he : ∀ s, enc s = [.string s]) (hb : w.heap[B]? = some (.cells cur t (0, 0))) (hs : cur.size = cap) (hn : n ≤ cap) (hc : cap ≤ maxLen) (ht : cur.toList.take n = (ts.map bL).map encStr) (hl : ts.length = n) : OwS 1 w (.slice (some ⟨B, 0, none⟩) n cap) (ts.map enc) B := by
  refine ⟨by decide, fun r hr => ?_, cap, cur.toList.drop n, by rw [List.length_map, hl], by rw [List.length_map, hl]; exact hn, hc, by rw [List.length_drop, Array.length_toList, hs, List.length_map, hl, Nat.mul_one], t, ?_⟩
  · obtain ⟨s, _, rfl⟩ := List.mem_map.1 hr
    rw [he]; rfl
  · rw [flat_T he, ← ht, List.take_append_drop]
    exact hb
theorem sort_own {P : Program} {F : FuncId} {enc : ByteArray → List Value} (he : ∀ s, enc s = [.string s]) (hS : ∀ (blk off cap : Nat) (ss : List (List UInt8)) (w : World), Holds encStr w blk off ss.toArray → blk < w.heap.size → ss.length < 4611686018427387904 → Calls P F #[.slice (some ⟨blk, off, none⟩) ss.length cap] w fun e w' => e = .returned (.tuple #[]) ∧ ∃ n os, w' = grow (putRow encStr (Sort.ahead w n) blk off (ss.mergeSort fun x y => decide (x ≤ y)).toArray) os)
    {w : World} {v : Value} {ts : List ByteArray} {B : Nat} (h : OwS 1 w v (ts.map enc) B) (hlen : ts.length ≤ 1000000) : Calls P F [v].toArray w fun e w' => ∃ x, e = .returned x ∧ x = .tuple #[] ∧ OwS 1 w' v ((sortT ts).map enc) B ∧ Chg B w w' := by
  have hlt := h.lt
  obtain ⟨cap, cur, t, rfl, h1, h2, h3, h4, h5⟩ := h.holds he
  refine (hS B 0 cap (ts.map bL) w h5 hlt (by simp; omega)).mono ?_
  rintro e w' ⟨rfl, n, os, rfl⟩
  have hg := grownBy_sorted (w := w) (g := B) (n := n) (os := os) ((ts.map bL).mergeSort fun x y => decide (x ≤ y)).toArray
  refine ⟨_, rfl, rfl, ?_, hg.os, hg.tape, hg.output, hg.size, fun k hk hne => hg.block k hk (by simpa using hne)⟩
  refine ows_cur he (heap_sorted _ h3) (by simp [putCells, h4]) (by simpa using h1) h2 ?_ (by simp [sortT_len])
  have hl : ((ts.map bL).mergeSort fun x y => decide (x ≤ y)).length = (ts.map bL).length := List.length_mergeSort _
  have := take_putCells cur ((ts.map bL).mergeSort fun x y => decide (x ≤ y)) (by rw [hl, List.length_map]; omega)
  rw [hl] at this
  rw [this]
  simp [sortT, Function.comp_def]
theorem once_own {P : Program} {F : FuncId} {enc : ByteArray → List Value} (he : ∀ s, enc s = [.string s]) (hS : ∀ (blk off cap : Nat) (zs : List (List UInt8)) (w : World), Holds encStr w blk off zs.toArray → zs.length ≤ 9223372036854775807 → zs.length ≤ cap → Calls P F #[.slice (some ⟨blk, off, none⟩) zs.length cap] w fun e w' => e = .returned (.slice (some ⟨blk, off, none⟩) (Lib.compact zs).length cap) ∧ ∃ q, w' = putRow encStr (Sort.ahead w q) blk off (Lib.compact zs ++ List.replicate (zs.length - (Lib.compact zs).length) []).toArray)
    {w : World} {v : Value} {ts : List ByteArray} {B : Nat} (h : OwS 1 w v (ts.map enc) B) (hlen : ts.length ≤ 1000000) : Calls P F [v].toArray w fun e w' => ∃ x, e = .returned x ∧ OwS 1 w' x ((onceT ts).map enc) B ∧ Chg B w w' := by
  have hlt := h.lt
  obtain ⟨cap, cur, t, rfl, h1, h2, h3, h4, h5⟩ := h.holds he
  have hle := Lib.compact_length_le (ts.map bL)
  rw [List.length_map] at hle
  refine (hS B 0 cap (ts.map bL) w h5 (by simp; omega) (by simpa using h1)).mono ?_
  rintro e w' ⟨rfl, q, rfl⟩
  refine ⟨_, rfl, ?_, ⟨rfl, rfl, rfl, by simp [putRow, mapBlock, Sort.ahead], fun k hk hne => ?_⟩⟩
  · have hb : (putRow encStr (Sort.ahead w q) B 0 (Lib.compact (ts.map bL) ++ List.replicate ((ts.map bL).length - (Lib.compact (ts.map bL)).length) []).toArray).heap[B]? = some (.cells (putCells encStr 0 (Lib.compact (ts.map bL) ++ List.replicate ((ts.map bL).length - (Lib.compact (ts.map bL)).length) []).toArray cur) t (0, 0)) := by
      simp [putRow, mapBlock, Sort.ahead, Array.getElem?_modify, h3, onCells]
    refine ows_cur he hb (by simp [putCells, h4]) (by omega) h2 ?_ (by simp [onceT])
    have hl : (Lib.compact (ts.map bL) ++ List.replicate ((ts.map bL).length - (Lib.compact (ts.map bL)).length) []).length = ts.length := by simp; omega
    have := take_putCells cur (Lib.compact (ts.map bL) ++ List.replicate ((ts.map bL).length - (Lib.compact (ts.map bL)).length) []) (by omega)
    rw [hl] at this
    have h6 : ∀ l : List Value, (l.take ts.length).take (Lib.compact (ts.map bL)).length = l.take (Lib.compact (ts.map bL)).length := fun l => by rw [List.take_take]; congr 1; omega
    rw [← h6, this, List.map_append, List.take_append_of_le_length (by simp), List.take_of_length_le (by simp)]
    simp [onceT, Function.comp_def]
  · simp [putRow, mapBlock, Sort.ahead, Array.getElem?_modify, Ne.symm hne]
/-- Nil, or a slice of one's own that is new since the base. -/
def NewW (s base : Nat) (rs : List (List Value)) (u : Value) (w : World) : Prop := (u = .slice none 0 0 ∧ rs = [] ∧ 0 < s) ∨ ∃ B, base ≤ B ∧ OwS s w u rs B
theorem NewW.below {s base : Nat} {rs : List (List Value)} {u : Value} {w w' : World} (h : NewW s base rs u w) (hb : Below w.heap.size w w') : NewW s base rs u w' := by
  rcases h with h | ⟨B, h1, h2⟩
  · exact .inl h
  · exact .inr ⟨B, h1, h2.below hb⟩
theorem NewW.le {s base n : Nat} {rs : List (List Value)} {u : Value} {w : World} (h : NewW s base rs u w) (hn : n ≤ base) : NewW s n rs u w := by
  rcases h with h | ⟨B, h1, h2⟩
  · exact .inl h
  · exact .inr ⟨B, Nat.le_trans hn h1, h2⟩
theorem NewW.rd {s base : Nat} {rs : List (List Value)} {u : Value} {w : World} (h : NewW s base rs u w) {L : List Nat} (hL : ∀ x ∈ L, x < base) : RdF s L w u rs := by
  rcases h with ⟨rfl, rfl, h0⟩ | ⟨B, h1, h2⟩
  · exact RdF.nil h0
  · exact h2.rd (fun hx => by have := hL B hx; omega)
theorem NewS.own {s base : Nat} {rs : List (List Value)} {u : Value} {w : World} (h : NewS s base rs u w) (hn : rs ≠ []) : ∃ B, base ≤ B ∧ OwS s w u rs B := by
  rcases h with ⟨_, h, _⟩ | ⟨B, sp, h1, rfl, h3, _⟩
  · exact absurd h hn
  · exact ⟨B, h1, h3.own⟩
theorem GrowB.from_base {B B' base : Nat} {w w' : World} (h : GrowB B B' w w') (hB : base ≤ B) (hs : base ≤ w.heap.size) : Below base w w' := ⟨h.os, h.tape, h.output, h.size, fun k hk => h.block k (by omega) (by omega)⟩
theorem sort_new {P : Program} {F : FuncId} {enc : ByteArray → List Value} (he : ∀ s, enc s = [.string s]) (hS : ∀ (blk off cap : Nat) (ss : List (List UInt8)) (w : World), Holds encStr w blk off ss.toArray → blk < w.heap.size → ss.length < 4611686018427387904 → Calls P F #[.slice (some ⟨blk, off, none⟩) ss.length cap] w fun e w' => e = .returned (.tuple #[]) ∧ ∃ n os, w' = grow (putRow encStr (Sort.ahead w n) blk off (ss.mergeSort fun x y => decide (x ≤ y)).toArray) os)
    (hN : ∀ (p : Option Addr) (cap : Nat) (w : World), Calls P F #[.slice p 0 cap] w fun e w' => e = .returned (.tuple #[]) ∧ w' = w)
    {w : World} {v : Value} {ts : List ByteArray} {base : Nat} (h : NewW 1 base (ts.map enc) v w) (hb : base ≤ w.heap.size) (hlen : ts.length ≤ 1000000) : Calls P F [v].toArray w fun e w' => ∃ x, e = .returned x ∧ NewW 1 base ((sortT ts).map enc) v w' ∧ Below base w w' := by
  rcases h with ⟨rfl, h, _⟩ | ⟨B, h1, h2⟩
  · have ht : ts = [] := by simpa using h
    subst ht
    exact (hN none 0 w).mono fun e w' ⟨h1, h2⟩ => ⟨_, h1, .inl ⟨rfl, by simp [sortT], by decide⟩, by rw [h2]; exact Below.refl _ _⟩
  · exact (sort_own he hS h2 hlen).mono fun e w' ⟨x, h3, _, h4, h5⟩ => ⟨x, h3, .inr ⟨B, h1, h4⟩, h5.from_base h1 hb⟩
theorem once_new {P : Program} {F : FuncId} {enc : ByteArray → List Value} (he : ∀ s, enc s = [.string s]) (hS : ∀ (blk off cap : Nat) (zs : List (List UInt8)) (w : World), Holds encStr w blk off zs.toArray → zs.length ≤ 9223372036854775807 → zs.length ≤ cap → Calls P F #[.slice (some ⟨blk, off, none⟩) zs.length cap] w fun e w' => e = .returned (.slice (some ⟨blk, off, none⟩) (Lib.compact zs).length cap) ∧ ∃ q, w' = putRow encStr (Sort.ahead w q) blk off (Lib.compact zs ++ List.replicate (zs.length - (Lib.compact zs).length) []).toArray)
    (hN : ∀ (p : Option Addr) (cap : Nat) (w : World), Calls P F #[.slice p 0 cap] w fun e w' => e = .returned (.slice p 0 cap) ∧ w' = w)
    {w : World} {v : Value} {ts : List ByteArray} {base : Nat} (h : NewW 1 base (ts.map enc) v w) (hb : base ≤ w.heap.size) (hlen : ts.length ≤ 1000000) : Calls P F [v].toArray w fun e w' => ∃ x, e = .returned x ∧ NewW 1 base ((onceT ts).map enc) x w' ∧ Below base w w' := by
  rcases h with ⟨rfl, h, _⟩ | ⟨B, h1, h2⟩
  · have ht : ts = [] := by simpa using h
    subst ht
    exact (hN none 0 w).mono fun e w' ⟨h1, h2⟩ => ⟨_, h1, .inl ⟨rfl, by simp [onceT, Lib.compact, Lib.compactUpTo], by decide⟩, by rw [h2]; exact Below.refl _ _⟩
  · exact (once_own he hS h2 hlen).mono fun e w' ⟨x, h3, h4, h5⟩ => ⟨x, h3, .inr ⟨B, h1, h4⟩, h5.from_base h1 hb⟩
section
variable {P : Program} {ops : Array Oper} {o : Oper} {N : Nat} {f : Fl} {w : World} {R : Value → World → Prop}
/-- A slice of two that is written out, of elements of one cell. -/
theorem dx_lit2 {t bytes : Nat} {x y : Operand} {V U : Value} (ho : o.op = .buildSlice t 2 #[(0, x), (1, y)]) (ht : apB P t 1 bytes = true) (hx : ev f x = some V) (hy : ev f y = some U) (hV : V.cells.toList = [V]) (hU : U.cells.toList = [U]) (hw : wantF ops o f = some true := by rfl) : DR P ops o N f w (NewO 1 w [[V], [U]]) := by
  have hV : V.cells = #[V] := Array.ext' hV
  have hU : U.cells = #[U] := Array.ext' hU
  obtain ⟨e, i, Z, hu, hi, hZ, hs, rfl, hzs⟩ := of_apB ht
  refine dx_lit (ps := [(0, V), (1, U)]) (rs := [[V], [U]]) ho hu hi hZ hs (by decide) (by simp [evl, hx, hy]) (by omega) ?_ (by simp) rfl (by unfold maxLen; omega) hw
  rw [if_neg (by decide)]
  have hl : ∀ c : Array Value, c.size = 2 → Instr.fill (fun k => some (k * 1, 1)) c [(0, V), (1, U)] = some #[V, U] := fun c hc => by
    obtain ⟨l⟩ := c
    match l, hc with
    | [a, b], _ => simp [Instr.fill, hV, hU]
  exact hl _ (by simp)
/-- A cell of an element of a slice of one's own, stored. -/
theorem dx_storeF {t s B k j o0 : Nat} {x y : Operand} {V v : Value} {rs : List (List Value)} {r : List Value} (ho : o.op = .store t x y) (ht : sizeB P t 1 = true) (hx : ev f x = some (.pointer (some ⟨B, o0, none⟩))) (hy : ev f y = some V) (hv : V.cells.toList = [V]) (h1 : V.oneCell' = true)
    (hr : OwS s w v rs B) (hk : k * s + j = o0) (hi : rs[k]? = some r) (hj : j < s) (hw : wantF ops o f = some true := by rfl) : DR P ops o N f w fun _ W => OwS s W v (rs.set k (r.set j V)) B ∧ Only B w W := by
  obtain ⟨h0, hrl, cap, sp, rfl, h2, h3, h4, h5⟩ := hr
  obtain ⟨hkl, hrk⟩ := List.getElem?_eq_some_iff.1 hi
  have hl : r.length = s := hrl r (List.mem_of_getElem? hi)
  have hlen : (k + 1) * s ≤ rs.flatten.length := by rw [flat_len hrl]; exact Nat.mul_le_mul_right _ hkl
  rw [Nat.succ_mul] at hlen
  have hf := flat_set hrl (r' := r.set j V) (by rw [List.length_set]; exact hl) hkl sp
  refine (dx_store (cs' := (rs.set k (r.set j V)).flatten ++ sp) (vs := [V]) ho ht hx hy hv (oc_cons h1 oc_nil) h5 rfl (by rw [List.length_append]; omega) ?_ hw).mono fun _ W h => ⟨⟨h0, fun r' hr' => ?_, cap, sp, by rw [List.length_set], by rw [List.length_set]; exact h2, h3, by rw [List.length_set]; exact h4, h.1⟩, h.2⟩
  · rw [← hf, ← hk]
    have hd : (rs.flatten ++ sp).drop (k * s) = r ++ (rs.flatten ++ sp).drop (k * s + s) := by
      have e1 : (rs.flatten ++ sp).drop (k * s) = ((rs.flatten ++ sp).drop (k * s)).take s ++ ((rs.flatten ++ sp).drop (k * s)).drop s := (List.take_append_drop _ _).symm
      have e2 : ((rs.flatten ++ sp).drop (k * s)).take s = r := by
        rw [List.drop_append_of_le_length (by omega), List.take_append_of_le_length (by rw [List.length_drop]; omega)]
        exact flat_row hrl hi
      rw [e1, e2, List.drop_drop]
    have hrs : r.set j V = r.take j ++ ([V] ++ r.drop (j + 1)) := by rw [List.set_eq_take_append_cons_drop, if_pos (by omega)]; rfl
    have e3 : (rs.flatten ++ sp).take (k * s + j) = (rs.flatten ++ sp).take (k * s) ++ r.take j := by
      rw [List.take_add, hd]
      congr 1
      exact List.take_append_of_le_length (by omega)
    have e4 : (rs.flatten ++ sp).drop (k * s + j + 1) = r.drop (j + 1) ++ (rs.flatten ++ sp).drop (k * s + s) := by
      rw [show k * s + j + 1 = k * s + (j + 1) by omega, ← List.drop_drop, hd, List.drop_append_of_le_length (by omega)]
    rw [e3, e4, hrs]
    simp [List.append_assoc]
  · rcases List.mem_or_eq_of_mem_set hr' with h | h
    · exact hrl r' h
    · rw [h, List.length_set]; exact hl
/-- An append to what is new. -/
theorem dx_apW {t s bytes base : Nat} {x y : Operand} {u v2 : Value} {rs news : List (List Value)} {L : List Nat} (ho : o.op = .call { callee := .builtin .append, args := #[x, y], argTypes := #[t, t] }) (ht : apB P t s bytes = true) (hx : ev f x = some u) (hy : ev f y = some v2)
    (h : NewW s base rs u w) (h2 : RdF s L w v2 news) (h1 : ∀ r ∈ news, ∀ u ∈ r, u.oneCell' = true) (hm : rs.length + news.length ≤ maxLen) (hby : (rs.length + news.length) * bytes ≤ 140737488355328) (hb : base ≤ w.heap.size) (hw : wantF ops o f = some true := by rfl) : DR P ops o N f w fun u' W => NewW s base (rs ++ news) u' W ∧ Below base w W := fun a ha => by
  rcases h with ⟨rfl, rfl, h0⟩ | ⟨B, hB, hO⟩
  · by_cases hn : news = []
    · subst hn
      obtain ⟨e, q, Z, hu, hi, hz, rfl, rfl, hzs⟩ := of_apB ht
      have hx := ha.ev hx
      have hy := ha.ev hy
      obtain ⟨_, hl2, a2, cap2, rfl, hd1, hd2, hd3, hd4⟩ := h2
      have hr0 : (Builtin.append_ #[t, t] o.type #[.slice none 0 0, .slice a2 0 cap2]).run P w = .ok (.slice none 0 0) w := by
        cases a2 with
        | none => simp [Builtin.append_, run_underlying hu, sizeOf, typeInfo, hi, Builtin.lenOf, Builtin.firstCells, storeCells]
        | some a2 => simp [Builtin.append_, run_underlying hu, sizeOf, typeInfo, hi, Builtin.lenOf, Builtin.firstCells, loadCells, loadCellsFrom, storeCells]
      refine Does.of_wp (wantF_of ha hw) fun K hK => ?_
      unfold Oper.wp execOp
      simp only [List.length_nil] at hy
      simp only [ho, resolve, invoke, builtin, Sem.run_bind, Sem.run_pure, Result.andThen_ok, List.map_toArray, List.map_cons, List.map_nil, hx, hy, hr0]
      exact hK _ _ ⟨.inl ⟨rfl, rfl, h0⟩, Below.refl _ _⟩
    · refine Does.mono (dx_apF (rs := []) ho ht hx hy (RdF.nil (L := L) h0) h2 hn hm hby hw a ha) fun v W ⟨k1, k2, k3⟩ => ⟨.inr ⟨_, hb, k1⟩, k2.mono hb⟩
  · exact Does.mono (dx_apO' ho ht hx hy hO h2 h1 hm hby hw a ha) fun v W ⟨B', k1, k2⟩ => ⟨.inr ⟨B', k2.le hB hb, k1⟩, k2.from_base hB hb⟩
/-- nil[:0] and nil[0:0]. -/
theorem dx_slNH {t s : Nat} {x y : Operand} {K : IntKind} (ho : o.op = .slice t x none (some y) none) (ht : sliceB P t s = true) (hx : ev f x = some (.slice none 0 0)) (hy : ev f y = some (.int K 0)) (hw : wantF ops o f = some true := by rfl) : DV P ops o N f w (.slice none 0 0) := fun a ha => by
  obtain ⟨e, hu, hs⟩ := of_sliceB ht
  have hx := ha.ev hx
  have hy := ha.ev hy
  cases hi : P.info? e with
  | none => rw [hi] at hs; cases hs
  | some q =>
    refine Does.pure (wantF_of ha hw) _ ?_ ⟨rfl, rfl⟩
    unfold execOp
    simp only [ho, Option.map_none, Option.map_some, hx, hy, Instr.sliceAt, Sem.run_bind, run_underlying hu, Result.andThen_ok, Instr.slice, Instr.sliceBounds, Instr.sliceBound, asIntOf, Sem.run_pure, sizeOf, typeInfo, run_program, hi]
    rw [if_pos (by decide)]
    exact rfl
/-- An append of zeros to nil: room for so many. -/
theorem dx_apZ0 {t tn s bytes : Nat} {K kn : IntKind} {x y : Operand} {j : Int} (m : Nat) (ho : o.op = .call { callee := .builtin .append, args := #[x, y], argTypes := #[t, tn] }) (ht : apB P t s bytes = true) (htn : P.underlying tn = some (.int kn)) (hs : 0 < s) (hx : ev f x = some (.slice none 0 0)) (hy : ev f y = some (.int K j)) (hj : j = (m : Int)) (hm0 : 0 < m) (hm : m ≤ 1000000) (hby : m * bytes ≤ 140737488355328) (hw : wantF ops o f = some true := by rfl) :
    DR P ops o N f w fun u W => ∃ c, u = .slice (some ⟨w.heap.size, 0, none⟩) m c ∧ m ≤ c ∧ OwS s W (.slice (some ⟨w.heap.size, 0, none⟩) 0 c) [] w.heap.size ∧ Below w.heap.size w W ∧ w.heap.size < W.heap.size := fun a ha => by
  subst hj
  obtain ⟨e, q, Z, hu, hi', hz, rfl, rfl, hzs⟩ := of_apB ht
  have hx := ha.ev hx
  have hy := ha.ev hy
  have hrun := Lib.run_append_nil_zeros (P := P) w t tn o.type e q Z K kn hu htn hi' hz m hm0 hs (by omega) (by omega)
  have hge : m ≤ grownCap w m 0 e := by have := grownCap_ge w m 0 e; omega
  refine Does.of_wp (wantF_of ha hw) fun K hK => ?_
  unfold Oper.wp execOp
  simp only [ho, resolve, invoke, builtin, Sem.run_bind, Sem.run_pure, Result.andThen_ok, List.map_toArray, List.map_cons, List.map_nil, hx, hy, hrun]
  refine hK _ _ ⟨_, rfl, hge, ⟨hs, by simp, grownCap w m 0 e, (Builtin.zeroCells Z.cells m ++ Builtin.zeroCells Z.cells (grownCap w m 0 e - m)).toList, by simp, by simp, grownCap_le_maxLen _ _ _ _ (by unfold maxLen; omega), ?_, e, ?_⟩, below_alloc (below_draws (Below.refl _ _) 1) _, ?_⟩
  · rw [Array.length_toList, Array.size_append, size_zeroCells, size_zeroCells, hzs, ← Nat.add_mul, List.length_nil, Nat.sub_zero]
    congr 1
    omega
  · rw [show w.heap.size = w.drew.heap.size from (World.size_drew w).symm, heap_alloc_new]
    simp
  · rw [World.size_alloc, World.size_drew]
    omega
end
end Go.Proofs.YthefddclefimoaaGreatDoor
