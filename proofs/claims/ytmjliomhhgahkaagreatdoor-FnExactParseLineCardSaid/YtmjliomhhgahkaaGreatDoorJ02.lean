import Derived.Test.YtmjliomhhgahkaaGreatDoorJ01
import Derived.Shelf.Strconv.ParseIntPublic10
import Derived.Shelf.GgClosure.StringsRunes
import Derived.Shelf.Strings.Prefix
import Derived.Shelf.Strings.Split
import Derived.Shelf.Slices.Turned
import Derived.Deep.AppendLies
import Derived.Laws.OwnMore
namespace Go.Proofs.YtmjliomhhgahkaaGreatDoor
open Go.Shelf
def Tryz.laysC174_ren : Go.Shelf.Ren := ⟨fun | 174 => 74 | 247 => 78 | 245 => 79 | 287 => 81 | 279 => 82 | 280 => 83 | 281 => 84 | 282 => 85 | 321 => 86 | 322 => 87 | 316 => 88 | 171 => 90 | 205 => 89 | 243 => 91 | 246 => 92 | 283 => 93 | 284 => 94 | 285 => 95 | 286 => 96 | 129 => 98 | 317 => 97 | 318 => 99 | 319 => 100 | 320 => 101 | 337 => 102 | 338 => 103 | n => n, fun | 9 => 9 | 3 => 3 | 2 => 2 | 75 => 94 | 85 => 95 | 4 => 4 | 167 => 106 | 5 => 5 | 53 => 107 | 175 => 108 | 46 => 90 | 168 => 110 | 37 => 22 | 0 => 0 | 210 => 115 | 21 => 21 | 127 => 117 | 145 => 120 | 143 => 118 | 171 => 122 | 173 => 125 | 212 => 128 | 51 => 101 | 20 => 20 | 213 => 129 | 232 => 133 | 233 => 134 | 80 => 135 | n => n, fun | 15 => 4 | 16 => 5 | 17 => 6 | 18 => 7 | 19 => 8 | n => n⟩
theorem Tryz.laysC174 : Go.Proofs.LaysC.n174 Tryz.prog Tryz.laysC174_ren := {
  mixed := by kernel_rfl
  f129 := Tryz.func98.trans (congrArg some (by kernel_rfl))
  f171 := Tryz.func90.trans (congrArg some (by kernel_rfl))
  f174 := Tryz.func74.trans (congrArg some (by kernel_rfl))
  f205 := Tryz.func89.trans (congrArg some (by kernel_rfl))
  f243 := Tryz.func91.trans (congrArg some (by kernel_rfl))
  f245 := Tryz.func79.trans (congrArg some (by kernel_rfl))
  f246 := Tryz.func92.trans (congrArg some (by kernel_rfl))
  f247 := Tryz.func78.trans (congrArg some (by kernel_rfl))
  f279 := Tryz.func82.trans (congrArg some (by kernel_rfl))
  f280 := Tryz.func83.trans (congrArg some (by kernel_rfl))
  f281 := Tryz.func84.trans (congrArg some (by kernel_rfl))
  f282 := Tryz.func85.trans (congrArg some (by kernel_rfl))
  f283 := Tryz.func93.trans (congrArg some (by kernel_rfl))
  f284 := Tryz.func94.trans (congrArg some (by kernel_rfl))
  f285 := Tryz.func95.trans (congrArg some (by kernel_rfl))
  f286 := Tryz.func96.trans (congrArg some (by kernel_rfl))
  f287 := Tryz.func81.trans (congrArg some (by kernel_rfl))
  f316 := Tryz.func88.trans (congrArg some (by kernel_rfl))
  f317 := Tryz.func97.trans (congrArg some (by kernel_rfl))
  f318 := Tryz.func99.trans (congrArg some (by kernel_rfl))
  f319 := Tryz.func100.trans (congrArg some (by kernel_rfl))
  f320 := Tryz.func101.trans (congrArg some (by kernel_rfl))
  f321 := Tryz.func86.trans (congrArg some (by kernel_rfl))
  f322 := Tryz.func87.trans (congrArg some (by kernel_rfl))
  f337 := Tryz.func102.trans (congrArg some (by kernel_rfl))
  f338 := Tryz.func103.trans (congrArg some (by kernel_rfl))
  t0 := Tryz.underlying0
  a0 := Tryz.isAgg0
  z0 := Tryz.sizeOf0
  v0 := Tryz.zeroValue0
  t2 := Tryz.underlying2
  a2 := Tryz.isAgg2
  z2 := Tryz.sizeOf2
  v2 := Tryz.zeroValue2
  t3 := Tryz.underlying3
  a3 := Tryz.isAgg3
  z3 := Tryz.sizeOf3
  v3 := Tryz.zeroValue3
  t4 := Tryz.underlying4
  a4 := Tryz.isAgg4
  z4 := Tryz.sizeOf4
  v4 := Tryz.zeroValue4
  t5 := Tryz.underlying5
  a5 := Tryz.isAgg5
  z5 := Tryz.sizeOf5
  v5 := Tryz.zeroValue5
  t9 := Tryz.underlying9
  a9 := Tryz.isAgg9
  z9 := Tryz.sizeOf9
  v9 := Tryz.zeroValue9
  t20 := Tryz.underlying20
  a20 := Tryz.isAgg20
  z20 := Tryz.sizeOf20
  v20 := Tryz.zeroValue20
  t21 := Tryz.underlying21
  a21 := Tryz.isAgg21
  z21 := Tryz.sizeOf21
  v21 := Tryz.zeroValue21
  t37 := Tryz.underlying22
  a37 := Tryz.isAgg22
  z37 := Tryz.sizeOf22
  v37 := Tryz.zeroValue22
  t46 := Tryz.underlying90
  a46 := Tryz.isAgg90
  z46 := Tryz.sizeOf90
  v46 := Tryz.zeroValue90
  t51 := Tryz.underlying101
  a51 := Tryz.isAgg101
  z51 := Tryz.sizeOf101
  v51 := Tryz.zeroValue101
  t53 := Tryz.underlying107
  a53 := Tryz.isAgg107
  z53 := Tryz.sizeOf107
  v53 := Tryz.zeroValue107
  t75 := Tryz.underlying94
  a75 := Tryz.isAgg94
  z75 := Tryz.sizeOf94
  v75 := Tryz.zeroValue94
  t85 := Tryz.underlying95
  a85 := Tryz.isAgg95
  z85 := Tryz.sizeOf95
  v85 := Tryz.zeroValue95
  t127 := Tryz.underlying117
  a127 := Tryz.isAgg117
  z127 := Tryz.sizeOf117
  v127 := Tryz.zeroValue117
  t143 := Tryz.underlying118
  a143 := Tryz.isAgg118
  z143 := Tryz.sizeOf118
  v143 := Tryz.zeroValue118
  t145 := Tryz.underlying120
  a145 := Tryz.isAgg120
  z145 := Tryz.sizeOf120
  v145 := Tryz.zeroValue120
  t167 := Tryz.underlying106
  a167 := Tryz.isAgg106
  z167 := Tryz.sizeOf106
  v167 := Tryz.zeroValue106
  t168 := Tryz.underlying110
  a168 := Tryz.isAgg110
  z168 := Tryz.sizeOf110
  v168 := Tryz.zeroValue110
  t171 := Tryz.underlying122
  a171 := Tryz.isAgg122
  z171 := Tryz.sizeOf122
  v171 := Tryz.zeroValue122
  t173 := Tryz.underlying125
  a173 := Tryz.isAgg125
  z173 := Tryz.sizeOf125
  v173 := Tryz.zeroValue125
  t175 := Tryz.underlying108
  a175 := Tryz.isAgg108
  z175 := Tryz.sizeOf108
  v175 := Tryz.zeroValue108
  t210 := Tryz.underlying115
  a210 := Tryz.isAgg115
  z210 := Tryz.sizeOf115
  v210 := Tryz.zeroValue115
  t212 := Tryz.underlying128
  a212 := Tryz.isAgg128
  z212 := Tryz.sizeOf128
  v212 := Tryz.zeroValue128
  t213 := Tryz.underlying129
  a213 := Tryz.isAgg129
  z213 := Tryz.sizeOf129
  t232 := Tryz.underlying133
  a232 := Tryz.isAgg133
  z232 := Tryz.sizeOf133
  v232 := Tryz.zeroValue133
  t233 := Tryz.underlying134
  a233 := Tryz.isAgg134
  z233 := Tryz.sizeOf134
  v233 := Tryz.zeroValue134
  g15 := by kernel_rfl
  g16 := by kernel_rfl
  g17 := by kernel_rfl
  g18 := by kernel_rfl
  g19 := by kernel_rfl
  t80 := Tryz.underlying135
  a80 := Tryz.isAgg135
  z80 := Tryz.sizeOf135
  v80 := Tryz.zeroValue135
  i0 := by kernel_rfl
  i2 := by kernel_rfl
  i3 := by kernel_rfl
  i4 := by kernel_rfl
  i5 := by kernel_rfl
  i9 := by kernel_rfl
  i20 := by kernel_rfl
  i21 := by kernel_rfl
  i37 := by kernel_rfl
  i46 := by kernel_rfl
  i51 := by kernel_rfl
  i53 := by kernel_rfl
  i75 := by kernel_rfl
  i80 := by kernel_rfl
  i85 := by kernel_rfl
  i127 := by kernel_rfl
  i143 := by kernel_rfl
  i145 := by kernel_rfl
  i167 := by kernel_rfl
  i168 := by kernel_rfl
  i171 := by kernel_rfl
  i173 := by kernel_rfl
  i175 := by kernel_rfl
  i210 := by kernel_rfl
  i212 := by kernel_rfl
  i232 := by kernel_rfl
  i233 := by kernel_rfl
  m15 := by kernel_rfl
  m16 := by kernel_rfl
  m17 := by kernel_rfl
  m18 := by kernel_rfl
  m19 := by kernel_rfl
  c0 := by kernel_rfl
  c2 := by kernel_rfl
  c3 := by kernel_rfl
  c4 := by kernel_rfl
  c5 := by kernel_rfl
  c9 := by kernel_rfl
  c20 := by kernel_rfl
  c21 := by kernel_rfl
  c37 := by kernel_rfl
  c46 := by kernel_rfl
  c51 := by kernel_rfl
  c53 := by kernel_rfl
  c75 := by kernel_rfl
  c80 := by kernel_rfl
  c85 := by kernel_rfl
  c127 := by kernel_rfl
  c143 := by kernel_rfl
  c145 := by kernel_rfl
  c167 := by kernel_rfl
  c168 := by kernel_rfl
  c171 := by kernel_rfl
  c173 := by kernel_rfl
  c175 := by kernel_rfl
  c210 := by kernel_rfl
  c212 := by kernel_rfl
  c213 := by kernel_rfl
  c232 := by kernel_rfl
  c233 := by kernel_rfl }
open Go.RowKit in
theorem Tryz.strconv_ParseInt_10_at64_ok (s : ByteArray) (hmax : s.size ≤ 9223372036854775806) (v : Int) (h : Lib.parseIntB 64 s.data.toList = .ok v) (w : World) :
    Calls Tryz.prog 74 #[.string s, .int .i64 10, .int .i64 64] w fun e w' => e = .returned (.tuple #[.int .i64 v, .nilIface]) ∧ (w' = w ∨ ∃ t, w' = Lib.bytesWorld w 5 t) := Any.strconv_ParseInt_10_at64_ok Tryz.laysC174 s hmax v h w
open Go.RowKit in
theorem Tryz.strconv_ParseInt_10_at64_no (s : ByteArray) (hlim : s.size ≤ 281474976710656) (h : Lib.parseIntB 64 s.data.toList = Lib.parseIntB 64 []) (ev : Value) (w : World) (hv : w.cell? ⟨4, 0, none⟩ = some ev) (hev : ev = .nilIface ∨ ∃ te pe, ev = .iface te pe) :
    Calls Tryz.prog 74 #[.string s, .int .i64 10, .int .i64 64] w fun e w' => ∃ N, e = .returned (.tuple #[.int .i64 (0), .iface 110 (.pointer (some ⟨N, 0, none⟩))]) ∧ w.heap.size ≤ N ∧ w'.heap[N]? = some (.cells #[.string ⟨#[80, 97, 114, 115, 101, 73, 110, 116]⟩, .string s, ev] 115 (0, 0)) ∧ Below w.heap.size w w' := Any.strconv_ParseInt_10_at64_syntax Tryz.laysC174 s hlim h ev w hv hev
def Tryz.laysGw17_ren : Go.Shelf.Ren := ⟨fun | 17 => 32 | 15 => 49 | 20 => 63 | n => n, fun | 9 => 9 | 23 => 66 | 4 => 4 | 3 => 3 | 0 => 0 | 21 => 21 | n => n, fun | n => n⟩
theorem Tryz.laysGw17 : Go.Proofs.LaysGw.n17 Tryz.prog Tryz.laysGw17_ren := {
  mixed := by kernel_rfl
  f15 := Tryz.func49.trans (congrArg some (by kernel_rfl))
  f17 := Tryz.func32.trans (congrArg some (by kernel_rfl))
  f20 := Tryz.func63.trans (congrArg some (by kernel_rfl))
  t0 := Tryz.underlying0
  a0 := Tryz.isAgg0
  z0 := Tryz.sizeOf0
  v0 := Tryz.zeroValue0
  i0 := by kernel_rfl
  t3 := Tryz.underlying3
  a3 := Tryz.isAgg3
  z3 := Tryz.sizeOf3
  v3 := Tryz.zeroValue3
  i3 := by kernel_rfl
  t4 := Tryz.underlying4
  a4 := Tryz.isAgg4
  z4 := Tryz.sizeOf4
  v4 := Tryz.zeroValue4
  i4 := by kernel_rfl
  t9 := Tryz.underlying9
  a9 := Tryz.isAgg9
  z9 := Tryz.sizeOf9
  v9 := Tryz.zeroValue9
  i9 := by kernel_rfl
  t21 := Tryz.underlying21
  a21 := Tryz.isAgg21
  z21 := Tryz.sizeOf21
  v21 := Tryz.zeroValue21
  i21 := by kernel_rfl
  t23 := Tryz.underlying66
  a23 := Tryz.isAgg66
  z23 := Tryz.sizeOf66
  v23 := Tryz.zeroValue66
  i23 := by kernel_rfl }
open Go.RowKit Go.Lib in
theorem Tryz.strings_ContainsFunc_runes (g : Nat) (lb : Array Value) (eg : ∀ args w, (callFunc g args).run Tryz.prog w = .ok (.enter g args) w) (p : Nat → Bool) (s : ByteArray) (w : World) (hp : PredAtRunes Tryz.prog g lb p w) :
    Calls Tryz.prog 32 #[.string s, .func (.func g) #[] lb] w fun e w' => e = .returned (.bool (decide (0 ≤ Lib.idxFunc p true s))) ∧ Below w.heap.size w w' := Any.strings_ContainsFunc_runes Tryz.laysGw17 g lb eg p s w hp
def Tryz.lays101_ren : Go.Shelf.Ren := ⟨fun | 101 => 73 | 208 => 77 | 206 => 80 | n => n, fun | 9 => 9 | 4 => 4 | 3 => 3 | n => n, fun | n => n⟩
theorem Tryz.lays101 : Go.Proofs.Lays.n101 Tryz.prog Tryz.lays101_ren := {
  mixed := by kernel_rfl
  f101 := Tryz.func73.trans (congrArg some (by kernel_rfl))
  f206 := Tryz.func80.trans (congrArg some (by kernel_rfl))
  f208 := Tryz.func77.trans (congrArg some (by kernel_rfl))
  t3 := Tryz.underlying3
  a3 := Tryz.isAgg3
  z3 := Tryz.sizeOf3
  v3 := Tryz.zeroValue3
  t4 := Tryz.underlying4
  a4 := Tryz.isAgg4
  z4 := Tryz.sizeOf4
  v4 := Tryz.zeroValue4
  t9 := Tryz.underlying9
  a9 := Tryz.isAgg9
  z9 := Tryz.sizeOf9
  v9 := Tryz.zeroValue9 }
open Go.RowKit Go.Lib in
theorem Tryz.strings_TrimPrefix (s p : ByteArray) (w : World) :
    Calls Tryz.prog 73 #[.string s, .string p] w fun e w' => e = .returned (.string ⟨(Lib.trimPrefix s.data.toList p.data.toList).toArray⟩) ∧ w' = w := Any.strings_TrimPrefix Tryz.lays101 s p w
def Tryz.lays146_ren : Go.Shelf.Ren := ⟨fun | 146 => 17 | 221 => 30 | 268 => 46 | 138 => 47 | 143 => 48 | 195 => 59 | 197 => 60 | 218 => 61 | 219 => 62 | 260 => 68 | 217 => 69 | 225 => 70 | 224 => 71 | 267 => 72 | 266 => 75 | 314 => 76 | n => n, fun | 9 => 9 | 31 => 36 | 3 => 3 | 4 => 4 | 0 => 0 | 105 => 79 | 21 => 21 | 5 => 5 | 46 => 90 | 119 => 97 | 139 => 100 | 138 => 99 | 146 => 102 | 51 => 101 | n => n, fun | 1 => 0 | 3 => 2 | 4 => 3 | n => n⟩
theorem Tryz.lays146 : Go.Proofs.Lays.n146 Tryz.prog Tryz.lays146_ren := {
  mixed := by kernel_rfl
  f138 := Tryz.func47.trans (congrArg some (by kernel_rfl))
  f143 := Tryz.func48.trans (congrArg some (by kernel_rfl))
  f146 := Tryz.func17.trans (congrArg some (by kernel_rfl))
  f195 := Tryz.func59.trans (congrArg some (by kernel_rfl))
  f197 := Tryz.func60.trans (congrArg some (by kernel_rfl))
  f217 := Tryz.func69.trans (congrArg some (by kernel_rfl))
  f218 := Tryz.func61.trans (congrArg some (by kernel_rfl))
  f219 := Tryz.func62.trans (congrArg some (by kernel_rfl))
  f221 := Tryz.func30.trans (congrArg some (by kernel_rfl))
  f224 := Tryz.func71.trans (congrArg some (by kernel_rfl))
  f225 := Tryz.func70.trans (congrArg some (by kernel_rfl))
  f260 := Tryz.func68.trans (congrArg some (by kernel_rfl))
  f266 := Tryz.func75.trans (congrArg some (by kernel_rfl))
  f267 := Tryz.func72.trans (congrArg some (by kernel_rfl))
  f268 := Tryz.func46.trans (congrArg some (by kernel_rfl))
  f314 := Tryz.func76.trans (congrArg some (by kernel_rfl))
  t0 := Tryz.underlying0
  a0 := Tryz.isAgg0
  z0 := Tryz.sizeOf0
  v0 := Tryz.zeroValue0
  t3 := Tryz.underlying3
  a3 := Tryz.isAgg3
  z3 := Tryz.sizeOf3
  v3 := Tryz.zeroValue3
  t4 := Tryz.underlying4
  a4 := Tryz.isAgg4
  z4 := Tryz.sizeOf4
  v4 := Tryz.zeroValue4
  t5 := Tryz.underlying5
  a5 := Tryz.isAgg5
  z5 := Tryz.sizeOf5
  v5 := Tryz.zeroValue5
  t9 := Tryz.underlying9
  a9 := Tryz.isAgg9
  z9 := Tryz.sizeOf9
  v9 := Tryz.zeroValue9
  t21 := Tryz.underlying21
  a21 := Tryz.isAgg21
  z21 := Tryz.sizeOf21
  v21 := Tryz.zeroValue21
  t31 := Tryz.underlying36
  a31 := Tryz.isAgg36
  z31 := Tryz.sizeOf36
  v31 := Tryz.zeroValue36
  t46 := Tryz.underlying90
  a46 := Tryz.isAgg90
  z46 := Tryz.sizeOf90
  v46 := Tryz.zeroValue90
  t51 := Tryz.underlying101
  a51 := Tryz.isAgg101
  z51 := Tryz.sizeOf101
  v51 := Tryz.zeroValue101
  t105 := Tryz.underlying79
  a105 := Tryz.isAgg79
  z105 := Tryz.sizeOf79
  v105 := Tryz.zeroValue79
  t119 := Tryz.underlying97
  a119 := Tryz.isAgg97
  z119 := Tryz.sizeOf97
  t138 := Tryz.underlying99
  a138 := Tryz.isAgg99
  z138 := Tryz.sizeOf99
  v138 := Tryz.zeroValue99
  t139 := Tryz.underlying100
  a139 := Tryz.isAgg100
  z139 := Tryz.sizeOf100
  v139 := Tryz.zeroValue100
  t146 := Tryz.underlying102
  a146 := Tryz.isAgg102
  z146 := Tryz.sizeOf102
  v146 := Tryz.zeroValue102
  g1 := by kernel_rfl
  g3 := by kernel_rfl
  g4 := by kernel_rfl }
open Go.RowKit Go.Lib in
theorem Tryz.strings_Split (s sep : ByteArray) (m : Int) (w : World) (hs : s.size < 4294967281) (hm : w.cell? ⟨0, 0, none⟩ = some (.int .i64 m)) (h1 : 1 ≤ sep.size) :
    Calls Tryz.prog 17 #[.string s, .string sep] w fun e w' =>
      e = .returned (.slice (some ⟨w.heap.size, 0, none⟩) (Lib.countB s sep + 1) (Lib.countB s sep + 1)) ∧ w' = w.alloc (.cells ((Lib.splitB sep 0 (Lib.countB s sep) s).map Value.string).toArray 9) := Any.strings_Split Tryz.lays146 (by kernel_rfl) s sep m w hs hm h1
def Tryz.lays109_ren : Go.Shelf.Ren := ⟨fun | 109 => 51 | n => n, fun | 31 => 36 | 9 => 9 | 3 => 3 | 0 => 0 | 4 => 4 | n => n, fun | n => n⟩
theorem Tryz.lays109 : Go.Proofs.Lays.n109 Tryz.prog Tryz.lays109_ren := {
  mixed := by kernel_rfl
  f109 := Tryz.func51.trans (congrArg some (by kernel_rfl))
  t0 := Tryz.underlying0
  a0 := Tryz.isAgg0
  z0 := Tryz.sizeOf0
  v0 := Tryz.zeroValue0
  t3 := Tryz.underlying3
  a3 := Tryz.isAgg3
  z3 := Tryz.sizeOf3
  v3 := Tryz.zeroValue3
  t4 := Tryz.underlying4
  a4 := Tryz.isAgg4
  z4 := Tryz.sizeOf4
  v4 := Tryz.zeroValue4
  t9 := Tryz.underlying9
  a9 := Tryz.isAgg9
  z9 := Tryz.sizeOf9
  v9 := Tryz.zeroValue9
  t31 := Tryz.underlying36
  a31 := Tryz.isAgg36
  z31 := Tryz.sizeOf36
  v31 := Tryz.zeroValue36 }
open Go.Lib in
theorem Tryz.slices_Index_string (b off n c : Nat) (zs : List ByteArray) (x : ByteArray) (w : World) (hz : n ≤ zs.length) (hbig : n ≤ 9223372036854775807) (hc : ∀ j, j < zs.length → w.cell? ⟨b, off + j, none⟩ = some (.string (zs.getD j ByteArray.empty))) :
    Calls Tryz.prog 51 #[.slice (some ⟨b, off, none⟩) n c, .string x] w fun e w' => e = .returned (.int .i64 (Lib.idxOfS (zs.take n) x)) ∧ w' = w := Any.slices_Index_string Tryz.lays109 b off n c zs x w hz hbig hc
open Go.Lib in
theorem Tryz.slices_Index_string_empty (a : Option Addr) (c : Nat) (x : ByteArray) (w : World) :
    Calls Tryz.prog 51 #[.slice a 0 c, .string x] w fun e w' => e = .returned (.int .i64 (Lib.idxOfS [] x)) ∧ w' = w := Any.slices_Index_string_empty Tryz.lays109 a c x w
def Tryz.lays110_ren : Go.Shelf.Ren := ⟨fun | 110 => 64 | 109 => 51 | n => n, fun | 31 => 36 | 9 => 9 | 4 => 4 | 3 => 3 | 0 => 0 | n => n, fun | n => n⟩
theorem Tryz.lays110 : Go.Proofs.Lays.n110 Tryz.prog Tryz.lays110_ren := {
  mixed := by kernel_rfl
  f109 := Tryz.func51.trans (congrArg some (by kernel_rfl))
  f110 := Tryz.func64.trans (congrArg some (by kernel_rfl))
  t0 := Tryz.underlying0
  a0 := Tryz.isAgg0
  z0 := Tryz.sizeOf0
  v0 := Tryz.zeroValue0
  t3 := Tryz.underlying3
  a3 := Tryz.isAgg3
  z3 := Tryz.sizeOf3
  v3 := Tryz.zeroValue3
  t4 := Tryz.underlying4
  a4 := Tryz.isAgg4
  z4 := Tryz.sizeOf4
  v4 := Tryz.zeroValue4
  t9 := Tryz.underlying9
  a9 := Tryz.isAgg9
  z9 := Tryz.sizeOf9
  v9 := Tryz.zeroValue9
  t31 := Tryz.underlying36
  a31 := Tryz.isAgg36
  z31 := Tryz.sizeOf36
  v31 := Tryz.zeroValue36 }
open Go.Lib in
theorem Tryz.slices_Contains_string (b off n c : Nat) (zs : List ByteArray) (x : ByteArray) (w : World) (hz : n ≤ zs.length) (hbig : n ≤ 9223372036854775807) (hc : ∀ j, j < zs.length → w.cell? ⟨b, off + j, none⟩ = some (.string (zs.getD j ByteArray.empty))) :
    Calls Tryz.prog 64 #[.slice (some ⟨b, off, none⟩) n c, .string x] w fun e w' => e = .returned (.bool (Lib.containsS (zs.take n) x)) ∧ w' = w := Any.slices_Contains_string Tryz.lays110 b off n c zs x w hz hbig hc
end Go.Proofs.YtmjliomhhgahkaaGreatDoor
namespace Go.Proofs.YtmjliomhhgahkaaGreatDoor
open Go.RowKit Go.Shelf

/-- The variables that the lines' reading takes. -/
structure PlG (w : World) (m : Int) (te : TypeId) (pe : Value) : Prop where
  mx : w.cell? ⟨0, 0, none⟩ = some (.int .i64 m)
  es : w.cell? ⟨4, 0, none⟩ = some (.iface te pe)
theorem PlG.later {w w' : World} {m : Int} {te : TypeId} {pe : Value} (h : PlG w m te pe) (hb : Below w.heap.size w w') : PlG w' m te pe :=
  ⟨(hb.cell (p := ⟨0, 0, none⟩) (World.block_lt_of_cell? w _ h.mx)).trans h.mx, (hb.cell (p := ⟨4, 0, none⟩) (World.block_lt_of_cell? w _ h.es)).trans h.es⟩
theorem ba_dl (p : ByteArray) : p.toList = p.data.toList := by
  cases p with
  | mk a =>
    cases a with
    | mk l =>
      have e : (⟨l.toArray⟩ : ByteArray).toList = l := by simp
      exact e
theorem trim45 (l : List UInt8) : Lib.trimPrefix l [45] = if l.head? = some 45 then l.tail else l := by
  unfold Lib.trimPrefix Lib.hasPrefix
  cases l with
  | nil => rfl
  | cons c r =>
    by_cases h : c = 45
    · subst h; simp
    · simp [h, Ne.symm h]

set_option linter.unusedSimpArgs false in
set_option maxRecDepth 100000 in
set_option maxHeartbeats 4000000 in
theorem parseNumber_any (b : ByteArray) (w : World) (hs : b.size ≤ 1048576) {m : Int} {te : TypeId} {pe : Value} (hg : PlG w m te pe) : Calls Tryz.prog 67 #[.string b] w fun e w' => NumP w b e w' := by
  by_cases h0 : (b.toList == [48]) = true
  case pos =>
    have hb : b.data.toList = [48] := by rw [← ba_dl]; exact beq_iff_eq.1 h0
    have hn : numO b.data.toList = some 0 := by rw [hb]; rfl
    have HN := hd9 hn
    clear hb hn
    go_enter Tryz.func67, Tryz.ntmps67
    go_wp2_with fail
    go_ret2
    exact ⟨0, true, rfl, Below.refl _ _, by rw [HN.out]; rfl, fun x hx => by rw [HN.out] at hx; injection hx⟩
  case neg =>
    have h0' : (b.toList == [48]) = false := by simpa using h0
    have hne : b.data.toList ≠ [48] := fun e => h0 (by rw [ba_dl, e]; rfl)
    have HP := hd9 (num_parse (l := b.data.toList) rfl hne)
    have HG := hd9 hg
    have HT := hd9 (Tryz.strings_TrimPrefix b ⟨#[45]⟩ w)
    rw [show (⟨#[45]⟩ : ByteArray).data.toList = [45] from rfl, trim45] at HT
    clear h0 hne hg
    generalize hd : (if b.data.toList.head? = some 45 then b.data.toList.tail else b.data.toList) = d at *
    have HL : Hid (d.length ≤ 1048576) := by
      show d.length ≤ _
      rw [← hd]
      have := dl_len b
      split
      · rw [List.length_tail]; omega
      · omega
    clear hd
    obtain ⟨D, hD⟩ : ∃ D : ByteArray, D = ⟨d.toArray⟩ := ⟨_, rfl⟩
    rw [← hD] at HT
    have hDd : D.data.toList = d := by rw [hD]
    subst hDd
    clear hD
    have hDl := dl_len D
    go_enter Tryz.func67, Tryz.ntmps67
    go_wp2_with fail
    refine HT.out.mono ?_
    rintro e w1 ⟨rfl, rfl⟩
    clear HT
    by_cases z : D.size = 0
    case pos =>
      have hnil : D.data.toList = [] := List.eq_nil_of_length_eq_zero (by omega)
      have hz : (D.toList == []) = true := by rw [ba_dl, hnil]; rfl
      have HNO := hd9 (HP.out.1 (.inl hnil))
      clear hnil HP HL hDl z
      go_wp2_with fail
      go_ret2
      exact NumP.no HNO.out (Below.refl _ _)
    have hz : (D.toList == []) = false := by
      rw [ba_dl]
      cases hx : D.data.toList with
      | nil => rw [hx] at hDl; simp at hDl; omega
      | cons c r => rfl
    by_cases z9 : 9 < D.size
    case pos =>
      have h9I : (9 : Int) < (D.size : Int) := by omega
      have HNO := hd9 (HP.out.1 (.inr (.inl (by omega))))
      clear HP HL hDl z9
      go_wp2_with fail
      go_ret2
      exact NumP.no HNO.out (Below.refl _ _)
    have h9I : ¬ (9 : Int) < (D.size : Int) := by omega
    have hD0 : 0 < D.size := by omega
    have hhd := dl_head D hD0
    by_cases z1 : D[0].toNat < 49
    case pos =>
      have h1I : ((D[0].toNat : Nat) : Int) < 49 := by omega
      have HNO := hd9 (HP.out.1 (.inr (.inr ⟨_, hhd, .inl z1⟩)))
      clear HP HL hDl z1 hhd
      go_wp2_with fail
      go_ret2
      exact NumP.no HNO.out (Below.refl _ _)
    have h1I : ¬ ((D[0].toNat : Nat) : Int) < 49 := by omega
    by_cases z2 : 57 < D[0].toNat
    case pos =>
      have h2I : (57 : Int) < ((D[0].toNat : Nat) : Int) := by omega
      have HNO := hd9 (HP.out.1 (.inr (.inr ⟨_, hhd, .inr z2⟩)))
      clear HP HL hDl z2 hhd
      go_wp2_with fail
      go_ret2
      exact NumP.no HNO.out (Below.refl _ _)
    have h2I : ¬ (57 : Int) < ((D[0].toNat : Nat) : Int) := by omega
    have hpi := HP.out.2 (fun e => by rw [e] at hDl; simp at hDl; omega) (by omega) (fun c hc => by
      rw [hhd] at hc
      injection hc with hc
      subst hc
      omega)
    cases hx : numO b.data.toList with
    | some v =>
      rw [hx] at hpi
      have HC := hd9 (Tryz.strconv_ParseInt_10_at64_ok b (by omega) v hpi w1)
      have HX := hd9 hx
      clear HP HL hDl hhd hpi hx z1 z2
      go_wp2_with fail
      refine HC.out.mono ?_
      rintro e w2 ⟨rfl, hw⟩
      have B2 : Hid (Below w1.heap.size w1 w2) := by
        rcases hw with rfl | ⟨t, rfl⟩
        · exact Below.refl _ _
        · exact Lib.bytesWorld_below _ _ _
      clear hw HC
      go_wp2_with fail
      go_quiet (fail)
      have B3 := hd9 (B2.out.trans ((below_drewN' w2 nq).mono B2.out.size))
      generalize w2.drewN nq = w3 at *
      go_wp2_with fail
      go_ret2
      exact ⟨v, true, rfl, B3.out, by rw [HX.out]; rfl, fun x hx => by rw [HX.out] at hx; injection hx⟩
    | none =>
      rw [hx] at hpi
      have HC := hd9 (Tryz.strconv_ParseInt_10_at64_no b (by omega) hpi (.iface te pe) w1 HG.out.es (.inr ⟨te, pe, rfl⟩))
      have HX := hd9 hx
      clear HP HL hDl hhd hpi hx z1 z2
      go_wp2_with fail
      refine HC.out.mono ?_
      rintro e w2 ⟨N, rfl, -, -, b2⟩
      have B2 := hd9 b2
      clear b2 HC
      go_wp2_with fail
      go_quiet (fail)
      have B3 := hd9 (B2.out.trans ((below_drewN' w2 nq).mono B2.out.size))
      generalize w2.drewN nq = w3 at *
      go_wp2_with fail
      go_ret2
      exact NumP.no HX.out B3.out


/-- What lies between the separators. -/
def cutA (c : UInt8) : List UInt8 → List UInt8 → List (List UInt8)
  | cur, [] => [cur]
  | cur, x :: l => if x = c then cur :: cutA c [] l else cutA c (cur ++ [x]) l
theorem cutA_nil (c : UInt8) (cur : List UInt8) : cutA c cur [] = [cur] := by rw [cutA]
theorem cutA_hit (c : UInt8) (cur l : List UInt8) : cutA c cur (c :: l) = cur :: cutA c [] l := by rw [cutA, if_pos rfl]
theorem cutA_ch {c x : UInt8} (h : x ≠ c) (cur l : List UInt8) : cutA c cur (x :: l) = cutA c (cur ++ [x]) l := by rw [cutA, if_neg h]
theorem cutA_none {c : UInt8} : ∀ (l cur : List UInt8), c ∉ l → cutA c cur l = [cur ++ l]
  | [], cur, _ => by rw [cutA_nil, List.append_nil]
  | x :: l, cur, h => by
    rw [cutA_ch (fun e => h (by rw [e]; exact List.mem_cons_self ..)), cutA_none l _ (fun hm => h (List.mem_cons_of_mem _ hm))]
    simp
theorem cutA_at {c : UInt8} : ∀ (a r cur : List UInt8), c ∉ a → cutA c cur (a ++ c :: r) = (cur ++ a) :: cutA c [] r
  | [], r, cur, _ => by rw [List.nil_append, cutA_hit, List.append_nil]
  | x :: a, r, cur, h => by
    rw [List.cons_append, cutA_ch (fun e => h (by rw [e]; exact List.mem_cons_self ..)), cutA_at a r _ (fun hm => h (List.mem_cons_of_mem _ hm))]
    simp
theorem cutA_pos (c : UInt8) : ∀ (l cur : List UInt8), 0 < (cutA c cur l).length
  | [], cur => by rw [cutA_nil]; simp
  | x :: l, cur => by
    by_cases h : x = c
    · subst h; rw [cutA_hit]; simp
    · rw [cutA_ch h]; exact cutA_pos c l _
theorem cutA_len (c : UInt8) : ∀ (l cur : List UInt8), (cutA c cur l).length ≤ l.length + 1 ∧ ∀ a ∈ cutA c cur l, a.length ≤ cur.length + l.length
  | [], cur => by rw [cutA_nil]; simp
  | x :: l, cur => by
    by_cases h : x = c
    · subst h
      obtain ⟨h1, h2⟩ := cutA_len x l []
      rw [cutA_hit]
      refine ⟨by simp; omega, fun a ha => ?_⟩
      rcases List.mem_cons.1 ha with rfl | ha
      · simp
      · have := h2 a ha; simp at this ⊢; omega
    · obtain ⟨h1, h2⟩ := cutA_len c l (cur ++ [x])
      rw [cutA_ch h]
      refine ⟨by simp; omega, fun a ha => ?_⟩
      have := h2 a ha; simp at this ⊢; omega
def mkB (l : List UInt8) : ByteArray := ⟨l.toArray⟩
theorem mkB_data (b : ByteArray) : mkB b.data.toList = b := rfl
theorem mkB_dl (l : List UInt8) : (mkB l).data.toList = l := rfl
def fldB (b : ByteArray) : List ByteArray := (cutA 32 [] b.data.toList).map mkB
theorem ext_data (s : ByteArray) (a b : Nat) : (s.extract a b).data.toList = (s.data.toList.drop a).take (b - a) := by
  rw [ByteArray.data_extract, Array.toList_extract, List.extract_eq_take_drop]
/-- strings.Split at a blank. -/
theorem split32 : ∀ (k : Nat) (s : ByteArray), Lib.countB s ⟨#[32]⟩ = k → Lib.splitB ⟨#[32]⟩ 0 k s = fldB s := by
  have hone : ∀ s : ByteArray, Lib.indexB s ⟨#[32]⟩ = Lib.indexByte s.data.toList 32 := fun s => Lib.index_one _ _
  intro k
  induction k with
  | zero =>
    intro s hk
    rcases Lib.indexB_cases s ⟨#[32]⟩ with h | ⟨i, h, -⟩
    · rw [Lib.splitB_miss _ _ _ _ h]
      have h9 := Lib.indexByte_none ((hone s).symm.trans h)
      unfold fldB
      rw [cutA_none _ _ (fun hm => by obtain ⟨j, hj, e⟩ := List.getElem_of_mem hm; exact h9 j (by rw [List.getElem?_eq_getElem hj, e]))]
      rfl
    · rw [Lib.countB_hit s _ i (by decide) h] at hk; omega
  | succ k ih =>
    intro s hk
    rcases Lib.indexB_cases s ⟨#[32]⟩ with h | ⟨i, h, hi⟩
    · rw [Lib.countB_miss s _ h] at hk; omega
    · rw [Lib.countB_hit s _ i (by decide) h] at hk
      rw [Lib.splitB_hit _ _ _ _ i h, ih _ (by omega)]
      obtain ⟨h1, h2⟩ := Lib.indexByte_some ((hone s).symm.trans h)
      have hs1 : (⟨#[32]⟩ : ByteArray).size = 1 := rfl
      rw [hs1] at hi ⊢
      have hil : i < s.data.toList.length := by rw [dl_len]; omega
      have hsp : s.data.toList = s.data.toList.take i ++ 32 :: s.data.toList.drop (i + 1) := by
        rw [List.getElem?_eq_getElem hil] at h1
        injection h1 with h1
        rw [← h1, ← List.drop_eq_getElem_cons hil, List.take_append_drop]
      unfold fldB
      conv => rhs; rw [hsp, cutA_at _ _ _ (fun hm => by
        obtain ⟨j, hj, e⟩ := List.getElem_of_mem hm
        rw [List.length_take] at hj
        exact h2 j (by omega) (by rw [← e, List.getElem_take, List.getElem?_eq_getElem]))]
      rw [List.map_cons]
      congr 1
      · apply ByteArray.ext
        apply Array.toList_inj.1
        rw [ext_data s 0 (i + 0)]
        simp [mkB]
      · rw [ext_data s (i + 1) s.size, List.take_of_length_le (by rw [List.length_drop, dl_len]; omega)]


/-- A text's bytes as numbers. -/
def bI (b : ByteArray) : List Int := b.data.toList.map fun x => (x.toNat : Int)
theorem bI_len (b : ByteArray) : (bI b).length = b.size := by unfold bI; rw [List.length_map, dl_len]
theorem bI_get (b : ByteArray) (i : Nat) (h : i < b.size) : (bI b).getD i 0 = (b[i].toNat : Int) := by
  unfold bI
  rw [List.getD, List.getElem?_map, dl_get b i h]
  rfl
theorem bI_seg (b : ByteArray) (a n : Nat) : strOfNums (((bI b).drop a).take n) = mkB ((b.data.toList.drop a).take n) := by
  unfold bI strOfNums mkB
  rw [List.map_drop.symm, List.map_take.symm, List.map_map]
  congr 2
  conv => rhs; rw [← List.map_id (List.take n (List.drop a b.data.toList))]
  refine List.map_congr_left fun x _ => ?_
  simp
/-- A row of texts of the call's own. -/
def OwnB (w : World) (lo : Nat) (v : Value) (L : List ByteArray) : Prop := w.ownsRow lo 9 1 v L.length (L.map Value.string)
theorem Tryz.infoS9 : (Tryz.prog.info? 9).map (fun i => (i.zero, i.size, i.bytes)) = some (some (.string ByteArray.empty), 1, 16) := by kernel_rfl
theorem cut_seg (b : ByteArray) (fr i : Nat) (hf : fr ≤ i) (hi : i < b.size) : (b.data.toList.drop fr).take (i + 1 - fr) = (b.data.toList.drop fr).take (i - fr) ++ [b[i]] := by
  rw [show i + 1 - fr = (i - fr) + 1 by omega, List.take_add_one, List.getElem?_drop, show fr + (i - fr) = i by omega, dl_get b i hi]
  rfl
theorem drop_at (b : ByteArray) (i : Nat) (hi : i < b.size) : b.data.toList.drop i = b[i] :: b.data.toList.drop (i + 1) := by
  rw [List.drop_eq_getElem_cons (by rw [dl_len]; exact hi)]
  congr 1

theorem rd_sub {k : IntKind} {w : World} {B o n c : Nat} {ys : List Int} (h : Rd k w (.slice (some ⟨B, o, none⟩) n c) ys) (a m : Nat) (ham : a + m ≤ n) : Rd k w (.slice (some ⟨B, o + a, none⟩) m (c - a)) ((ys.drop a).take m) := by
  obtain ⟨ao, cap, e, h1, h2, h3⟩ := h
  simp only [Value.slice.injEq] at e
  obtain ⟨rfl, rfl, rfl⟩ := e
  have hl : ((ys.drop a).take m).length = m := by rw [List.length_take, List.length_drop]; omega
  refine ⟨_, _, by rw [hl], by omega, by omega, ?_⟩
  rcases h3 with rfl | ⟨b', o', e', hb, hc⟩
  · exact .inl (by simp)
  · injection e' with e'
    injection e' with e1 e2
    subst e1 e2
    refine .inr ⟨_, _, rfl, hb, fun i hi => ?_⟩
    rw [hl] at hi
    rw [Nat.add_assoc, hc (a + i) (by omega)]
    simp [List.getD, List.getElem?_drop, hi]

set_option linter.unusedSimpArgs false in
set_option maxRecDepth 100000 in
set_option maxHeartbeats 4000000 in
theorem l6Cut_row (w : World) (B o cap : Nat) (b : ByteArray) (c : UInt8) (h : Rd .u8 w (.slice (some ⟨B, o, none⟩) b.size cap) (bI b)) (h0 : 0 < b.size) (hs : b.size ≤ 1048576) :
    Calls Tryz.prog 27 #[.slice (some ⟨B, o, none⟩) b.size cap, .int .u8 (c.toNat : Int)] w fun e w' => ∃ v', e = .returned v' ∧ OwnB w' w.heap.size v' ((cutA c [] b.data.toList).map mkB) ∧ Below w.heap.size w w' := by
  obtain ⟨iq, hiq, hq0, hqs, hqb⟩ := info_parts Tryz.infoS9
  have HR := hd9 h
  obtain ⟨hcc, hcm⟩ : b.size ≤ cap ∧ cap ≤ maxLen := by
    obtain ⟨ao, cp, e, h1, h2, -⟩ := h
    injection e with e1 e2 e3
    subst e3
    rw [bI_len] at h1
    exact ⟨h1, h2⟩
  have hBl : B < w.heap.size := by
    obtain ⟨ao, cp, e, h1, h2, h3⟩ := h
    rcases h3 with h3 | ⟨b', o', e', hl, -⟩
    · have := bI_len b; rw [h3] at this; simp at this; omega
    · injection e with e1
      rw [e'] at e1
      injection e1 with e1
      injection e1 with e1
      omega
  have HC : Hid (∀ W, Below w.heap.size w W → ∀ i (hi : i < b.size), W.cell? ⟨B, o + i, none⟩ = some (.int .u8 ((b[i]'hi).toNat : Int))) := fun W hb i hi => by
    obtain ⟨ao, cp, e, h1, h2, h3⟩ := HR.out.below hb
    rcases h3 with h3 | ⟨b', o', e', hl, hc⟩
    · have := bI_len b; rw [h3] at this; simp at this; omega
    · injection e with e1
      rw [e'] at e1
      injection e1 with e1
      injection e1 with e1 e2
      subst e1 e2
      rw [hc i (by rw [bI_len]; exact hi), bI_get b i hi]
  unfold maxLen at hcm
  clear h
  go_enter Tryz.func27, Tryz.ntmps27
  go_wp2_with fail
  have b0 : Below w.heap.size w (w.alloc (.cells #[] 9)) := (Below.refl _ _).alloc (Nat.le_refl _) _
  have B0 := hd9 b0
  have O0 : Hid (OwnB (w.alloc (.cells #[] 9)) w.heap.size (.slice (some ⟨w.heap.size, 0, none⟩) 0 0) []) := by
    have := World.ownsRow_lit (base := w.heap.size) (e := 9) (size := 1) w #[] 0 (Nat.le_refl _) (by decide) rfl
    show World.ownsRow _ _ _ _ _ _ _
    simpa using this
  clear b0
  generalize w.alloc (.cells #[] 9) = w1 at *
  go_loopw [5, 6, 7] (fun v5 v6 v7 wr => ∃ (i fr : Nat) (D : List ByteArray) (g co : Nat), v5 = .slice (some ⟨g, 0, none⟩) D.length co ∧ v6 = .int .i64 (fr : Int) ∧ v7 = .int .i64 (i : Int) ∧ fr ≤ i ∧ i ≤ b.size ∧ D.length ≤ i ∧ Hid (OwnB wr w.heap.size (.slice (some ⟨g, 0, none⟩) D.length co) D) ∧ Hid (Below w.heap.size w wr) ∧ Hid ((cutA c [] b.data.toList).map mkB = D ++ (cutA c ((b.data.toList.drop fr).take (i - fr)) (b.data.toList.drop i)).map mkB)) (fun _ _ i _ => b.size - (intOf i).toNat)
  case atStart => exact ⟨0, 0, [], w.heap.size, 0, rfl, rfl, rfl, Nat.le_refl _, Nat.zero_le _, Nat.le_refl _, O0, B0, by show _ = _; simp⟩
  case round =>
    obtain ⟨i, fr, D, g, co, rfl, rfl, rfl, hfi, hi, hDi, HO, HB, HE⟩ := hrel
    clear O0 B0
    have sB := HB.out.size
    by_cases hlt : i < b.size
    · have hltI : (i : Int) < (b.size : Int) := by omega
      have hc := HC.out wr HB.out i hlt
      by_cases hxc : b[i] = c
      · have hq : (((b[i].toNat : Nat) : Int) == ((c.toNat : Nat) : Int)) = true := by rw [hxc]; exact beq_self_eq_true _
        have hE2 : (cutA c [] b.data.toList).map mkB = (D ++ [mkB ((b.data.toList.drop fr).take (i - fr))]) ++ (cutA c ((b.data.toList.drop (i + 1)).take (i + 1 - (i + 1))) (b.data.toList.drop (i + 1))).map mkB := by
          rw [HE.out, drop_at b i hlt, hxc, cutA_hit]
          simp
        have HE2 := hd9 hE2
        have hcv : (convert 22 9 (.slice (some ⟨B, o + fr, none⟩) (i - fr) (cap - fr))).run Tryz.prog wr = .ok (.string (mkB ((b.data.toList.drop fr).take (i - fr)))) wr := by
          rw [← bI_seg]
          exact conv_any (rd_sub (HR.out.below HB.out) fr (i - fr) (by omega))
        have hfc : fr < cap := by omega
        have hfiI : (fr : Int) ≤ (i : Int) := by omega
        clear hE2 HE hxc
        generalize mkB ((b.data.toList.drop fr).take (i - fr)) = seg at *
        have OR : Hid (wr.ownsRow w.heap.size 9 1 (.slice (some ⟨g, 0, none⟩) D.length co) D.length (D.map Value.string)) := HO.out
        go_wp2_with (at_builtin; go_must (refine wpList_append_lies _ rfl _ _ 36 rfl w.heap.size 9 iq (.string ByteArray.empty) 1 16 Tryz.underlying36 hiq hq0 hqs hqb rfl (by decide) _ _ _ rfl (OR.out.alloc _) ⟨wr.heap.size, 0, none⟩ 1 1 [.string seg] rfl rfl (cell_one_new _ _ _) (by intro u hu; simp at hu; subst hu; rfl) (by decide) ?c3 ?c4 ?c5 _ rfl ?_))
        case c3 => unfold maxLen; omega
        case c4 => omega
        case c5 => first | omega | (simp; omega)
        intro g5 k5 w5 ho5 hg5 hat5 hlt5
        have O5 : Hid (OwnB w5 w.heap.size (.slice (some ⟨g5, 0, none⟩) (D ++ [seg]).length k5) (D ++ [seg])) := by
          show World.ownsRow _ _ _ _ _ _ _
          rw [List.length_append, List.map_append]
          exact ho5
        have B5 : Hid (Below w.heap.size w w5) := (HB.out.alloc sB _).grown hg5 (by simp; omega) (fun q hq => (World.ownsRow.lt OR.out q hq).1)
        clear ho5 hg5 hat5 hlt5 OR HO HB hcv hc
        go_wp2_with fail
        exact ⟨⟨i + 1, i + 1, D ++ [seg], g5, k5, by rw [List.length_append]; rfl, by go_num, by go_num, Nat.le_refl _, hlt, by rw [List.length_append]; simp; omega, O5, B5, HE2⟩, by simp [intOf]; omega⟩
      · have hq : (((b[i].toNat : Nat) : Int) == ((c.toNat : Nat) : Int)) = false := beq_false_of_ne (fun e => hxc (UInt8.toNat.inj (by omega)))
        have hE2 : (cutA c [] b.data.toList).map mkB = D ++ (cutA c ((b.data.toList.drop fr).take (i + 1 - fr)) (b.data.toList.drop (i + 1))).map mkB := by
          rw [HE.out, drop_at b i hlt, cutA_ch hxc, cut_seg b fr i hfi hlt]
        have HE2 := hd9 hE2
        clear hE2 HE hxc
        go_wp2_with fail
        exact ⟨⟨i + 1, fr, D, g, co, rfl, rfl, by go_num, by omega, hlt, by omega, HO, HB, HE2⟩, by simp [intOf]; omega⟩
    · have hin : i = b.size := by omega
      have hE2 : (cutA c [] b.data.toList).map mkB = D ++ [mkB ((b.data.toList.drop fr).take (b.size - fr))] := by
        have hd : b.data.toList.drop b.size = [] := List.drop_of_length_le (by rw [dl_len]; exact Nat.le_refl _)
        rw [HE.out, hin, hd, cutA_nil]
        rfl
      have HE2 := hd9 hE2
      have hltI : ¬ (i : Int) < (b.size : Int) := by omega
      have hfs : fr ≤ b.size := by omega
      have hfsI : (fr : Int) ≤ (b.size : Int) := by omega
      clear hE2 HE hin
      have OR : Hid (wr.ownsRow w.heap.size 9 1 (.slice (some ⟨g, 0, none⟩) D.length co) D.length (D.map Value.string)) := HO.out
      by_cases hfc : fr < cap
      · have hcv : (convert 22 9 (.slice (some ⟨B, o + fr, none⟩) (b.size - fr) (cap - fr))).run Tryz.prog wr = .ok (.string (mkB ((b.data.toList.drop fr).take (b.size - fr)))) wr := by
          rw [← bI_seg]
          exact conv_any (rd_sub (HR.out.below HB.out) fr (b.size - fr) (by omega))
        generalize mkB ((b.data.toList.drop fr).take (b.size - fr)) = seg at *
        go_wp2_with (at_builtin; go_must (refine wpList_append_lies _ rfl _ _ 36 rfl w.heap.size 9 iq (.string ByteArray.empty) 1 16 Tryz.underlying36 hiq hq0 hqs hqb rfl (by decide) _ _ _ rfl (OR.out.alloc _) ⟨wr.heap.size, 0, none⟩ 1 1 [.string seg] rfl rfl (cell_one_new _ _ _) (by intro u hu; simp at hu; subst hu; rfl) (by decide) ?c3 ?c4 ?c5 _ rfl ?_))
        case c3 => unfold maxLen; omega
        case c4 => omega
        case c5 => first | omega | (simp; omega)
        intro g5 k5 w5 ho5 hg5 hat5 hlt5
        have O5 : Hid (OwnB w5 w.heap.size (.slice (some ⟨g5, 0, none⟩) (D.length + 1) k5) ((cutA c [] b.data.toList).map mkB)) := by
          rw [HE2.out]
          show World.ownsRow _ _ _ _ _ _ _
          rw [List.length_append, List.map_append]
          exact ho5
        have B5 : Hid (Below w.heap.size w w5) := (HB.out.alloc sB _).grown hg5 (by simp; omega) (fun q hq => (World.ownsRow.lt OR.out q hq).1)
        clear ho5 hg5 hat5 hlt5 OR HO HB hcv HE2
        go_wp2_with fail
        go_ret
        exact ⟨_, rfl, O5.out, B5.out⟩
      · have hfe : fr = cap := by omega
        subst hfe
        have hz : b.size = fr := by omega
        have hcv : (convert 22 9 (.slice (some ⟨B, o, none⟩) 0 0)).run Tryz.prog wr = .ok (.string (mkB ((b.data.toList.drop fr).take (b.size - fr)))) wr := by
          rw [← bI_seg, hz, Nat.sub_self]
          exact conv_any (xs := []) ⟨_, 0, rfl, Nat.zero_le _, Nat.zero_le _, .inl rfl⟩
        have HZ := hd9 hz
        generalize mkB ((b.data.toList.drop fr).take (b.size - fr)) = seg at *
        clear hz
        go_wp2_with (at_builtin; go_must (refine wpList_append_lies _ rfl _ _ 36 rfl w.heap.size 9 iq (.string ByteArray.empty) 1 16 Tryz.underlying36 hiq hq0 hqs hqb rfl (by decide) _ _ _ rfl (OR.out.alloc _) ⟨wr.heap.size, 0, none⟩ 1 1 [.string seg] rfl rfl (cell_one_new _ _ _) (by intro u hu; simp at hu; subst hu; rfl) (by decide) ?c3 ?c4 ?c5 _ rfl ?_))
        case c3 => unfold maxLen; omega
        case c4 => omega
        case c5 => first | omega | (simp; omega)
        intro g5 k5 w5 ho5 hg5 hat5 hlt5
        have O5 : Hid (OwnB w5 w.heap.size (.slice (some ⟨g5, 0, none⟩) (D.length + 1) k5) ((cutA c [] b.data.toList).map mkB)) := by
          rw [HE2.out]
          show World.ownsRow _ _ _ _ _ _ _
          rw [List.length_append, List.map_append]
          exact ho5
        have B5 : Hid (Below w.heap.size w w5) := (HB.out.alloc sB _).grown hg5 (by simp; omega) (fun q hq => (World.ownsRow.lt OR.out q hq).1)
        clear ho5 hg5 hat5 hlt5 OR HO HB hcv HE2
        go_wp2_with fail
        go_ret
        exact ⟨_, rfl, O5.out, B5.out⟩

set_option linter.unusedSimpArgs false in
set_option maxRecDepth 100000 in
set_option maxHeartbeats 4000000 in
theorem l6Cut_nil (w : World) (ao : Option Addr) (cap : Nat) (c : UInt8) (hcm : cap ≤ maxLen) :
    Calls Tryz.prog 27 #[.slice ao 0 cap, .int .u8 (c.toNat : Int)] w fun e w' => ∃ v', e = .returned v' ∧ OwnB w' w.heap.size v' [⟨#[]⟩] ∧ Below w.heap.size w w' := by
  obtain ⟨iq, hiq, hq0, hqs, hqb⟩ := info_parts Tryz.infoS9
  have hcv : ∀ (W : World) (a : Option Addr) (k : Nat), k ≤ maxLen → (convert 22 9 (.slice a 0 k)).run Tryz.prog W = .ok (.string ⟨#[]⟩) W := fun W a k hk => conv_any (xs := []) ⟨_, k, rfl, Nat.zero_le _, hk, .inl rfl⟩
  go_enter Tryz.func27, Tryz.ntmps27
  go_wp2_with fail
  have b0 : Below w.heap.size w (w.alloc (.cells #[] 9)) := (Below.refl _ _).alloc (Nat.le_refl _) _
  have B0 := hd9 b0
  have OR : Hid ((w.alloc (.cells #[] 9)).ownsRow w.heap.size 9 1 (.slice (some ⟨w.heap.size, 0, none⟩) 0 0) 0 []) := by
    have := World.ownsRow_lit (base := w.heap.size) (e := 9) (size := 1) w #[] 0 (Nat.le_refl _) (by decide) rfl
    show World.ownsRow _ _ _ _ _ _ _
    simpa using this
  clear b0
  generalize w.alloc (.cells #[] 9) = w1 at *
  have sB := B0.out.size
  obtain ⟨seg, hseg⟩ : ∃ seg : ByteArray, seg = ⟨#[]⟩ := ⟨_, rfl⟩
  have HSG := hd9 hseg
  rw [← hseg] at hcv
  have HCV := hd9 hcv
  clear hseg hcv
  go_loopw [5, 6, 7] (fun v5 v6 v7 wr => v5 = .slice (some ⟨w.heap.size, 0, none⟩) 0 0 ∧ v6 = .int .i64 0 ∧ v7 = .int .i64 0 ∧ wr = w1) (fun _ _ _ _ => 0)
  case atStart => exact ⟨rfl, rfl, rfl, rfl⟩
  case round =>
    obtain ⟨rfl, rfl, rfl, rfl⟩ := hrel
    have hcv := HCV.out wr ao cap hcm
    go_wp2_with (at_builtin; go_must (refine wpList_append_lies _ rfl _ _ 36 rfl w.heap.size 9 iq (.string ByteArray.empty) 1 16 Tryz.underlying36 hiq hq0 hqs hqb rfl (by decide) _ _ _ rfl (OR.out.alloc _) ⟨wr.heap.size, 0, none⟩ 1 1 [.string seg] rfl rfl (cell_one_new _ _ _) (by intro u hu; simp at hu; subst hu; rfl) (by decide) ?c3 ?c4 ?c5 _ rfl ?_))
    case c3 => unfold maxLen; omega
    case c4 => omega
    case c5 => first | omega | (simp; omega)
    intro g5 k5 w5 ho5 hg5 hat5 hlt5
    have O5 : Hid (OwnB w5 w.heap.size (.slice (some ⟨g5, 0, none⟩) 1 k5) [⟨#[]⟩]) := by
      rw [← HSG.out]
      exact ho5
    have B5 : Hid (Below w.heap.size w w5) := (B0.out.alloc sB _).grown hg5 (by simp; omega) (fun q hq => (World.ownsRow.lt OR.out q hq).1)
    clear ho5 hg5 hat5 hlt5 OR hcv HCV HSG
    go_wp2_with fail
    go_ret
    exact ⟨_, rfl, O5.out, B5.out⟩

theorem l6Cut_any (w : World) (v : Value) (b : ByteArray) (c : UInt8) (h : Rd .u8 w v (bI b)) (hs : b.size ≤ 1048576) :
    Calls Tryz.prog 27 #[v, .int .u8 (c.toNat : Int)] w fun e w' => ∃ v', e = .returned v' ∧ OwnB w' w.heap.size v' ((cutA c [] b.data.toList).map mkB) ∧ Below w.heap.size w w' := by
  have h' := h
  obtain ⟨ao, cap, rfl, h1, h2, h3⟩ := h
  rw [bI_len] at h' h1 ⊢
  by_cases h0 : b.size = 0
  · have hn : b.data.toList = [] := List.eq_nil_of_length_eq_zero (by rw [dl_len]; exact h0)
    rw [h0, hn, cutA_nil]
    exact l6Cut_nil w ao cap c h2
  · rcases h3 with h3 | ⟨B, o, rfl, -, -⟩
    · have := bI_len b; rw [h3] at this; simp at this; omega
    · exact l6Cut_row w B o cap b c h' (by omega) hs


def okCh (c : UInt8) : Bool := decide (33 ≤ c.toNat) && decide (c.toNat ≤ 126)
theorem okCh_iff (c : UInt8) : okCh c = true ↔ 33 ≤ c.toNat ∧ c.toNat ≤ 126 := by unfold okCh; simp
/-- A field of a right shape. -/
def goodB (b : ByteArray) : Bool := decide (0 < b.size) && b.data.toList.all okCh
def fldG (b : ByteArray) : List ByteArray := if (fldB b).all goodB = true then fldB b else []
def bAt (L : List ByteArray) (i : Nat) : ByteArray := L.getD i ⟨#[]⟩
theorem bAt_get {L : List ByteArray} {i : Nat} (h : i < L.length) : bAt L i = L[i] := by unfold bAt; rw [List.getD, List.getElem?_eq_getElem h]; rfl
theorem OwnB.cells {w : World} {lo : Nat} {v : Value} {L : List ByteArray} (h : OwnB w lo v L) (h0 : 0 < L.length) : ∃ g c, v = .slice (some ⟨g, 0, none⟩) L.length c ∧ lo ≤ g ∧ g < w.heap.size ∧ L.length ≤ c ∧ c ≤ maxLen ∧ ∀ i, i < L.length → w.cell? ⟨g, i, none⟩ = some (.string (bAt L i)) := by
  have h' := h
  rcases h.2 with ⟨-, h9⟩ | ⟨g, cap, cur, rfl, h1, h2, h3, h4, h5, h6⟩
  · omega
  · refine ⟨g, cap, rfl, h1, (Array.getElem?_eq_some_iff.1 h2).1, h3, h4, fun i hi => ?_⟩
    rw [World.ownsRow.cellAt h' i (by omega), bAt_get hi, List.getElem?_map, List.getElem?_eq_getElem hi]
    rfl
theorem OwnB.nil (w : World) (lo : Nat) (hl : lo ≤ w.heap.size) : OwnB (w.alloc (.cells #[] 9)) lo (.slice (some ⟨w.heap.size, 0, none⟩) 0 0) [] := by
  have := World.ownsRow_lit (base := lo) (e := 9) (size := 1) w #[] 0 hl (by decide) rfl
  show World.ownsRow _ _ _ _ _ _ _
  simpa using this

set_option linter.unusedSimpArgs false in
set_option maxRecDepth 100000 in
set_option maxHeartbeats 4000000 in
theorem l6Fields_any (w : World) (v : Value) (b : ByteArray) (h : Rd .u8 w v (bI b)) (hs : b.size ≤ 1048576) :
    Calls Tryz.prog 12 #[v] w fun e w' => ∃ v', e = .returned v' ∧ OwnB w' w.heap.size v' (fldG b) ∧ Below w.heap.size w w' := by
  have HC := hd9 (l6Cut_any w v b 32 h hs)
  have hlen : 0 < (fldB b).length ∧ (fldB b).length ≤ 1048577 ∧ ∀ i, (bAt (fldB b) i).size ≤ 1048576 := by
    have h1 := cutA_pos 32 b.data.toList []
    obtain ⟨h2, h3⟩ := cutA_len 32 b.data.toList []
    have h4 := dl_len b
    unfold fldB
    rw [List.length_map]
    refine ⟨h1, by omega, fun i => ?_⟩
    by_cases hi : i < ((cutA 32 [] b.data.toList).map mkB).length
    · rw [bAt_get hi, List.getElem_map]
      rw [List.length_map] at hi
      have := h3 _ (List.getElem_mem hi)
      rw [← dl_len, mkB_dl]
      simp at this; omega
    · unfold bAt
      rw [List.getD, List.getElem?_eq_none (by omega)]
      show (⟨#[]⟩ : ByteArray).size ≤ _
      exact Nat.zero_le _
  obtain ⟨ao, cap, rfl, -⟩ := h
  have e32 : ((32 : UInt8).toNat : Int) = 32 := rfl
  rw [e32] at HC
  have HG : Hid (fldG b = if (fldB b).all goodB = true then fldB b else []) := rfl
  replace HC : Hid (Calls Tryz.prog 27 #[.slice ao (bI b).length cap, .int .u8 32] w fun e w' => ∃ v', e = .returned v' ∧ OwnB w' w.heap.size v' (fldB b) ∧ Below w.heap.size w w') := HC
  generalize fldG b = R at *
  generalize fldB b = L at *
  obtain ⟨hl0, hl1, hl2⟩ := hlen
  have HL := hd9 hl2
  clear e32 hl2
  generalize (bI b).length = N at *
  go_enter Tryz.func12, Tryz.ntmps12
  go_wp2_with fail
  refine HC.out.mono ?_
  rintro e w1 ⟨v1, rfl, o1, b1⟩
  obtain ⟨g, c, rfl, hg1, hg2, hc1, hc2, hcl⟩ := o1.cells hl0
  unfold maxLen at hc2
  have HO := hd9 o1
  have HB := hd9 b1
  have HCL := hd9 hcl
  have sB := b1.size
  clear HC o1 b1 hcl
  have EMP : Hid (∀ i, i < L.length → goodB (bAt L i) = false → R = []) := fun i hi hb => by
    rw [HG.out, if_neg]
    rw [List.all_eq_true]
    intro h9
    rw [bAt_get hi] at hb
    rw [h9 _ (List.getElem_mem hi)] at hb
    cases hb
  go_wp2_with fail
  go_loopw [4] (fun v4 wr => ∃ i : Nat, v4 = .int .i64 (i : Int) ∧ i ≤ L.length ∧ wr = w1 ∧ Hid (∀ j, j < i → goodB (bAt L j) = true)) (fun i _ => L.length - (intOf i).toNat)
  case atStart => exact ⟨0, rfl, Nat.zero_le _, rfl, fun j hj => absurd hj (Nat.not_lt_zero _)⟩
  case round =>
    obtain ⟨i, rfl, hi, rfl, HA⟩ := hrel
    by_cases hlt : i < L.length
    · have hltI : (i : Int) < (L.length : Int) := by omega
      have hc := HCL.out i hlt
      have hsz := HL.out i
      have EM := hd9 (EMP.out i hlt)
      have HGB : Hid (goodB (bAt L i) = (decide (0 < (bAt L i).size) && (bAt L i).data.toList.all okCh)) := rfl
      have HNX : Hid (goodB (bAt L i) = true → ∀ j, j < i + 1 → goodB (bAt L j) = true) := fun h9 j hj => by
        by_cases e : j < i
        · exact HA.out j e
        · rw [show j = i by omega]; exact h9
      clear HA
      generalize bAt L i = f at *
      by_cases hz : f.size = 0
      · have hzI : ((f.size : Nat) : Int) = 0 := by omega
        have hR := EM.out (by rw [HGB.out, decide_eq_false (by omega)]; rfl)
        have HRE := hd9 hR
        clear hR hz
        go_wp2_with fail
        have O9 := hd9 (OwnB.nil wr w.heap.size sB)
        have B9 := hd9 (HB.out.alloc sB (.cells #[] 9))
        go_ret
        exact ⟨_, rfl, by rw [HRE.out]; exact O9.out, B9.out⟩
      · have hzI : (((f.size : Nat) : Int) == 0) = false := beq_false_of_ne (by omega)
        go_wp2_with fail
        go_loopw [5] (fun v5 wx => ∃ j : Nat, v5 = .int .i64 (j : Int) ∧ j ≤ f.size ∧ wx = wr ∧ Hid ((f.data.toList.take j).all okCh = true)) (fun i _ => f.size - (intOf i).toNat)
        case atStart => exact ⟨0, rfl, Nat.zero_le _, rfl, rfl⟩
        case round =>
          obtain ⟨j, rfl, hj, hw, HJ⟩ := hrel
          subst hw
          by_cases hjl : j < f.size
          · have hjI : (j : Int) < ((f.size : Nat) : Int) := by omega
            by_cases hok : 33 ≤ f[j].toNat ∧ f[j].toNat ≤ 126
            · have g1 : ¬ ((f[j].toNat : Nat) : Int) < 33 := by omega
              have g2 : ¬ (126 : Int) < ((f[j].toNat : Nat) : Int) := by omega
              have HJ2 : Hid ((f.data.toList.take (j + 1)).all okCh = true) := by
                show _ = _
                rw [take_succ9 f j hjl, List.all_append, HJ.out]
                simp [(okCh_iff f[j]).2 hok]
              clear hok
              go_wp2_with fail
              exact ⟨⟨j + 1, by go_num, hjl, trivial, HJ2⟩, by simp [intOf]; omega⟩
            · have hno : okCh f[j] = false := by
                cases hd : okCh f[j] with
                | false => rfl
                | true => exact absurd ((okCh_iff _).1 hd) hok
              have hR := EM.out (by rw [HGB.out, all_take9 (dl_get f j hjl) hno, Bool.and_false])
              have HRE := hd9 hR
              clear hR hno EM EMP HNX HGB
              by_cases g1 : ((f[j].toNat : Nat) : Int) < 33
              · go_wp2_with fail
                have O9 := hd9 (OwnB.nil _ w.heap.size sB)
                have B9 := hd9 (HB.out.alloc sB (.cells #[] 9))
                go_ret
                exact ⟨_, rfl, by rw [HRE.out]; exact O9.out, B9.out⟩
              · have g2 : (126 : Int) < ((f[j].toNat : Nat) : Int) := by omega
                go_wp2_with fail
                have O9 := hd9 (OwnB.nil _ w.heap.size sB)
                have B9 := hd9 (HB.out.alloc sB (.cells #[] 9))
                go_ret
                exact ⟨_, rfl, by rw [HRE.out]; exact O9.out, B9.out⟩
          · have hjI : ¬ (j : Int) < ((f.size : Nat) : Int) := by omega
            have hall : f.data.toList.all okCh = true := by
              have := HJ.out
              rwa [List.take_of_length_le (by rw [dl_len]; omega)] at this
            have HA2 := hd9 (HNX.out (by rw [HGB.out, hall, decide_eq_true (by omega)]; rfl))
            clear hall HJ
            go_wp2_with fail
            exact ⟨⟨i + 1, by go_num, hlt, trivial, HA2⟩, by simp [intOf]; omega⟩
    · have hltI : ¬ (i : Int) < (L.length : Int) := by omega
      have hR : R = L := by
        rw [HG.out, if_pos]
        rw [List.all_eq_true]
        intro x hx
        obtain ⟨j, hj, e⟩ := List.getElem_of_mem hx
        have := HA.out j (by omega)
        rw [bAt_get hj, e] at this
        exact this
      have HRE := hd9 hR
      clear hR EMP HG
      go_wp2_with fail
      go_ret
      exact ⟨_, rfl, by rw [HRE.out]; exact HO.out, HB.out⟩





end Go.Proofs.YtmjliomhhgahkaaGreatDoor
namespace Go.Proofs.YtmjliomhhgahkaaGreatDoor
open Go.RowKit

/-! ### rows of nodes -/
















/-- Nothing but a path. -/
def blank (n : Nd) : Bool := (n.data.toList == []) && (n.ver == 0) && (n.cver == 0) && (n.cz == 0) && (n.mz == 0) && (n.pz == 0)


/-! ### the place of a path -/
/-! ### one effect, all effects -/
end Go.Proofs.YtmjliomhhgahkaaGreatDoor
namespace Go.Proofs.YtmjliomhhgahkaaGreatDoor
open Go.RowKit Go.Shelf




end Go.Proofs.YtmjliomhhgahkaaGreatDoor
namespace Go.Proofs.YtmjliomhhgahkaaGreatDoor
open Go.RowKit

end Go.Proofs.YtmjliomhhgahkaaGreatDoor
namespace Go.Proofs.YtmjliomhhgahkaaGreatDoor
open Go.RowKit Go.Shelf

/-- A struct of the call's own: its cells, which may be written. -/
structure St (W : World) (b : Nat) (L : List Value) : Prop where
  lt : b < W.heap.size
  fz : ∀ j, W.frozen? ⟨b, j, none⟩ = false
  cl : ∀ (j : Nat) (v : Value), L[j]? = some v → W.cell? ⟨b, j, none⟩ = some v
theorem St.belowB {W W' : World} {b m : Nat} {L : List Value} (h : St W b L) (hb : Below m W W') (hm : b < m) : St W' b L :=
  ⟨Nat.lt_of_lt_of_le h.lt hb.size, fun j => (hb.frozen (p := ⟨b, j, none⟩) hm).trans (h.fz j), fun j v hv => (hb.cell (p := ⟨b, j, none⟩) hm).trans (h.cl j v hv)⟩
theorem St.below {W W' : World} {b : Nat} {L : List Value} (h : St W b L) (hb : Below W.heap.size W W') : St W' b L := h.belowB hb h.lt
theorem St.set {W : World} {b : Nat} {L : List Value} (h : St W b L) (j : Nat) (x : Value) : St (W.setCell ⟨b, j, none⟩ x) b (L.set j x) := by
  refine ⟨by simpa using h.lt, fun i => by rw [World.frozen?_setCell]; exact h.fz i, fun i v hv => ?_⟩
  by_cases e : j = i
  · subst e
    have hj : j < L.length := by
      have := (List.getElem?_eq_some_iff.1 hv).1
      simpa using this
    rw [List.getElem?_set_self hj] at hv
    obtain rfl := Option.some.inj hv
    exact World.cell?_setCell_same _ _ _ (h.cl j _ (List.getElem?_eq_getElem hj))
  · rw [List.getElem?_set_ne e] at hv
    exact (World.cell?_setCell_other _ _ _ _ (by intro e9; injection e9 with e1 e2; first | exact e e2 | exact e e2.symm)).trans (h.cl i v hv)
theorem St.other {W : World} {b c j : Nat} {L : List Value} {x : Value} (h : St W b L) (hne : b ≠ c) : St (W.setCell ⟨c, j, none⟩ x) b L :=
  ⟨by simpa using h.lt, fun i => by rw [World.frozen?_setCell]; exact h.fz i, fun i v hv => (World.cell?_setCell_other _ _ _ _ (by intro e9; injection e9 with e1 e2; first | exact hne e1 | exact hne e1.symm)).trans (h.cl i v hv)⟩
theorem St.new (W : World) (cs : Array Value) (t : TypeId) : St (W.alloc (.cells cs t)) W.heap.size cs.toList := by
  refine ⟨by simp, fun j => by simp, fun j v hv => ?_⟩
  rw [cell_of_row _ _ j cs t (0, 0) (heap_alloc_new W _)]
  simpa using hv
end Go.Proofs.YtmjliomhhgahkaaGreatDoor


