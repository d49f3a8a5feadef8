/- U02 U84 -/
import Derived.Shelf.Strings.Builder1
import Derived.Shelf.Strings.Builder2
import Derived.Shelf.Strings.Trim
import Derived.Shelf.Small.Utf8
import Derived.Shelf.Small.Bits
import Derived.Shelf.Small.Strs
import Derived.Shelf.Small.Wraps
import Derived.Shelf.Strings.BuilderF
import Derived.Shelf.Strconv.Itoa0
import Derived.Shelf.Strings.Search1
import Derived.Shelf.Strings.Search2
import Derived.Shelf.Strings.Cut
import Derived.Shelf.LaysM
import Derived.Shelf.Strings.Shaped
import Derived.Shelf.Strings.Prefix
import Derived.Shelf.Strings.Runes
import Derived.Shelf.Strings.IndexAny
import Derived.Shelf.Strings.AsciiSet
import Derived.Shelf.Strings.IndexAnyAll
import Derived.Shelf.Bits.Mul64
import Derived.Shelf.Strings.Repeat
import Derived.Shelf.Unicode.DecodeSlow
import Derived.Shelf.Spec.BitsCarry
import Derived.Test.YtaogepcaoogpgaaGreatDoorProg
import Derived.Test.YtaogepcaoogpgaaGreatDoorV01
set_option linter.unusedVariables false
set_option linter.unusedSimpArgs false
namespace Go.Proofs
open Go.Shelf
def Tryz.lays161_ren : Go.Shelf.Ren := ⟨fun | 161 => 273 | 231 => 283 | 227 => 284 | 233 => 285 | 235 => 286 | 228 => 291 | 197 => 292 | 151 => 293 | 260 => 295 | 152 => 296 | 137 => 297 | 119 => 298 | 224 => 266 | 225 => 265 | 217 => 264 | 266 => 278 | n => n, fun | 9 => 9 | 4 => 4 | 3 => 3 | 5 => 5 | 117 => 236 | 116 => 235 | 0 => 0 | 124 => 239 | 105 => 246 | 21 => 21 | 119 => 250 | 46 => 159 | 139 => 253 | 138 => 252 | n => n, fun | 3 => 3 | 4 => 4 | n => n⟩
theorem Tryz.lays161 : Go.Proofs.Lays.n161 Tryz.prog Tryz.lays161_ren := {
 mixed := by kernel_rfl
 f119 := Tryz.func298.trans (congrArg some (by kernel_rfl))
 f137 := Tryz.func297.trans (congrArg some (by kernel_rfl))
 f151 := Tryz.func293.trans (congrArg some (by kernel_rfl))
 f152 := Tryz.func296.trans (congrArg some (by kernel_rfl))
 f161 := Tryz.func273.trans (congrArg some (by kernel_rfl))
 f197 := Tryz.func292.trans (congrArg some (by kernel_rfl))
 f217 := Tryz.func264.trans (congrArg some (by kernel_rfl))
 f224 := Tryz.func266.trans (congrArg some (by kernel_rfl))
 f225 := Tryz.func265.trans (congrArg some (by kernel_rfl))
 f227 := Tryz.func284.trans (congrArg some (by kernel_rfl))
 f228 := Tryz.func291.trans (congrArg some (by kernel_rfl))
 f231 := Tryz.func283.trans (congrArg some (by kernel_rfl))
 f233 := Tryz.func285.trans (congrArg some (by kernel_rfl))
 f235 := Tryz.func286.trans (congrArg some (by kernel_rfl))
 f260 := Tryz.func295.trans (congrArg some (by kernel_rfl))
 f266 := Tryz.func278.trans (congrArg some (by kernel_rfl))
 t0 := Tryz.underlying0
 a0 := Tryz.isAgg0
 z0 := Tryz.sizeOf0
 v0 := Tryz.zeroValue0
 t3 := Tryz.underlying3
 a3 := Tryz.isAgg3
 z3 := Tryz.sizeOf3
 v3 := Tryz.zeroValue3
 t4 := Tryz.underlying4
 a4 := Tryz.isAgg4
 z4 := Tryz.sizeOf4
 v4 := Tryz.zeroValue4
 t5 := Tryz.underlying5
 a5 := Tryz.isAgg5
 z5 := Tryz.sizeOf5
 v5 := Tryz.zeroValue5
 t9 := Tryz.underlying9
 a9 := Tryz.isAgg9
 z9 := Tryz.sizeOf9
 v9 := Tryz.zeroValue9
 t21 := Tryz.underlying21
 a21 := Tryz.isAgg21
 z21 := Tryz.sizeOf21
 v21 := Tryz.zeroValue21
 t46 := Tryz.underlying159
 a46 := Tryz.isAgg159
 z46 := Tryz.sizeOf159
 v46 := Tryz.zeroValue159
 t105 := Tryz.underlying246
 a105 := Tryz.isAgg246
 z105 := Tryz.sizeOf246
 v105 := Tryz.zeroValue246
 t116 := Tryz.underlying235
 a116 := Tryz.isAgg235
 z116 := Tryz.sizeOf235
 t117 := Tryz.underlying236
 a117 := Tryz.isAgg236
 z117 := Tryz.sizeOf236
 v117 := Tryz.zeroValue236
 t119 := Tryz.underlying250
 a119 := Tryz.isAgg250
 z119 := Tryz.sizeOf250
 t124 := Tryz.underlying239
 a124 := Tryz.isAgg239
 z124 := Tryz.sizeOf239
 v124 := Tryz.zeroValue239
 t138 := Tryz.underlying252
 a138 := Tryz.isAgg252
 z138 := Tryz.sizeOf252
 v138 := Tryz.zeroValue252
 t139 := Tryz.underlying253
 a139 := Tryz.isAgg253
 z139 := Tryz.sizeOf253
 v139 := Tryz.zeroValue253
 g3 := by kernel_rfl
 g4 := by kernel_rfl }
open Go.RowKit in
theorem Tryz.strings_TrimLeft_one (s : ByteArray) (c : UInt8) (hc : c.toNat < 128) (w : World) :
  Calls Tryz.prog 273 #[.string s, .string ⟨#[c]⟩] w fun e w' => e = .returned (.string ⟨(Lib.trimLeftB s.data.toList c).toArray⟩) ∧ w' = w := Any.strings_TrimLeft_one Tryz.lays161 s c hc w
def Tryz.lays134_ren : Go.Shelf.Ren := ⟨fun | 134 => 294 | 129 => 246 | n => n, fun | 53 => 181 | 3 => 3 | 4 => 4 | 46 => 159 | 5 => 5 | 9 => 9 | n => n, fun | n => n⟩
theorem Tryz.lays134 : Go.Proofs.Lays.n134 Tryz.prog Tryz.lays134_ren := {
 mixed := by kernel_rfl
 f129 := Tryz.func246.trans (congrArg some (by kernel_rfl))
 f134 := Tryz.func294.trans (congrArg some (by kernel_rfl))
 t3 := Tryz.underlying3
 a3 := Tryz.isAgg3
 z3 := Tryz.sizeOf3
 v3 := Tryz.zeroValue3
 t4 := Tryz.underlying4
 a4 := Tryz.isAgg4
 z4 := Tryz.sizeOf4
 v4 := Tryz.zeroValue4
 t5 := Tryz.underlying5
 a5 := Tryz.isAgg5
 z5 := Tryz.sizeOf5
 v5 := Tryz.zeroValue5
 t9 := Tryz.underlying9
 a9 := Tryz.isAgg9
 z9 := Tryz.sizeOf9
 v9 := Tryz.zeroValue9
 t46 := Tryz.underlying159
 a46 := Tryz.isAgg159
 z46 := Tryz.sizeOf159
 v46 := Tryz.zeroValue159
 t53 := Tryz.underlying181
 a53 := Tryz.isAgg181
 z53 := Tryz.sizeOf181
 v53 := Tryz.zeroValue181 }
theorem Tryz.bits_LeadingZeros64 (x : Int) (w : World) (h0 : 0 ≤ x) (h1 : x ≤ 18446744073709551615) :
  Calls Tryz.prog 294 #[.int .u64 x] w fun e w' => e = .returned (.int .i64 (64 - (Lib.bitLen x.toNat : Int))) ∧ w' = w := Any.bits_LeadingZeros64 Tryz.lays134 x w h0 h1
def Tryz.lays106_ren : Go.Shelf.Ren := ⟨fun | 106 => 253 | 213 => 270 | 265 => 281 | n => n, fun | 9 => 9 | 3 => 3 | n => n, fun | n => n⟩
theorem Tryz.lays106 : Go.Proofs.Lays.n106 Tryz.prog Tryz.lays106_ren := {
 mixed := by kernel_rfl
 f106 := Tryz.func253.trans (congrArg some (by kernel_rfl))
 f213 := Tryz.func270.trans (congrArg some (by kernel_rfl))
 f265 := Tryz.func281.trans (congrArg some (by kernel_rfl))
 t3 := Tryz.underlying3
 a3 := Tryz.isAgg3
 z3 := Tryz.sizeOf3
 v3 := Tryz.zeroValue3
 t9 := Tryz.underlying9
 a9 := Tryz.isAgg9
 z9 := Tryz.sizeOf9
 v9 := Tryz.zeroValue9 }
open Go.RowKit in
theorem Tryz.strings_Compare (a b : ByteArray) (w : World) :
  Calls Tryz.prog 253 #[.string a, .string b] w fun e w' => e = .returned (.int .i64 (Lib.compareBytes a.data.toList b.data.toList)) ∧ w' = w := Any.strings_Compare Tryz.lays106 a b w
def Tryz.lays103_ren : Go.Shelf.Ren := ⟨fun | 103 => 189 | 210 => 223 | 206 => 247 | n => n, fun | 9 => 9 | 4 => 4 | 24 => 170 | 3 => 3 | n => n, fun | n => n⟩
theorem Tryz.lays103 : Go.Proofs.Lays.n103 Tryz.prog Tryz.lays103_ren := {
 mixed := by kernel_rfl
 f103 := Tryz.func189.trans (congrArg some (by kernel_rfl))
 f206 := Tryz.func247.trans (congrArg some (by kernel_rfl))
 f210 := Tryz.func223.trans (congrArg some (by kernel_rfl))
 t3 := Tryz.underlying3
 a3 := Tryz.isAgg3
 z3 := Tryz.sizeOf3
 v3 := Tryz.zeroValue3
 t4 := Tryz.underlying4
 a4 := Tryz.isAgg4
 z4 := Tryz.sizeOf4
 v4 := Tryz.zeroValue4
 t9 := Tryz.underlying9
 a9 := Tryz.isAgg9
 z9 := Tryz.sizeOf9
 v9 := Tryz.zeroValue9
 t24 := Tryz.underlying170
 a24 := Tryz.isAgg170
 z24 := Tryz.sizeOf170
 v24 := Tryz.zeroValue170 }
open Go.RowKit in
theorem Tryz.strings_CutPrefix (s p : ByteArray) (w : World) :
  Calls Tryz.prog 189 #[.string s, .string p] w fun e w' => e = .returned (.tuple #[.string ⟨(Lib.trimPrefix s.data.toList p.data.toList).toArray⟩, .bool (Lib.hasPrefix s.data.toList p.data.toList)]) ∧ w' = w := Any.strings_CutPrefix Tryz.lays103 s p w
def Tryz.lays122_ren : Go.Shelf.Ren := ⟨fun | 122 => 155 | 215 => 195 | n => n, fun | 3 => 3 | 4 => 4 | n => n, fun | n => n⟩
theorem Tryz.lays122 : Go.Proofs.Lays.n122 Tryz.prog Tryz.lays122_ren := {
 mixed := by kernel_rfl
 f122 := Tryz.func155.trans (congrArg some (by kernel_rfl))
 f215 := Tryz.func195.trans (congrArg some (by kernel_rfl))
 t3 := Tryz.underlying3
 a3 := Tryz.isAgg3
 z3 := Tryz.sizeOf3
 v3 := Tryz.zeroValue3
 t4 := Tryz.underlying4
 a4 := Tryz.isAgg4
 z4 := Tryz.sizeOf4
 v4 := Tryz.zeroValue4 }
open Go.RowKit in
theorem Tryz.cmp_Compare_int (x y : Int) (w : World) :
  Calls Tryz.prog 155 #[.int .i64 x, .int .i64 y] w fun e w' => e = .returned (.int .i64 (Lib.compareInt x y)) ∧ w' = w := Any.cmp_Compare_int Tryz.lays122 x y w
open Go.RowKit in
open Go.RowKit in
open Go.RowKit in
open Go.RowKit in
def Tryz.lays219_ren : Go.Shelf.Ren := ⟨fun | 219 => 248 | 217 => 264 | 225 => 265 | 224 => 266 | 267 => 267 | 266 => 278 | 314 => 279 | n => n, fun | 9 => 9 | 3 => 3 | 4 => 4 | 5 => 5 | 46 => 159 | 146 => 179 | 51 => 178 | n => n, fun | 1 => 0 | n => n⟩
theorem Tryz.lays219 : Go.Proofs.Lays.n219 Tryz.prog Tryz.lays219_ren := {
 mixed := by kernel_rfl
 f217 := Tryz.func264.trans (congrArg some (by kernel_rfl))
 f219 := Tryz.func248.trans (congrArg some (by kernel_rfl))
 f224 := Tryz.func266.trans (congrArg some (by kernel_rfl))
 f225 := Tryz.func265.trans (congrArg some (by kernel_rfl))
 f266 := Tryz.func278.trans (congrArg some (by kernel_rfl))
 f267 := Tryz.func267.trans (congrArg some (by kernel_rfl))
 f314 := Tryz.func279.trans (congrArg some (by kernel_rfl))
 t3 := Tryz.underlying3
 a3 := Tryz.isAgg3
 z3 := Tryz.sizeOf3
 v3 := Tryz.zeroValue3
 t4 := Tryz.underlying4
 a4 := Tryz.isAgg4
 z4 := Tryz.sizeOf4
 v4 := Tryz.zeroValue4
 t5 := Tryz.underlying5
 a5 := Tryz.isAgg5
 z5 := Tryz.sizeOf5
 v5 := Tryz.zeroValue5
 t9 := Tryz.underlying9
 a9 := Tryz.isAgg9
 z9 := Tryz.sizeOf9
 v9 := Tryz.zeroValue9
 t46 := Tryz.underlying159
 a46 := Tryz.isAgg159
 z46 := Tryz.sizeOf159
 v46 := Tryz.zeroValue159
 t51 := Tryz.underlying178
 a51 := Tryz.isAgg178
 z51 := Tryz.sizeOf178
 v51 := Tryz.zeroValue178
 t146 := Tryz.underlying179
 a146 := Tryz.isAgg179
 z146 := Tryz.sizeOf179
 v146 := Tryz.zeroValue179
 g1 := by kernel_rfl }
open Go.RowKit Go.Lib in
theorem Tryz.stringslite_Index_one (s : ByteArray) (c : UInt8) (w : World) :
  Calls Tryz.prog 248 #[.string s, .string ⟨#[c]⟩] w fun e w' => e = .returned (.int .i64 (Lib.indexByte s.data.toList c)) ∧ w' = w := Any.stringslite_Index_one Tryz.lays219 s c w
open Go.RowKit Go.Lib in
def Tryz.lays264_ren : Go.Shelf.Ren := ⟨fun | 264 => 207 | n => n, fun | 53 => 181 | 46 => 159 | n => n, fun | n => n⟩
theorem Tryz.lays264 : Go.Proofs.Lays.n264 Tryz.prog Tryz.lays264_ren := {
 mixed := by kernel_rfl
 f264 := Tryz.func207.trans (congrArg some (by kernel_rfl))
 t46 := Tryz.underlying159
 a46 := Tryz.isAgg159
 z46 := Tryz.sizeOf159
 v46 := Tryz.zeroValue159
 t53 := Tryz.underlying181
 a53 := Tryz.isAgg181
 z53 := Tryz.sizeOf181
 v53 := Tryz.zeroValue181 }
open Go.RowKit Go.Lib in
theorem Tryz.bits_Mul64 (x y : Nat) (hx : x < 18446744073709551616) (hy : y < 18446744073709551616) (w : World) :
  Calls Tryz.prog 207 #[.int .u64 x, .int .u64 y] w fun e w' => e = .returned (.tuple #[.int .u64 ((x * y / 18446744073709551616 : Nat) : Int), .int .u64 ((x * y % 18446744073709551616 : Nat) : Int)]) ∧ w' = w := Any.bits_Mul64 Tryz.lays264 x y hx hy w
def Tryz.lays7_25_ren : Go.Shelf.Ren := ⟨fun | 25 => 289 | n => n, fun | 22 => 181 | n => n, fun | n => n⟩
theorem Tryz.lays7_25 : Go.Proofs.Lays7.n25 Tryz.prog Tryz.lays7_25_ren := {
 mixed := by kernel_rfl
 f25 := Tryz.func289.trans (congrArg some (by kernel_rfl))
 t22 := Tryz.underlying181
 a22 := Tryz.isAgg181
 z22 := Tryz.sizeOf181
 v22 := Tryz.zeroValue181
 i22 := by kernel_rfl }
theorem Tryz.bits_Add64 (x y : Nat) (w : World) :
  (callFunc 289 #[.int .u64 x, .int .u64 y, .int .u64 0]).run Tryz.prog w =
   .ok (.value (.tuple #[.int .u64 (((x + y) % 18446744073709551616 : Nat) : Int), .int .u64 (((x + y) / 18446744073709551616 : Nat) : Int)])) w :=
 Any7.bits_Add64 Tryz.lays7_25 x y 0 (by decide) w
end Go.Proofs
namespace Go.Proofs.YtaogepcaoogpgaaGreatDoor
def sgL (sw : Bool) : Int := if sw then 1 else -1
theorem sgL_not (sw : Bool) : sgL (!sw) = -sgL sw := by cases sw <;> rfl
theorem sgL_sq (sw : Bool) : sgL sw * sgL sw = 1 := by cases sw <;> rfl
structure Fore (hx hy x y a b c d e f : Nat) (sw : Bool) : Prop where
 vx : (x : Int) = sgL sw * (b * hx - d * hy)
 vy : (y : Int) = sgL sw * (f * hy - e * hx)
 det : (b : Int) * f - d * e = sgL sw
 ef : e ≤ f
 bd : b + e ≤ d + f
 f1 : 1 ≤ f
 fh : f ≤ 1000000000000000000
 al : a < 1000000000
 bl : b < 1000000000
 cl : c < 1000000000
 dl : d < 1000000000
 det2 : c = 0 ∨ (b : Int) * c - a * d = sgL sw
 first : (b = 1 ∧ d = 0 ∧ e = 0 ∧ f = 1 ∧ sw = true) ∨ ∀ P X Y : Nat, 0 < P → X / P = hx → Y / P = hy → sgL sw * (b * X - d * Y) ≤ (Y : Int)
 good : c = 0 ∨ ∀ P X Y : Nat, 0 < P → X / P = hx → Y / P = hy → 0 < sgL sw * (b * X - d * Y) ∧ sgL sw * (b * X - d * Y) < -sgL sw * (a * X - c * Y) ∧ -sgL sw * (a * X - c * Y) ≤ (Y : Int)
theorem fore_start (hx hy : Nat) : Fore hx hy hx hy 0 1 0 0 0 1 true where
 vx := by simp [sgL]
 vy := by simp [sgL]
 det := by simp [sgL]
 ef := by omega
 bd := by omega
 f1 := by omega
 fh := by omega
 al := by omega
 bl := by omega
 cl := by omega
 dl := by omega
 det2 := .inl rfl
 first := .inl ⟨rfl, rfl, rfl, rfl, rfl⟩
 good := .inl rfl
section
variable {hx hy x y a b c d e f : Nat} {sw : Bool}
theorem Fore.whole (h : Fore hx hy x y a b c d e f sw) : f * x + d * y = hx := by
 have hz : ((f : Int) * x + d * y) = hx := by
  rw [h.vx, h.vy]
  have hd := h.det
  have hs := sgL_sq sw
  generalize sgL sw = s at *
  have : (f : Int) * (s * (b * hx - d * hy)) + d * (s * (f * hy - e * hx)) = s * ((b : Int) * f - d * e) * hx := by grind
  rw [this, hd, hs]; simp
 exact_mod_cast hz
theorem low_bound {P X Y hx hy : Nat} (hP : 0 < P) (h1 : X / P = hx) (h2 : Y / P = hy) (s : Int) (hs : s = 1 ∨ s = -1) (u v n : Nat) (m : Int) (huv : u ≤ n) (hvn : v ≤ n) (hm : m = s * (u * hx - v * hy)) (hn : (n : Int) ≤ m) (h0 : 0 < n) :
  0 < s * (u * X - v * Y) := by
 have e1 : X = P * hx + X % P := by rw [← h1]; exact (Nat.div_add_mod X P).symm
 have e2 : Y = P * hy + Y % P := by rw [← h2]; exact (Nat.div_add_mod Y P).symm
 have l1 := Nat.mod_lt X hP
 have l2 := Nat.mod_lt Y hP
 generalize X % P = X' at *
 generalize Y % P = Y' at *
 subst e1; subst e2
 have k1 : u * X' ≤ n * (P - 1) := Nat.mul_le_mul huv (by omega)
 have k2 : v * Y' ≤ n * (P - 1) := Nat.mul_le_mul hvn (by omega)
 have k3 : (n : Int) * P ≤ m * P := Int.mul_le_mul_of_nonneg_right hn (by omega)
 have k4 : n * (P - 1) + n = n * P := by
  obtain ⟨p, rfl⟩ : ∃ p, P = p + 1 := ⟨P - 1, by omega⟩
  simp [Nat.mul_add]
 have e3 : s * ((u : Int) * ((P * hx + X' : Nat) : Int) - v * ((P * hy + Y' : Nat) : Int)) = m * P + s * ((u * X' : Nat) - (v * Y' : Nat) : Int) := by
  rw [hm]; push_cast; grind
 rw [e3]
 have k5 : (n : Int) * P = ((n * P : Nat) : Int) := by push_cast; rfl
 rw [k5] at k3
 generalize u * X' = p1 at *
 generalize v * Y' = p2 at *
 generalize n * (P - 1) = p3 at *
 generalize n * P = p4 at *
 generalize m * (P : Int) = p5 at *
 rcases hs with rfl | rfl <;> omega
theorem sgL_or (sw : Bool) : sgL sw = 1 ∨ sgL sw = -1 := by cases sw <;> simp [sgL]
theorem Fore.step (h : Fore hx hy x y a b c d e f sw) (hx18 : hx < 1000000000000000000) (h1 : f ≤ y) (h2 : y + d + f ≤ x) :
  Fore hx hy y (x % y) b e d f (b + x / y * e) (d + x / y * f) (!sw) ∧ x % y < y ∧ f < 1000000000 := by
 have hf1 := h.f1
 have hq : 1 ≤ x / y := (Nat.one_le_div_iff (by omega)).2 (by omega)
 have hdm : y * (x / y) + x % y = x := Nat.div_add_mod x y
 have hml : x % y < y := Nat.mod_lt _ (by omega)
 have hw := h.whole
 have hff : f * f < 1000000000000000000 := by
  have : f * f ≤ f * x := Nat.mul_le_mul_left _ (by omega)
  omega
 have hfb : f < 1000000000 := by
  rcases Nat.lt_or_ge f 1000000000 with g | g
  ·exact g
  ·have := Nat.mul_le_mul g g
   omega
 generalize hqq : x / y = q at *
 generalize hrr : x % y = r at *
 have hgood : ∀ P X Y : Nat, 0 < P → X / P = hx → Y / P = hy → 0 < sgL sw * (f * Y - e * X) ∧ sgL sw * (f * Y - e * X) < sgL sw * (b * X - d * Y) := by
  intro P X Y hP e1 e2
  constructor
  ·have := low_bound (u := e) (v := f) (n := f) hP e1 e2 (-sgL sw) (by rcases sgL_or sw with g | g <;> simp [g]) (y : Int) h.ef (Nat.le_refl _) (by rw [h.vy]; grind) (by omega) (by omega)
   have e3 : -sgL sw * ((e : Int) * X - f * Y) = sgL sw * (f * Y - e * X) := by grind
   rwa [e3] at this
  ·have := low_bound (u := b + e) (v := d + f) (n := d + f) hP e1 e2 (sgL sw) (sgL_or sw) ((x : Int) - y) h.bd (Nat.le_refl _) (by rw [h.vx, h.vy]; push_cast; grind) (by omega) (by omega)
   have e3 : sgL sw * (((b + e : Nat) : Int) * X - ((d + f : Nat) : Int) * Y) = sgL sw * (b * X - d * Y) - sgL sw * (f * Y - e * X) := by push_cast; grind
   rw [e3] at this
   omega
 have hel : e < 1000000000 := Nat.lt_of_le_of_lt h.ef hfb
 have hnext : Fore hx hy y r b e d f (b + q * e) (d + q * f) (!sw) → Fore hx hy y r b e d f (b + q * e) (d + q * f) (!sw) ∧ r < y ∧ f < 1000000000 := fun g => ⟨g, hml, hfb⟩
 apply hnext
 have vy' : (y : Int) = sgL (!sw) * (e * hx - f * hy) := by rw [sgL_not, h.vy]; grind
 have vr' : (r : Int) = sgL (!sw) * ((d + q * f : Nat) * hy - (b + q * e : Nat) * hx) := by
  have e1 : (r : Int) = x - y * q := by have := congrArg (Nat.cast (R := Int)) hdm; push_cast at this; omega
  rw [e1, sgL_not, h.vx, h.vy]; push_cast; grind
 have det' : (e : Int) * (d + q * f : Nat) - f * (b + q * e : Nat) = sgL (!sw) := by
  rw [sgL_not, ← h.det]; push_cast; grind
 have hqe : q * e ≤ q * f := Nat.mul_le_mul_left _ h.ef
 have hqe1 : (q - 1) * e ≤ (q - 1) * f := Nat.mul_le_mul_left _ h.ef
 have hq1 : ∀ z : Nat, q * z = (q - 1) * z + z := fun z => by
  obtain ⟨p, rfl⟩ : ∃ p, q = p + 1 := ⟨q - 1, by omega⟩
  simp [Nat.add_mul]
 have ef' : b + q * e ≤ d + q * f := by rw [hq1 e, hq1 f]; have := h.bd; omega
 have fh' : d + q * f ≤ 1000000000000000000 := by
  have e1 : ((d + q * f : Nat) : Int) * y + f * r = hx := by
   have e2 : (r : Int) = x - y * q := by have := congrArg (Nat.cast (R := Int)) hdm; push_cast at this; omega
   have e3 : (f : Int) * x + d * y = hx := by exact_mod_cast hw
   rw [e2, ← e3]; push_cast; grind
  have e4 : (d + q * f) * y + f * r = hx := by exact_mod_cast e1
  have e5 : (d + q * f) * 1 ≤ (d + q * f) * y := Nat.mul_le_mul_left _ (by omega)
  omega
 exact {
  vx := vy', vy := vr', det := det', ef := ef', bd := by have := h.ef; omega, f1 := by have := Nat.mul_le_mul hq hf1; omega, fh := fh'
  al := h.bl, bl := hel, cl := h.dl, dl := hfb
  det2 := .inr (by rw [sgL_not, ← h.det]; grind)
  first := .inr (fun P X Y hP e1 e2 => by
   have g := hgood P X Y hP e1 e2
   have e3 : sgL (!sw) * ((e : Int) * X - f * Y) = sgL sw * (f * Y - e * X) := by rw [sgL_not]; grind
   rw [e3]
   rcases h.first with ⟨rfl, rfl, rfl, rfl, rfl⟩ | k
   ·simp [sgL]
   ·have := k P X Y hP e1 e2; omega)
  good := by
   rcases h.first with ⟨rfl, rfl, rfl, rfl, rfl⟩ | k
   ·exact .inl rfl
   ·refine .inr (fun P X Y hP e1 e2 => ?_)
    have g := hgood P X Y hP e1 e2
    have g2 := k P X Y hP e1 e2
    have e3 : sgL (!sw) * ((e : Int) * X - f * Y) = sgL sw * (f * Y - e * X) := by rw [sgL_not]; grind
    have e4 : -sgL (!sw) * ((b : Int) * X - d * Y) = sgL sw * (b * X - d * Y) := by rw [sgL_not]; grind
    rw [e3, e4]
    exact ⟨g.1, g.2, g2⟩ }
structure Later (a b c d : Nat) (sw : Bool) (X Y A B : Nat) : Prop where
 t1 : sw = true → A + a * X = c * Y ∧ B + d * Y = b * X
 t2 : sw = false → A + c * Y = a * X ∧ B + b * X = d * Y
 pos : 0 < B
 lt : B < A
 le : A ≤ Y
 g : Nat.gcd A B = Nat.gcd X Y
theorem Fore.out (h : Fore hx hy x y a b c d e f sw) (h0 : c ≠ 0) {P X Y : Nat} (hP : 0 < P) (h1 : X / P = hx) (h2 : Y / P = hy) : ∃ A B, Later a b c d sw X Y A B := by
 obtain ⟨g1, g2, g3⟩ := h.good.resolve_left h0 P X Y hP h1 h2
 have hd := h.det2.resolve_left h0
 have hs := sgL_sq sw
 obtain ⟨A, hA⟩ : ∃ A : Nat, (A : Int) = -sgL sw * (a * X - c * Y) := ⟨(-sgL sw * (a * X - c * Y)).toNat, Int.toNat_of_nonneg (by omega)⟩
 obtain ⟨B, hB⟩ : ∃ B : Nat, (B : Int) = sgL sw * (b * X - d * Y) := ⟨(sgL sw * (b * X - d * Y)).toNat, Int.toNat_of_nonneg (by omega)⟩
 rw [← hA, ← hB] at g2
 rw [← hA] at g3
 rw [← hB] at g1
 refine ⟨A, B, ⟨?_, ?_, by omega, by omega, by omega, ?_⟩⟩
 ·rintro rfl
  simp only [sgL, if_true] at hA hB
  constructor
  ·have : ((A + a * X : Nat) : Int) = ((c * Y : Nat) : Int) := by push_cast; rw [hA]; grind
   exact_mod_cast this
  ·have : ((B + d * Y : Nat) : Int) = ((b * X : Nat) : Int) := by push_cast; rw [hB]; grind
   exact_mod_cast this
 ·rintro rfl
  simp only [sgL] at hA hB
  constructor
  ·have : ((A + c * Y : Nat) : Int) = ((a * X : Nat) : Int) := by push_cast; rw [hA]; simp <;> grind
   exact_mod_cast this
  ·have : ((B + b * X : Nat) : Int) = ((d * Y : Nat) : Int) := by push_cast; rw [hB]; simp <;> grind
   exact_mod_cast this
 ·have eX : d * A + c * B = X := by
   have : ((d : Int) * A + c * B) = X := by
    rw [hA, hB]
    generalize sgL sw = s at *
    have e : (d : Int) * (-s * (a * X - c * Y)) + c * (s * (b * X - d * Y)) = s * ((b : Int) * c - a * d) * X := by grind
    rw [e, hd, hs]; simp
   exact_mod_cast this
  have eY : b * A + a * B = Y := by
   have : ((b : Int) * A + a * B) = Y := by
    rw [hA, hB]
    generalize sgL sw = s at *
    have e : (b : Int) * (-s * (a * X - c * Y)) + a * (s * (b * X - d * Y)) = s * ((b : Int) * c - a * d) * Y := by grind
    rw [e, hd, hs]; simp
   exact_mod_cast this
  refine Nat.dvd_antisymm (Nat.dvd_gcd ?_ ?_) (Nat.dvd_gcd ?_ ?_)
  ·rw [← eX]; exact Nat.dvd_add (Nat.dvd_mul_left_of_dvd (Nat.gcd_dvd_left A B) _) (Nat.dvd_mul_left_of_dvd (Nat.gcd_dvd_right A B) _)
  ·rw [← eY]; exact Nat.dvd_add (Nat.dvd_mul_left_of_dvd (Nat.gcd_dvd_left A B) _) (Nat.dvd_mul_left_of_dvd (Nat.gcd_dvd_right A B) _)
  ·have hx' : ((Nat.gcd X Y : Nat) : Int) ∣ X := Int.natCast_dvd_natCast.2 (Nat.gcd_dvd_left X Y)
   have hy' : ((Nat.gcd X Y : Nat) : Int) ∣ Y := Int.natCast_dvd_natCast.2 (Nat.gcd_dvd_right X Y)
   apply Int.natCast_dvd_natCast.1
   rw [hA]
   exact Int.dvd_mul_of_dvd_right (Int.dvd_sub (Int.dvd_mul_of_dvd_right hx') (Int.dvd_mul_of_dvd_right hy'))
  ·have hx' : ((Nat.gcd X Y : Nat) : Int) ∣ X := Int.natCast_dvd_natCast.2 (Nat.gcd_dvd_left X Y)
   have hy' : ((Nat.gcd X Y : Nat) : Int) ∣ Y := Int.natCast_dvd_natCast.2 (Nat.gcd_dvd_right X Y)
   apply Int.natCast_dvd_natCast.1
   rw [hB]
   exact Int.dvd_mul_of_dvd_right (Int.dvd_sub (Int.dvd_mul_of_dvd_right hx') (Int.dvd_mul_of_dvd_right hy'))
end
def difS (f g : Nat) (xs ys : List Nat) (i : Nat) (c : Int) : Int := c + (((f * xs.getD i 0 : Nat) : Int) - ((g * ys.getD i 0 : Nat) : Int))
def dif (f g : Nat) (xs ys : List Nat) : Nat → List Nat × Int
 | 0 => ([], 0)
 | k + 1 => ((dif f g xs ys k).1 ++ [(difS f g xs ys k (dif f g xs ys k).2 % 1000000000).toNat], difS f g xs ys k (dif f g xs ys k).2 / 1000000000)
structure DifIs (f g : Nat) (xs ys : List Nat) (k : Nat) (zs : List Nat) (c : Int) : Prop where
 len : zs.length = k
 lt : ∀ z ∈ zs, z < 1000000000
 lo : -1000000000 ≤ c
 hi : c ≤ 1000000000
 val : ((vl 1000000000 zs : Nat) : Int) + ((1000000000 ^ k : Nat) : Int) * c = f * (vl 1000000000 (xs.take k) : Nat) - g * (vl 1000000000 (ys.take k) : Nat)
theorem difS_range {f g : Nat} {xs ys : List Nat} (hf : f ≤ 1000000000) (hg : g ≤ 1000000000) (hx : ∀ x ∈ xs, x < 1000000000) (hy : ∀ y ∈ ys, y < 1000000000) (i : Nat) {c : Int} (h1 : -1000000000 ≤ c) (h2 : c ≤ 1000000000) :
  f * xs.getD i 0 ≤ 999999999000000000 ∧ g * ys.getD i 0 ≤ 999999999000000000 ∧ -1000000000000000000 ≤ difS f g xs ys i c ∧ difS f g xs ys i c ≤ 1000000000000000000 := by
 have a1 := getD_mem_lt 1000000000 (by decide) xs hx i
 have a2 := getD_mem_lt 1000000000 (by decide) ys hy i
 have b1 := fb_le f _ hf a1
 have b2 := fb_le g _ hg a2
 unfold difS
 omega
theorem dif_is {f g : Nat} {xs ys : List Nat} (hf : f ≤ 1000000000) (hg : g ≤ 1000000000) (hx : ∀ x ∈ xs, x < 1000000000) (hy : ∀ y ∈ ys, y < 1000000000) : ∀ k, DifIs f g xs ys k (dif f g xs ys k).1 (dif f g xs ys k).2
 | 0 => ⟨rfl, by simp [dif], by simp [dif], by simp [dif], by simp [dif, vl]⟩
 | k + 1 => by
  have ih := dif_is hf hg hx hy k
  obtain ⟨r1, r2, r3, r4⟩ := difS_range hf hg hx hy k ih.lo ih.hi
  have hdm := Int.mul_ediv_add_emod (difS f g xs ys k (dif f g xs ys k).2) 1000000000
  have hm0 := Int.emod_nonneg (difS f g xs ys k (dif f g xs ys k).2) (show (1000000000 : Int) ≠ 0 by decide)
  have hm1 := Int.emod_lt_of_pos (difS f g xs ys k (dif f g xs ys k).2) (show (0 : Int) < 1000000000 by decide)
  have hS : difS f g xs ys k (dif f g xs ys k).2 = (dif f g xs ys k).2 + (((f * xs.getD k 0 : Nat) : Int) - ((g * ys.getD k 0 : Nat) : Int)) := rfl
  have hv := ih.val
  have hl := ih.len
  refine ⟨?_, ?_, ?_, ?_, ?_⟩
  ·simp [dif, hl]
  ·intro z hz
   simp only [dif, List.mem_append, List.mem_singleton] at hz
   rcases hz with hz | rfl
   ·exact ih.lt z hz
   ·omega
  ·show -1000000000 ≤ difS f g xs ys k (dif f g xs ys k).2 / 1000000000
   omega
  ·show difS f g xs ys k (dif f g xs ys k).2 / 1000000000 ≤ 1000000000
   omega
  ·show ((vl 1000000000 ((dif f g xs ys k).1 ++ [(difS f g xs ys k (dif f g xs ys k).2 % 1000000000).toNat]) : Nat) : Int) + ((1000000000 ^ (k + 1) : Nat) : Int) * (difS f g xs ys k (dif f g xs ys k).2 / 1000000000) = _
   rw [vl_snoc, hl, vl_take_succ, vl_take_succ]
   generalize difS f g xs ys k (dif f g xs ys k).2 / 1000000000 = q at *
   generalize hr : difS f g xs ys k (dif f g xs ys k).2 % 1000000000 = r at *
   have hr2 : ((r.toNat : Nat) : Int) = r := Int.toNat_of_nonneg hm0
   have e1 : (r : Int) = (dif f g xs ys k).2 + (((f * xs.getD k 0 : Nat) : Int) - ((g * ys.getD k 0 : Nat) : Int)) - 1000000000 * q := by omega
   generalize (dif f g xs ys k).2 = c at *
   generalize vl 1000000000 (dif f g xs ys k).1 = z at *
   rw [Nat.pow_succ]
   generalize (1000000000 : Nat) ^ k = P at *
   simp only [Int.natCast_add, Int.natCast_mul] at hv e1 ⊢
   rw [hr2, e1]
   have e9 : ((1000000000 : Nat) : Int) = 1000000000 := rfl
   rw [e9]
   grind
theorem dif_end {f g : Nat} {xs ys : List Nat} (hf : f ≤ 1000000000) (hg : g ≤ 1000000000) (hx : ∀ x ∈ xs, x < 1000000000) (hy : ∀ y ∈ ys, y < 1000000000) {n R : Nat} (hxn : xs.length ≤ n) (hyn : ys.length ≤ n)
  (hR : R + g * vl 1000000000 ys = f * vl 1000000000 xs) (hlt : R < 1000000000 ^ n) : vl 1000000000 (dif f g xs ys n).1 = R := by
 have h := dif_is hf hg hx hy n
 have hv := h.val
 rw [List.take_of_length_le hxn, List.take_of_length_le hyn] at hv
 have hz := vl_lt 1000000000 _ h.lt
 rw [h.len] at hz
 have hR2 : (R : Int) + g * (vl 1000000000 ys : Nat) = f * (vl 1000000000 xs : Nat) := by exact_mod_cast hR
 have hv2 : ((vl 1000000000 (dif f g xs ys n).1 : Nat) : Int) + ((1000000000 ^ n : Nat) : Int) * (dif f g xs ys n).2 = R := by omega
 generalize vl 1000000000 (dif f g xs ys n).1 = z at *
 generalize (dif f g xs ys n).2 = c at *
 generalize (1000000000 : Nat) ^ n = P at *
 have hc : c = 0 := by
  rcases Int.lt_trichotomy c 0 with k | k | k
  ·have : (P : Int) * c ≤ (P : Int) * (-1) := Int.mul_le_mul_of_nonneg_left (by omega) (by omega)
   omega
  ·exact k
  ·have : (P : Int) * 1 ≤ (P : Int) * c := Int.mul_le_mul_of_nonneg_left (by omega) (by omega)
   omega
 subst hc
 omega
theorem low_cases (c : Int) : (Int.tmod c 1000000000 < 0 ∧ c % 1000000000 = Int.tmod c 1000000000 + 1000000000 ∧ c / 1000000000 = Int.tdiv c 1000000000 - 1) ∨
  (0 ≤ Int.tmod c 1000000000 ∧ c % 1000000000 = Int.tmod c 1000000000 ∧ c / 1000000000 = Int.tdiv c 1000000000) := by
 have h1 := Int.mul_tdiv_add_tmod c 1000000000
 have h2 := Int.tmod_lt_of_pos c (show (0 : Int) < 1000000000 by decide)
 have h3 := Int.tmod_lt_of_pos (-c) (show (0 : Int) < 1000000000 by decide)
 rw [Int.neg_tmod] at h3
 generalize Int.tmod c 1000000000 = t at *
 generalize Int.tdiv c 1000000000 = q at *
 by_cases h : t < 0
 ·left; omega
 ·right; omega
end Go.Proofs.YtaogepcaoogpgaaGreatDoor
