/- IndexRune of the two marks of a numeral, at a rune beyond ASCII: none. -/
import Derived.Test.YthokjhlbbgfplaaGreatDoorQj
import Derived.Laws.Runes
import Derived.Laws.RangeAny
import Derived.BigQuiet
import Derived.WalkMore
import Derived.Deep.LoopGhost
set_option linter.unusedVariables false
set_option linter.unusedSimpArgs false
namespace Go.Proofs.YthokjhlbbgfplaaGreatDoor
open Go.RowKit
open Go.Lib (nDigits decDigits)

theorem validRune_any (r : Int) (h0 : 128 ≤ r) (w : World) :
    Calls Tryz.prog 110 #[.int .i32 r] w fun e w' => e = .returned (.bool (Utf8.valid r)) ∧ w = w' := by
  have hv : Utf8.valid r = (decide (r < 55296) || (decide (57343 < r) && decide (r ≤ 1114111))) := by
    unfold Utf8.valid
    rw [Bool.eq_iff_iff]
    simp
    omega
  rw [hv]
  clear hv
  have z0 : (0 : Int) ≤ r := by omega
  by_cases h1 : r < 55296
  · go_enter Tryz.func110, Tryz.ntmps110
    go_wp2
    go_ret
    exact ⟨by simp [h1], rfl⟩
  · by_cases h2 : 57343 < r
    · by_cases h3 : r ≤ 1114111
      · go_enter Tryz.func110, Tryz.ntmps110
        go_wp2
        go_ret
        exact ⟨by simp [h1, h2, h3], rfl⟩
      · go_enter Tryz.func110, Tryz.ntmps110
        go_wp2
        go_ret
        exact ⟨by simp [h1, h2, h3], rfl⟩
    · go_enter Tryz.func110, Tryz.ntmps110
      go_wp2
      go_ret
      exact ⟨by simp [h1]; omega, rfl⟩

def FarPost (w : World) (e : Ending) (w' : World) : Prop := e = .returned (.int .i64 (-1)) ∧ w.grownBy w' none
def marks : ByteArray := ⟨#[47, 46]⟩
set_option maxRecDepth 100000 in
set_option maxHeartbeats 1000000 in
theorem far_bad (r : Int) (w : World) (h0 : 128 ≤ r) (h1 : (r == 65533) = false) (V : Hid (∀ w, Calls Tryz.prog 110 #[.int .i32 r] w fun e w' => e = .returned (.bool false) ∧ w = w')) :
    Calls Tryz.prog 85 #[.string ⟨#[47, 46]⟩, .int .i32 r] w (FarPost w) := by
  have z0 : (0 : Int) ≤ r := by omega
  have z1 : ¬ r < 128 := by omega
  go_enter Tryz.func85, Tryz.ntmps85
  go_wp2_with fail
  refine (V.out _).mono ?_
  rintro e w' ⟨rfl, rfl⟩
  go_wp2
  go_ret
  exact ⟨rfl, grown_refl _ _⟩
set_option maxRecDepth 100000 in
set_option maxHeartbeats 1000000 in
theorem far_long (r : Int) (X : ByteArray) (w : World) (h0 : 128 ≤ r) (h1 : (r == 65533) = false) (V : Hid (∀ w, Calls Tryz.prog 110 #[.int .i32 r] w fun e w' => e = .returned (.bool true) ∧ w = w'))
    (eX : Utf8.encode r = X) (k : Int) (hk : (X.size : Int) - 1 = k) (hk2 : 2 ≤ k) (hk3 : k ≤ 3) :
    Calls Tryz.prog 85 #[.string ⟨#[47, 46]⟩, .int .i32 r] w (FarPost w) := by
  have z0 : (0 : Int) ≤ r := by omega
  have z1 : ¬ r < 128 := by omega
  have z2 : ¬ k < 2 := by omega
  have hcv : ∀ w : World, (convert 21 9 (.int .i32 r)).run Tryz.prog w = .ok (.string X) w := fun w => by
    rw [← eX]
    exact run_convert_int_string w _ _ _ r (by rw [Tryz.underlying21]; rfl) Tryz.underlying9
  clear eX
  go_enter Tryz.func85, Tryz.ntmps85
  go_wp2_with fail
  refine (V.out _).mono ?_
  rintro e w' ⟨rfl, rfl⟩
  go_wp2
  go_step3
  go_wp2
  try go_step3
  try go_wp2
  go_loop [9] (fun i => i = .int .i64 k) (fun _ => 0)
  case atStart => rfl
  case round =>
    subst hrel
    go_wp2
    go_ret
    exact ⟨rfl, grown_refl _ _⟩
set_option maxRecDepth 100000 in
set_option maxHeartbeats 1000000 in
theorem far_two (r : Int) (X : ByteArray) (w : World) (h0 : 128 ≤ r) (h1 : (r == 65533) = false) (V : Hid (∀ w, Calls Tryz.prog 110 #[.int .i32 r] w fun e w' => e = .returned (.bool true) ∧ w = w'))
    (eX : Utf8.encode r = X) (hk : (X.size : Int) - 1 = 1) (hs : 1 < X.size) (b : Int) (hb : ((X[1]'hs).toNat : Int) = b) (hb1 : 128 ≤ b) (hb2 : b < 256)
    (IB : Hid (∀ w, Calls Tryz.prog 109 #[.string ByteArray.empty, .int .u8 b] w fun e w' => e = .returned (.int .i64 (-1)) ∧ w' = w)) :
    Calls Tryz.prog 85 #[.string ⟨#[47, 46]⟩, .int .i32 r] w (FarPost w) := by
  have z0 : (0 : Int) ≤ r := by omega
  have z1 : ¬ r < 128 := by omega
  have z2 : (1 : Int) < (X.size : Int) := by omega
  have hcv : ∀ w : World, (convert 21 9 (.int .i32 r)).run Tryz.prog w = .ok (.string X) w := fun w => by
    rw [← eX]
    exact run_convert_int_string w _ _ _ r (by rw [Tryz.underlying21]; rfl) Tryz.underlying9
  clear eX
  have hw2 : IntKind.i64.wrap 2 = 2 := by decide
  have hS : (((⟨#[47, 46]⟩ : ByteArray)[1]'(by decide)).toNat : Int) = 46 := rfl
  have hE : (⟨#[47, 46]⟩ : ByteArray).extract 2 2 = ⟨#[]⟩ := by decide +kernel
  have z3 : ((46 : Int) != b) = true := by simp; omega
  have z4 : ((46 : Int) == b) = false := by simp; omega
  go_enter Tryz.func85, Tryz.ntmps85
  go_wp2_with fail
  refine (V.out _).mono ?_
  rintro e w' ⟨rfl, rfl⟩
  go_wp2
  go_step3
  go_wp2
  try go_step3
  try go_wp2
  go_loop [9] (fun i => i = .int .i64 1) (fun _ => 0)
  case atStart => rfl
  case round =>
    subst hrel
    go_wp2_with fail
    go_step3
    go_wp2_with fail
    go_quiet (fail)
    go_wp2_with fail
    go_quiet ((go_at_call 109; refine (IB.out _).mono ?_; rintro e w'' ⟨rfl, rfl⟩; exact ⟨rfl, _, rfl⟩))
    go_wp2
    go_ret
    exact ⟨rfl, grown_drewN _ _ _⟩
set_option maxRecDepth 100000 in
set_option maxHeartbeats 1000000 in
theorem far_error (w : World) : Calls Tryz.prog 85 #[.string ⟨#[47, 46]⟩, .int .i32 65533] w (FarPost w) := by
  have n0 : ∀ ty, (Instr.next (.pointer (some ⟨w.heap.size, 0, none⟩)) true ty).run Tryz.prog (w.iter ⟨#[47, 46]⟩ 0) = .ok (.tuple #[.bool true, .int .i64 0, .int .i32 47]) (w.iter ⟨#[47, 46]⟩ 1) := fun ty => run_next_ascii w ⟨#[47, 46]⟩ 0 ty (by decide) (by decide)
  have n1 : ∀ ty, (Instr.next (.pointer (some ⟨w.heap.size, 0, none⟩)) true ty).run Tryz.prog (w.iter ⟨#[47, 46]⟩ 1) = .ok (.tuple #[.bool true, .int .i64 1, .int .i32 46]) (w.iter ⟨#[47, 46]⟩ 2) := fun ty => run_next_ascii w ⟨#[47, 46]⟩ 1 ty (by decide) (by decide)
  have n2 : ∀ ty, (Instr.next (.pointer (some ⟨w.heap.size, 0, none⟩)) true ty).run Tryz.prog (w.iter ⟨#[47, 46]⟩ 2) = .ok (.tuple #[.bool false]) (w.iter ⟨#[47, 46]⟩ 2) := fun ty => run_next_end w ⟨#[47, 46]⟩ 2 ty (by decide)
  go_enter Tryz.func85, Tryz.ntmps85
  go_wp2
  go_loopg [5, 6] 2 (fun g _ _ wx => ∃ i : Nat, i + g = 2 ∧ wx = w.iter ⟨#[47, 46]⟩ i)
  case atStart => exact ⟨0, rfl, rfl⟩
  case round =>
    obtain ⟨i, hig, rfl⟩ := hrel
    cases gk with
    | zero =>
      obtain rfl : i = 2 := by omega
      go_wp2
      go_ret
      exact ⟨rfl, World.grownBy_alloc _ _ _⟩
    | succ g =>
      cases g with
      | zero =>
        obtain rfl : i = 1 := by omega
        go_wp2
        go_roundg 0
        case measure => omega
        case rel => exact ⟨2, rfl, rfl⟩
      | succ g =>
        obtain rfl : i = 0 := by omega
        obtain rfl : g = 0 := by omega
        go_wp2
        go_roundg 1
        case measure => omega
        case rel => exact ⟨1, rfl, rfl⟩
theorem far_any (r : Int) (h0 : 128 ≤ r) (w : World) : Calls Tryz.prog 85 #[.string ⟨#[47, 46]⟩, .int .i32 r] w (FarPost w) := by
  by_cases h1 : r = 65533
  · rw [h1]; exact far_error w
  have h1' : (r == 65533) = false := by simpa using h1
  have V := fun w => validRune_any r h0 w
  cases hv : Utf8.valid r
  · rw [hv] at V
    exact far_bad r w h0 h1' (Lib.hid V)
  · rw [hv] at V
    obtain ⟨s1, s2, s3⟩ := encode_facts r hv h0
    by_cases h2 : (Utf8.encode r).size = 2
    · have hs : 1 < (Utf8.encode r).size := by omega
      have hb := s3 (by omega)
      have hidx : (Utf8.encode r)[(Utf8.encode r).size - 1]'(by omega) = (Utf8.encode r)[1]'hs := by congr 1; omega
      rw [hidx] at hb
      have hlt := ((Utf8.encode r)[1]'hs).toNat_lt
      exact far_two r _ w h0 h1' (Lib.hid V) rfl (by omega) hs _ rfl (by omega) (by omega) (Lib.hid fun w => by
        have h := Any.strings_IndexByte ({ Tryz.lays153 with } : Go.Proofs.Lays.n137 Tryz.prog Tryz.lays153_ren) ByteArray.empty ((((Utf8.encode r)[1]'hs).toNat : Nat) : Int) w
        refine Calls.mono (show Calls Tryz.prog 109 _ _ _ from h) fun e w' ⟨h1, h2⟩ => ⟨?_, h2⟩
        rw [h1]; rfl)
    · exact far_long r _ w h0 h1' (Lib.hid V) rfl _ rfl (by omega) (by omega)
end Go.Proofs.YthokjhlbbgfplaaGreatDoor
