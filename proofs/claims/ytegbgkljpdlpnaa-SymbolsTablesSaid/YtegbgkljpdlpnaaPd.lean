/- Plain Lean: stray bytes, as the program tells them and as the decoder does; the division of a text. -/
import Derived.Test.YtegbgkljpdlpnaaPc
import Derived.Lib.Strings
set_option linter.unusedVariables false
set_option linter.unusedSimpArgs false
namespace Go.Proofs.Ytegbgkljpdlpnaa

def isB : List UInt8 := [239, 191, 189]
/-- What isStray answers: the code point U+FFFD, and not its three bytes. -/
def strayR (s : ByteArray) (i : Nat) (r : Int) : Bool := decide (r = 65533) && !Lib.hasPrefix (s.data.toList.drop i) isB

theorem len_list (s : ByteArray) : s.data.toList.length = s.size := Array.length_toList
theorem gb_list (s : ByteArray) (i : Nat) : gb s i = (s.data.toList.getD i 0).toNat := by
  by_cases h : i < s.size
  · have h2 : i < s.data.toList.length := by rw [len_list]; exact h
    rw [gb_pos s i h, List.getD_eq_getElem?_getD, List.getElem?_eq_getElem h2]; rfl
  · rw [gb_out s i h, List.getD_eq_getElem?_getD, List.getElem?_eq_none (by rw [len_list]; omega)]; rfl

theorem u8n {x : UInt8} {n : Nat} (hn : n < 256) : x = UInt8.ofNat n ↔ x.toNat = n := by
  constructor
  · rintro rfl; exact u8_of n hn
  · intro h; apply UInt8.toNat_inj.1; rw [h, u8_of n hn]

theorem prefix_gb (s : ByteArray) (i : Nat) : Lib.hasPrefix (s.data.toList.drop i) isB = decide (gb s i = 239 ∧ gb s (i+1) = 191 ∧ gb s (i+2) = 189) := by
  have e0 := gb_list s i; have e1 := gb_list s (i+1); have e2 := gb_list s (i+2)
  have d0 : s.data.toList.getD i 0 = (s.data.toList.drop i).getD 0 0 := by simp [List.getD_eq_getElem?_getD]
  have d1 : s.data.toList.getD (i+1) 0 = (s.data.toList.drop i).getD 1 0 := by simp [List.getD_eq_getElem?_getD]
  have d2 : s.data.toList.getD (i+2) 0 = (s.data.toList.drop i).getD 2 0 := by simp [List.getD_eq_getElem?_getD]
  rw [d0] at e0; rw [d1] at e1; rw [d2] at e2
  rw [e0, e1, e2]
  generalize s.data.toList.drop i = l
  unfold Lib.hasPrefix isB
  have a0 : ∀ x : UInt8, x = 239 ↔ x.toNat = 239 := fun x => ⟨fun h => by rw [h]; rfl, fun h => UInt8.toNat_inj.1 h⟩
  have a1 : ∀ x : UInt8, x = 191 ↔ x.toNat = 191 := fun x => ⟨fun h => by rw [h]; rfl, fun h => UInt8.toNat_inj.1 h⟩
  have a2 : ∀ x : UInt8, x = 189 ↔ x.toNat = 189 := fun x => ⟨fun h => by rw [h]; rfl, fun h => UInt8.toNat_inj.1 h⟩
  rw [Bool.eq_iff_iff]
  match l with
  | [] => simp
  | [x] => simp
  | [x, y] => simp
  | x :: y :: z :: t =>
    simp only [List.isPrefixOf, List.getD_cons_zero, List.getD_cons_succ, Bool.and_true, Bool.and_eq_true, beq_iff_eq, decide_eq_true_eq]
    rw [← a0, ← a1, ← a2]
    constructor
    · rintro ⟨rfl, rfl, rfl⟩; exact ⟨rfl, rfl, rfl⟩
    · rintro ⟨rfl, rfl, rfl⟩; exact ⟨rfl, rfl, rfl⟩

set_option maxRecDepth 100000 in
theorem strayR_eq (s : ByteArray) (i : Nat) : strayR s i ((Utf8.decode s i).1 : Int) = stray s i := by
  unfold strayR stray
  rw [prefix_gb]
  rw [Bool.eq_iff_iff]
  rcases dec_cases s i with ⟨h0, e⟩ | ⟨a0, a1, c1, q, e⟩ | ⟨a0, a1, c1, c2, q, q2, e⟩ | ⟨a0, a1, c1, c2, c3, q, q2, e⟩ | ⟨g, e⟩
  · rw [e]; simp; omega
  · rw [e]; simp; omega
  · rw [e]; simp; omega
  · rw [e]; simp; omega
  · have hd := decode_eq s i
    rw [e] at hd ⊢
    simp only [Bool.and_eq_true, decide_eq_true_eq, Bool.not_eq_true', decide_eq_false_iff_not, beq_self_eq_true, iff_true]
    refine ⟨rfl, fun hp => ?_⟩
    obtain ⟨p0, p1, p2⟩ := hp
    rw [p0, p1, p2] at hd
    simp at hd

/-- The first stray byte, from a place on. -/
def badFrom (s : ByteArray) : Nat → Nat → Option Nat
  | 0, _ => none
  | f + 1, i => if i < s.size then (if stray s i then some i else badFrom s f (i + pw s i)) else none
def bad (s : ByteArray) : Option Nat := badFrom s s.size 0

theorem badFrom_end (s : ByteArray) (f i : Nat) (h : ¬ i < s.size) : badFrom s f i = none := by cases f <;> simp [badFrom, h]
theorem badFrom_hit (s : ByteArray) (f i : Nat) (h : i < s.size) (hs : stray s i = true) : badFrom s (f + 1) i = some i := by simp [badFrom, h, hs]
theorem badFrom_miss (s : ByteArray) (f i : Nat) (h : i < s.size) (hs : stray s i = false) : badFrom s (f + 1) i = badFrom s f (i + pw s i) := by simp [badFrom, h, hs]

/-- What Split returns: the letters, the place, the error. -/
def splitOf (b : Option Nat) (s : ByteArray) : List ByteArray × Nat × Nat := match b with
  | some p => ([], p, 3)
  | none => (pieces s, 0, 0)
def splitL (s : ByteArray) : List ByteArray × Nat × Nat := if 16384 < s.size then ([], 0, 2) else splitOf (bad s) s
end Go.Proofs.Ytegbgkljpdlpnaa
