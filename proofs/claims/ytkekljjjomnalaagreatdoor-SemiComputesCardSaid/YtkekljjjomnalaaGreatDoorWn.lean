/- Div, divisor, Gcd. -/
import Derived.Test.YtkekljjjomnalaaGreatDoorWm
import Derived.Deep.LoopGhost
set_option linter.unusedVariables false
set_option linter.unusedSimpArgs false
namespace Go.Proofs.YtkekljjjomnalaaGreatDoor
open Go.RowKit
open Go.Lib (nDigits)

theorem divide_any (B gx cx gy cy : Nat) (xs ys : List Nat) (w : World) (hxb : Blks B w (.slice (some ⟨gx, 0, none⟩) xs.length cx) xs) (hyb : Blks B w (.slice (some ⟨gy, 0, none⟩) ys.length cy) ys) (hne : gx ≠ gy)
    (hx : ∀ x ∈ xs, x < 1000000000) (hy : ∀ y ∈ ys, y < 1000000000) (hxt : topOk xs) (hyt : topOk ys) (h0 : ys ≠ []) (hn : xs.length ≤ 10000) (hBw : B ≤ w.heap.size) :
    Calls Tryz.prog 124 #[.slice (some ⟨gx, 0, none⟩) xs.length cx, .slice (some ⟨gy, 0, none⟩) ys.length cy] w (DivPost B gx gy xs ys w) := by
  rcases Nat.lt_or_ge xs.length ys.length with h | h
  · exact divide_short B gx cx gy cy xs ys w hxb hne hx hxt hyt h
  · obtain ⟨m, hm⟩ : ∃ m, ys.length = m + 1 := ⟨ys.length - 1, by have := List.length_pos_iff.2 h0; omega⟩
    exact divide_long B gx cx gy cy m xs ys w hxb hyb hne hx hy hyt hm h hn hBw

def divV (a b : ByteArray) : Value :=
  if numB a && numB b then (if nv b = 0 then .tuple #[.string ⟨#[]⟩, .string ⟨#[]⟩, .int .i64 4] else .tuple #[.string (decS (nv a / nv b)), .string (decS (nv a % nv b)), .int .i64 0])
  else .tuple #[.string ⟨#[]⟩, .string ⟨#[]⟩, .int .i64 1]
def gcdV (a b : ByteArray) : Value := if numB a && numB b then .tuple #[.string (decS (Nat.gcd (nv a) (nv b))), .int .i64 0] else badV

theorem zero_str (b : ByteArray) (h : numB b = true) : (b.toList == [48]) = decide (nv b = 0) := by
  rw [Lib.toList_data]
  by_cases hz : nv b = 0
  · have := (num_is b h).1
    rw [hz] at this
    rw [this, toList_dec, Lib.decDigits_one (by decide)]
    simp [hz]
    rw [← this, hz]
  · have : b.data.toList ≠ [48] := by
      intro e
      apply hz
      unfold nv
      rw [e]; rfl
    simp [hz, this]
theorem nil_of_zero {xs : List Nat} (h : topOk xs) : xs = [] ↔ vl 1000000000 xs = 0 := (vl_eq_zero 1000000000 (by decide) xs h).symm

structure GcdInv (B gx cx gy cy : Nat) (xs ys : List Nat) (w0 wr : World) (G : Nat) : Prop where
  xb : Blks B wr (.slice (some ⟨gx, 0, none⟩) xs.length cx) xs
  yb : Blks B wr (.slice (some ⟨gy, 0, none⟩) ys.length cy) ys
  ne : gx ≠ gy
  xlt : ∀ x ∈ xs, x < 1000000000
  ylt : ∀ y ∈ ys, y < 1000000000
  xt : topOk xs
  yt : topOk ys
  g : Nat.gcd (vl 1000000000 xs) (vl 1000000000 ys) = G
  xn : xs.length ≤ 10000
  yn : ys.length ≤ 10000
  bel : Below B w0 wr
  bs : B ≤ wr.heap.size
theorem GcdInv.step {B gx cx gy cy : Nat} {xs ys : List Nat} {w0 wr w' : World} {G : Nat} (h : GcdInv B gx cx gy cy xs ys w0 wr G) (h0 : ys ≠ []) {qv : Value} {qs rs : List Nat} {gr cr : Nat}
    (hd : DivOk B gx gy xs ys wr w' qv qs gr cr rs) : GcdInv B gy cy gr cr ys rs w0 w' G ∧ vl 1000000000 rs < vl 1000000000 ys := by
  have hpos : 0 < vl 1000000000 ys := by
    rcases Nat.eq_zero_or_pos (vl 1000000000 ys) with e | e
    · exact absurd ((nil_of_zero h.yt).2 e) h0
    · exact e
  have hlt : vl 1000000000 rs < vl 1000000000 ys := by rw [hd.rv]; exact Nat.mod_lt _ hpos
  refine ⟨⟨h.yb.grown hd.gr (by have := h.ne; simp [Value.ownBlock]; omega), hd.rb, fun e => hd.rne e.symm, h.ylt, hd.rlt, h.yt, hd.rt, ?_, h.yn, ?_, ?_, ?_⟩, hlt⟩
  · rw [hd.rv, ← h.g, Nat.gcd_comm (vl 1000000000 xs), Nat.gcd_rec (vl 1000000000 ys) (vl 1000000000 xs), Nat.gcd_comm]
  · exact Nat.le_trans (len_le ys rs h.ylt hd.rt (by omega)) h.yn
  · refine h.bel.trans (below_grown hd.gr h.bs ?_)
    intro k hk
    simp at hk
    subst hk
    exact (h.xb.lt gx rfl).1
  · exact Nat.le_trans h.bs hd.gr.size

def GcdPost (B G : Nat) (w : World) (e : Ending) (w' : World) : Prop :=
  ∃ g c zs, e = .returned (.slice (some ⟨g, 0, none⟩) zs.length c) ∧ Blks B w' (.slice (some ⟨g, 0, none⟩) zs.length c) zs ∧ (∀ z ∈ zs, z < 1000000000) ∧ vl 1000000000 zs = G ∧ zs.length ≤ 10000 ∧ Below B w w'

set_option maxRecDepth 20000 in
set_option maxHeartbeats 1000000 in
theorem divisor_any (B gx cx gy cy G : Nat) (xs ys : List Nat) (w : World) (h : GcdInv B gx cx gy cy xs ys w w G) :
    Calls Tryz.prog 123 #[.slice (some ⟨gx, 0, none⟩) xs.length cx, .slice (some ⟨gy, 0, none⟩) ys.length cy] w (GcdPost B G w) := by
  have H := Lib.hid h
  clear h
  go_enter Tryz.func123, Tryz.ntmps123
  go_wp2
  go_loopg [0, 1] (vl 1000000000 ys) (fun n x y wr => ∃ gx cx xs gy cy ys, x = .slice (some ⟨gx, 0, none⟩) xs.length cx ∧ y = .slice (some ⟨gy, 0, none⟩) ys.length cy ∧ GcdInv B gx cx gy cy xs ys w wr G ∧ vl 1000000000 ys = n)
  case atStart => exact ⟨_, _, _, _, _, _, rfl, rfl, H.out, rfl⟩
  case round =>
    obtain ⟨gx, cx, xs, gy, cy, ys, rfl, rfl, hinv, hgk⟩ := hrel
    by_cases h0 : ys = []
    · subst h0
      have HI := Lib.hid hinv
      clear hinv hgk
      have f1 : ¬ ((0 : Int) < ((([] : List Nat).length : Nat) : Int)) := by simp
      go_wp2
      go_ret
      have hi := HI.out
      exact ⟨gx, cx, xs, rfl, hi.xb, hi.xlt, by rw [← hi.g]; simp [vl], hi.xn, hi.bel⟩
    · have hl : (0 : Int) < (ys.length : Int) := by have := List.length_pos_iff.2 h0; omega
      have hd := divide_any B gx cx gy cy xs ys wr hinv.xb hinv.yb hinv.ne hinv.xlt hinv.ylt hinv.xt hinv.yt h0 hinv.xn hinv.bs
      have HI := Lib.hid hinv; have HD := Lib.hid hd; have H0 := Lib.hid h0; have HGK := Lib.hid hgk
      clear hinv hd h0 hgk
      go_wp2_with fail
      refine HD.out.mono ?_
      rintro e w' ⟨qv, qs, gr, cr, rs, rfl, hok⟩
      obtain ⟨hs1, hs2⟩ := HI.out.step H0.out hok
      have HS := Lib.hid hs1; have HL := Lib.hid hs2
      clear hs1 hs2 hok
      go_wp2
      go_roundg (vl 1000000000 rs)
      case measure => rw [← HGK.out]; exact HL.out
      case rel => exact ⟨_, _, _, _, _, _, rfl, rfl, HS.out, rfl⟩
end Go.Proofs.YtkekljjjomnalaaGreatDoor
