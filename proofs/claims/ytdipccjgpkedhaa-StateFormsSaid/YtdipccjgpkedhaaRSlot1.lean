/- The reference's sameSlot, maySlot, zero: by contracts. -/
import Derived.Test.YtdipccjgpkedhaaRMan
import Derived.Test.YtdipccjgpkedhaaStMay
namespace Go.Proofs.Ytdipccjgpkedhaa
open Go.RowKit
set_option maxRecDepth 100000 in
set_option maxHeartbeats 800000 in
theorem rslotSame_any (v v' : Nat) (l l' : Int) (B n c n' c' : Nat) (A A' : Option Addr) (h h' : List UInt8) (w : World) (hl : Row w B A n (bv h)) (hl' : Row w B A' n' (bv h')) (hB : B ≤ w.heap.size) :
    Calls Try.prog 35 #[.agg #[.int .u32 (v : Int), .int .i64 l, .slice A n c], .agg #[.int .u32 (v' : Int), .int .i64 l', .slice A' n' c']] w (fun e w' => ∃ b : Bool, e = .returned (.bool b) ∧ Hid (b = decide (v = v' ∧ l = l' ∧ h = h')) ∧ Below w.heap.size w w') := by
  have k1 : ∀ W, Below B w W → (convert 23 9 (.slice A n c)).run Try.prog W = .ok (.string ⟨h.toArray⟩) W := fun W hW => run_string_row (hl.below hW) _ _ _ 5 Try.underlying23 Try.underlying5 Try.underlying9
  have k2 : ∀ W, Below B w W → (convert 23 9 (.slice A' n' c')).run Try.prog W = .ok (.string ⟨h'.toArray⟩) W := fun W hW => run_string_row (hl'.below hW) _ _ _ 5 Try.underlying23 Try.underlying5 Try.underlying9
  have hb0 : Below w.heap.size w ((w.alloc (.cells #[.int .u32 (v : Int), .int .i64 l, .slice A n c] 25)).alloc (.cells #[.int .u32 (v' : Int), .int .i64 l', .slice A' n' c'] 25)) := ((Below.refl _ _).alloc (Nat.le_refl _) _).alloc (by simp) _
  have q1 := k1 _ (hb0.mono hB)
  have q2 := k2 _ (hb0.mono hB)
  clear k1 k2
  by_cases h0 : v = v'
  case neg =>
    have hne : ((v : Int) == (v' : Int)) = false := by simp; omega
    have HN := Lib.hid h0
    clear h0
    go_enter Try.func35, Try.ntmps35
    go_wp2_with fail
    go_ret
    exact ⟨_, rfl, (by show _ = _; simp [HN.out]), hb0⟩
  subst h0
  by_cases h1 : l = l'
  case neg =>
    have hne : ((l : Int) == (l' : Int)) = false := by simp; omega
    have HN := Lib.hid h1
    clear h1
    go_enter Try.func35, Try.ntmps35
    go_wp2_with fail
    go_ret
    exact ⟨_, rfl, (by show _ = _; simp [HN.out]), hb0⟩
  subst h1
  go_enter Try.func35, Try.ntmps35
  go_wp2_with fail
  go_ret
  exact ⟨_, rfl, (by show _ = _; by_cases e : h = h' <;> simp [e]), hb0⟩
def rslotB (v : Nat) (l : Int) (n : Nat) : Bool := if n = 0 then decide (l = 0 ∧ v = 0) else filledB l n
set_option maxHeartbeats 400000 in
theorem rmaySlot_any (v : Nat) (l : Int) (A : Option Addr) (n c : Nat) (w : World) :
    Calls Try.prog 31 #[.agg #[.int .u32 (v : Int), .int .i64 l, .slice A n c]] w fun e w' => e = .returned (.bool (rslotB v l n)) ∧ Below w.heap.size w w' := by
  by_cases h0 : n = 0
  · by_cases hl : l = 0
    · by_cases hv : v = 0
      · have HF : Hid (rslotB v l n = true) := by show _ = _; simp [rslotB, h0, hl, hv]
        have q0 : ((n : Int) == 0) = true := by simp; omega
        have q1 : (l == 0) = true := by simpa using hl
        have q2 : ((v : Int) == 0) = true := by simp; omega
        clear h0 hl hv
        go_enter Try.func31, Try.ntmps31
        go_wp2_with fail
        go_ret
        exact ⟨by rw [HF.out]; rfl, (Below.refl _ _).alloc (Nat.le_refl _) _⟩
      · have HF : Hid (rslotB v l n = false) := by show _ = _; simp [rslotB, h0, hv]
        have q0 : ((n : Int) == 0) = true := by simp; omega
        have q1 : (l == 0) = true := by simpa using hl
        have q2 : ((v : Int) == 0) = false := by simp; omega
        clear h0 hl hv
        go_enter Try.func31, Try.ntmps31
        go_wp2_with fail
        go_ret
        exact ⟨by rw [HF.out]; rfl, (Below.refl _ _).alloc (Nat.le_refl _) _⟩
    · have HF : Hid (rslotB v l n = false) := by show _ = _; simp [rslotB, h0, hl]
      have q0 : ((n : Int) == 0) = true := by simp; omega
      have q1 : (l == 0) = false := by simpa using hl
      clear h0 hl
      go_enter Try.func31, Try.ntmps31
      go_wp2_with fail
      go_ret
      exact ⟨by rw [HF.out]; rfl, (Below.refl _ _).alloc (Nat.le_refl _) _⟩
  · have q0 : ((n : Int) == 0) = false := by simp; omega
    by_cases h1 : n = 32
    · have q1 : ((n : Int) == 32) = true := by simp; omega
      by_cases h2 : 1 ≤ l
      · have q2 : decide (1 ≤ l) = true := by simpa using h2
        by_cases h3 : l ≤ 512
        · have HF : Hid (rslotB v l n = true) := by show _ = _; simp [rslotB, filledB, h1, h2, h3]
          have q3 : decide (l ≤ 512) = true := by simpa using h3
          clear h0 h1 h2 h3
          go_enter Try.func31, Try.ntmps31
          go_wp2_with fail
          go_ret
          exact ⟨by rw [HF.out]; rfl, (Below.refl _ _).alloc (Nat.le_refl _) _⟩
        · have HF : Hid (rslotB v l n = false) := by show _ = _; simp [rslotB, filledB, h1, h2, h3]
          have q3 : decide (l ≤ 512) = false := by simpa using h3
          clear h0 h1 h2 h3
          go_enter Try.func31, Try.ntmps31
          go_wp2_with fail
          go_ret
          exact ⟨by rw [HF.out]; rfl, (Below.refl _ _).alloc (Nat.le_refl _) _⟩
      · have HF : Hid (rslotB v l n = false) := by show _ = _; simp [rslotB, filledB, h1, h2]
        have q2 : decide (1 ≤ l) = false := by simpa using h2
        clear h0 h1 h2
        go_enter Try.func31, Try.ntmps31
        go_wp2_with fail
        go_ret
        exact ⟨by rw [HF.out]; rfl, (Below.refl _ _).alloc (Nat.le_refl _) _⟩
    · have HF : Hid (rslotB v l n = false) := by show _ = _; simp [rslotB, filledB, h0, h1]
      have q1 : ((n : Int) == 32) = false := by simp; omega
      clear h0 h1
      go_enter Try.func31, Try.ntmps31
      go_wp2_with fail
      go_ret
      exact ⟨by rw [HF.out]; rfl, (Below.refl _ _).alloc (Nat.le_refl _) _⟩
set_option maxHeartbeats 400000 in
theorem rzero_any (s v : Nat) (l z p : Int) (B n c : Nat) (A : Option Addr) (h : List UInt8) (w : World) (hl : Row w B A n (bv h)) (hB : B ≤ w.heap.size) :
    Calls Try.prog 33 #[.agg #[.int .u32 (s : Int), .int .u32 (v : Int), .int .i64 l, .int .i64 z, .int .i64 p, .slice A n c]] w fun e w' => e = .returned (.bool (decide (s = 0 ∧ v = 0 ∧ l = 0 ∧ z = 0 ∧ p = 0 ∧ h = []))) ∧ Below w.heap.size w w' := by
  have HL := Lib.hid hl
  have HB := Lib.hid hB
  clear hl hB
  go_enter Try.func33, Try.ntmps33
  go_wp2_with fail
  refine (rmanSame_any s v 0 0 l z p 0 0 0 B n c 0 0 A none h [] _ (HL.out.alloc HB.out _) (Row.nil _ _ _) (by simp; have := HB.out; omega)).mono ?_
  rintro e w1 ⟨b, rfl, hb, hb1⟩
  have HE : Hid (b = decide (s = 0 ∧ v = 0 ∧ l = 0 ∧ z = 0 ∧ p = 0 ∧ h = [])) := hb.out
  have HB1 : Hid (Below w.heap.size w w1) := ((Below.refl _ _).alloc (Nat.le_refl _) _).trans (hb1.mono (by simp))
  clear hb hb1
  go_wp2_with fail
  go_ret
  exact ⟨by rw [HE.out]; rfl, HB1.out⟩
end Go.Proofs.Ytdipccjgpkedhaa
