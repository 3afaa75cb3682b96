/- bytes.Equal, manifest.May, Same; state's filled, sameSlot, empty: by contracts. -/
import Derived.Test.YtdipccjgpkedhaaSpMay
namespace Go.Proofs.Ytdipccjgpkedhaa
open Go.RowKit
theorem equal_any (B n cap n' cap' : Nat) (A A' : Option Addr) (l l' : List UInt8) (w : World) (hl : Row w B A n (bv l)) (hl' : Row w B A' n' (bv l')) :
    Calls Try.prog 48 #[.slice A n cap, .slice A' n' cap'] w (fun e w' => e = .returned (.bool (l == l')) ∧ w' = w) := by
  have k1 : ∀ W, Below B w W → (convert 23 9 (.slice A n cap)).run Try.prog W = .ok (.string ⟨l.toArray⟩) W := fun W hW => run_string_row (hl.below hW) _ _ _ 5 Try.underlying23 Try.underlying5 Try.underlying9
  have k2 : ∀ W, Below B w W → (convert 23 9 (.slice A' n' cap')).run Try.prog W = .ok (.string ⟨l'.toArray⟩) W := fun W hW => run_string_row (hl'.below hW) _ _ _ 5 Try.underlying23 Try.underlying5 Try.underlying9
  have k1' := k1 w (Below.refl _ _)
  have k2' := k2 w (Below.refl _ _)
  go_enter Try.func48, Try.ntmps48
  go_wp2_with fail
  go_ret
  exact ⟨rfl, rfl⟩
set_option maxRecDepth 100000 in
set_option maxHeartbeats 800000 in
theorem manSame_any (s v s' v' : Nat) (l z p l' z' p' : Int) (B n c n' c' : Nat) (A A' : Option Addr) (h h' : List UInt8) (w : World) (hl : Row w B A n (bv h)) (hl' : Row w B A' n' (bv h')) (hB : B ≤ w.heap.size) :
    Calls Try.prog 28 #[.agg #[.int .u32 (s : Int), .int .u32 (v : Int), .int .i64 l, .int .i64 z, .int .i64 p, .slice A n c], .agg #[.int .u32 (s' : Int), .int .u32 (v' : Int), .int .i64 l', .int .i64 z', .int .i64 p', .slice A' n' c']] w (fun e w' => ∃ b : Bool, e = .returned (.bool b) ∧ Hid (b = decide (s = s' ∧ v = v' ∧ l = l' ∧ z = z' ∧ p = p' ∧ h = h')) ∧ Below w.heap.size w w') := by
  by_cases h0 : s = s'
  · subst h0
    by_cases h1 : v = v'
    · subst h1
      by_cases h2 : l = l'
      · subst h2
        by_cases h3 : z = z'
        · subst h3
          by_cases h4 : p = p'
          · subst h4
            go_enter Try.func28, Try.ntmps28
            go_wp2_with fail
            refine (equal_any B n c n' c' A A' h h' _ ((hl.alloc hB _).alloc (by simp; omega) _) ((hl'.alloc hB _).alloc (by simp; omega) _)).mono ?_
            rintro e w1 ⟨rfl, rfl⟩
            go_wp2_with fail
            go_ret
            exact ⟨_, rfl, (by show _ = _; by_cases e : h = h' <;> simp [e]), ((Below.refl _ _).alloc (Nat.le_refl _) _).alloc (by simp) _⟩
          · have hne : ((p : Int) == (p' : Int)) = false := by simp; omega
            have HN := Lib.hid h4
            clear h4
            go_enter Try.func28, Try.ntmps28
            go_wp2_with fail
            go_ret
            exact ⟨_, rfl, (by show _ = _; simp [HN.out]), ((Below.refl _ _).alloc (Nat.le_refl _) _).alloc (by simp) _⟩
        · have hne : ((z : Int) == (z' : Int)) = false := by simp; omega
          have HN := Lib.hid h3
          clear h3
          go_enter Try.func28, Try.ntmps28
          go_wp2_with fail
          go_ret
          exact ⟨_, rfl, (by show _ = _; simp [HN.out]), ((Below.refl _ _).alloc (Nat.le_refl _) _).alloc (by simp) _⟩
      · have hne : ((l : Int) == (l' : Int)) = false := by simp; omega
        have HN := Lib.hid h2
        clear h2
        go_enter Try.func28, Try.ntmps28
        go_wp2_with fail
        go_ret
        exact ⟨_, rfl, (by show _ = _; simp [HN.out]), ((Below.refl _ _).alloc (Nat.le_refl _) _).alloc (by simp) _⟩
    · have hne : ((v : Int) == (v' : Int)) = false := by simp; omega
      have HN := Lib.hid h1
      clear h1
      go_enter Try.func28, Try.ntmps28
      go_wp2_with fail
      go_ret
      exact ⟨_, rfl, (by show _ = _; simp [HN.out]), ((Below.refl _ _).alloc (Nat.le_refl _) _).alloc (by simp) _⟩
  · have hne : ((s : Int) == (s' : Int)) = false := by simp; omega
    have HN := Lib.hid h0
    clear h0
    go_enter Try.func28, Try.ntmps28
    go_wp2_with fail
    go_ret
    exact ⟨_, rfl, (by show _ = _; simp [HN.out]), ((Below.refl _ _).alloc (Nat.le_refl _) _).alloc (by simp) _⟩
set_option maxRecDepth 100000 in
set_option maxHeartbeats 800000 in
theorem slotSame_any (v v' : Nat) (l l' : Int) (B n c n' c' : Nat) (A A' : Option Addr) (h h' : List UInt8) (w : World) (hl : Row w B A n (bv h)) (hl' : Row w B A' n' (bv h')) (hB : B ≤ w.heap.size) :
    Calls Try.prog 34 #[.agg #[.int .u32 (v : Int), .int .i64 l, .slice A n c], .agg #[.int .u32 (v' : Int), .int .i64 l', .slice A' n' c']] w (fun e w' => ∃ b : Bool, e = .returned (.bool b) ∧ Hid (b = decide (v = v' ∧ l = l' ∧ h = h')) ∧ Below w.heap.size w w') := by
  by_cases h0 : v = v'
  · subst h0
    by_cases h1 : l = l'
    · subst h1
      go_enter Try.func34, Try.ntmps34
      go_wp2_with fail
      refine (equal_any B n c n' c' A A' h h' _ ((hl.alloc hB _).alloc (by simp; omega) _) ((hl'.alloc hB _).alloc (by simp; omega) _)).mono ?_
      rintro e w1 ⟨rfl, rfl⟩
      go_wp2_with fail
      go_ret
      exact ⟨_, rfl, (by show _ = _; by_cases e : h = h' <;> simp [e]), ((Below.refl _ _).alloc (Nat.le_refl _) _).alloc (by simp) _⟩
    · have hne : ((l : Int) == (l' : Int)) = false := by simp; omega
      have HN := Lib.hid h1
      clear h1
      go_enter Try.func34, Try.ntmps34
      go_wp2_with fail
      go_ret
      exact ⟨_, rfl, (by show _ = _; simp [HN.out]), ((Below.refl _ _).alloc (Nat.le_refl _) _).alloc (by simp) _⟩
  · have hne : ((v : Int) == (v' : Int)) = false := by simp; omega
    have HN := Lib.hid h0
    clear h0
    go_enter Try.func34, Try.ntmps34
    go_wp2_with fail
    go_ret
    exact ⟨_, rfl, (by show _ = _; simp [HN.out]), ((Below.refl _ _).alloc (Nat.le_refl _) _).alloc (by simp) _⟩
def manB (l z p : Int) (n : Nat) : Bool := ofB l z p && decide (n = 32)
set_option maxRecDepth 100000 in
set_option maxHeartbeats 400000 in
theorem manMay_any (s v : Nat) (l z p : Int) (A : Option Addr) (n c : Nat) (w : World) :
    Calls Try.prog 27 #[.agg #[.int .u32 (s : Int), .int .u32 (v : Int), .int .i64 l, .int .i64 z, .int .i64 p, .slice A n c]] w fun e w' => e = .returned (.bool (manB l z p n)) ∧ Below w.heap.size w w' := by
  have hx := heap_alloc_new w (.cells #[.int .u32 (s : Int), .int .u32 (v : Int), .int .i64 l, .int .i64 z, .int .i64 p, .slice A n c] 28)
  have HX := Lib.hid hx
  clear hx
  have HB : Hid (manB l z p n = (ofB l z p && decide (n = 32))) := rfl
  go_enter Try.func27, Try.ntmps27
  go_wp2_with fail
  refine (of_any s v l z p A n c _).mono ?_
  rintro e w1 ⟨s', K', P', Z', rfl, hb1⟩
  have hb0 : Below w.heap.size w w1 := ((Below.refl _ _).alloc (Nat.le_refl _) _).trans (hb1.mono (by simp))
  obtain ⟨-, -, -, -, -, y5⟩ := bx6 ((hb1.block w.heap.size (by simp)).trans HX.out)
  have hlt : w.heap.size < w1.heap.size := by have := hb1.size; simp at this; omega
  have HB0 := Lib.hid hb0
  clear hb1 hb0
  cases ho : ofB l z p with
  | false =>
    rw [ho] at HB
    clear ho
    go_wp2_with fail
    go_ret
    refine ⟨by rw [HB.out]; rfl, ?_⟩
    have := HB0.out.size
    exact ((((HB0.out.alloc HB0.out.size _)))) 
  | true =>
    rw [ho] at HB
    clear ho
    by_cases h32 : n = 32
    · have hn : ((n : Int) == 32) = true := by simp; omega
      have HB2 : Hid (manB l z p n = true) := by show _ = _; rw [HB.out]; simp [h32]
      clear h32
      go_wp2_with fail
      go_ret
      exact ⟨by rw [HB2.out]; rfl, HB0.out.alloc HB0.out.size _⟩
    · have hn : ((n : Int) == 32) = false := by simp; omega
      have HB2 : Hid (manB l z p n = false) := by show _ = _; rw [HB.out]; simp [h32]
      clear h32
      go_wp2_with fail
      go_ret
      exact ⟨by rw [HB2.out]; rfl, HB0.out.alloc HB0.out.size _⟩
def filledB (l : Int) (n : Nat) : Bool := decide (n = 32) && (decide (1 ≤ l) && decide (l ≤ 512))
set_option maxHeartbeats 400000 in
theorem filled_any (v : Nat) (l : Int) (A : Option Addr) (n c : Nat) (w : World) :
    Calls Try.prog 29 #[.agg #[.int .u32 (v : Int), .int .i64 l, .slice A n c]] w fun e w' => e = .returned (.bool (filledB l n)) ∧ Below w.heap.size w w' := by
  by_cases h1 : n = 32
  · by_cases h2 : 1 ≤ l
    · by_cases h3 : l ≤ 512
      · have HF : Hid (filledB l n = true) := by show _ = _; simp [filledB, h1, h2, h3]
        have h1' : ((n : Int) == 32) = true := by simp; omega
        clear h1
        go_enter Try.func29, Try.ntmps29
        go_wp2_with fail
        go_ret
        exact ⟨by rw [HF.out]; rfl, (Below.refl _ _).alloc (Nat.le_refl _) _⟩
      · have HF : Hid (filledB l n = false) := by show _ = _; simp [filledB, h1, h2, h3]
        have h1' : ((n : Int) == 32) = true := by simp; omega
        have h3' : decide (l ≤ 512) = false := by simpa using h3
        clear h1 h3
        go_enter Try.func29, Try.ntmps29
        go_wp2_with fail
        go_ret
        exact ⟨by rw [HF.out]; rfl, (Below.refl _ _).alloc (Nat.le_refl _) _⟩
    · have HF : Hid (filledB l n = false) := by show _ = _; simp [filledB, h2]
      have h1' : ((n : Int) == 32) = true := by simp; omega
      have h2' : decide (1 ≤ l) = false := by simpa using h2
      clear h1 h2
      go_enter Try.func29, Try.ntmps29
      go_wp2_with fail
      go_ret
      exact ⟨by rw [HF.out]; rfl, (Below.refl _ _).alloc (Nat.le_refl _) _⟩
  · have HF : Hid (filledB l n = false) := by show _ = _; simp [filledB, h1]
    have h1' : ((n : Int) == 32) = false := by simp; omega
    clear h1
    go_enter Try.func29, Try.ntmps29
    go_wp2_with fail
    go_ret
    exact ⟨by rw [HF.out]; rfl, (Below.refl _ _).alloc (Nat.le_refl _) _⟩
end Go.Proofs.Ytdipccjgpkedhaa
