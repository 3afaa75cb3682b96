/- packet.Bytes of too little or too much, Same, awake of layer 15. -/
import Derived.Test.YtiogkokcoedonaaPacket
namespace Go.Proofs.Ytiogkokcoedonaa
open Go.RowKit
set_option maxHeartbeats 400000 in
theorem bytes_bad (s id n cap : Nat) (A : Option Addr) (w : World) (h : n < 1 ∨ 16 < n) :
    Calls Try.prog 21 #[.agg #[.int .u32 (s : Int), .int .u32 (id : Int), .slice A n cap]] w (fun e w' => e = .returned (.tuple #[.slice none 0 0, .int .i64 1]) ∧ Below w.heap.size w w') := by
  by_cases h1 : n < 1
  · clear h
    go_enter Try.func21, Try.ntmps21
    go_wp2
    go_ret2
    exact ⟨rfl, (Below.refl _ _).alloc (Nat.le_refl _) _⟩
  · have h16 : 16 < n := by omega
    clear h
    go_enter Try.func21, Try.ntmps21
    go_wp2
    go_ret2
    exact ⟨rfl, (Below.refl _ _).alloc (Nat.le_refl _) _⟩
theorem sym_awake : symB 1 2 [3] = [0, 0, 0, 1, 0, 0, 0, 2, 3] := by decide
theorem bytes_at (s id B n cap : Nat) (si ii : Int) (A : Option Addr) (l : List UInt8) (w : World) (es : si = (s : Int)) (ei : ii = (id : Int)) (hs : s < 4294967296) (hid : id < 4294967296) (hl : Row w B A n (bv l)) (h1 : 1 ≤ n) (h16 : n ≤ 16) (hB : B ≤ w.heap.size) :
    Calls Try.prog 21 #[.agg #[.int .u32 si, .int .u32 ii, .slice A n cap]] w (BytesOk (symB s id l) w) := by
  subst es ei; exact bytes_ok s id B n cap A l w hs hid hl h1 h16 hB
set_option maxHeartbeats 400000 in
theorem awake15_any (w : World) : Calls Try.prog 20 #[] w fun e w' => e = .returned (.bool true) ∧ Below w.heap.size w w' := by
  have hb0 : Below w.heap.size w (w.alloc (.cells #[.int .u8 3] 5)) := (Below.refl _ _).alloc (Nat.le_refl _) _
  go_enter Try.func20, Try.ntmps20
  go_wp2_with fail
  refine (bytes_at 1 2 (w.heap.size + 1) 1 1 1 2 _ [3] _ rfl rfl (by omega) (by omega) (row_new w #[.int .u8 3] _ _) (by omega) (by omega) (by simp)).mono ?_
  rintro e w1 ⟨A1, n1, c1, rfl, hn1, hown1, hb1⟩
  have hn9 : n1 = 9 := by rw [hn1.out]; rfl
  subst hn9
  rw [sym_awake] at hown1
  have hk := run_string_row (P := Try.prog) (Row.of_own hown1) c1 22 9 5 Try.underlying22 Try.underlying5 Try.underlying9
  go_wp2_with fail
  go_ret
  exact ⟨rfl, hb0.trans (hb1.mono hb0.size)⟩
theorem equal_any (B n cap n' cap' : Nat) (A A' : Option Addr) (l l' : List UInt8) (w : World) (hl : Row w B A n (bv l)) (hl' : Row w B A' n' (bv l')) :
    Calls Try.prog 35 #[.slice A n cap, .slice A' n' cap'] w (fun e w' => e = .returned (.bool (l == l')) ∧ w' = w) := by
  have k1 : ∀ W, Below B w W → (convert 22 9 (.slice A n cap)).run Try.prog W = .ok (.string ⟨l.toArray⟩) W := fun W hW => run_string_row (hl.below hW) _ _ _ 5 Try.underlying22 Try.underlying5 Try.underlying9
  have k2 : ∀ W, Below B w W → (convert 22 9 (.slice A' n' cap')).run Try.prog W = .ok (.string ⟨l'.toArray⟩) W := fun W hW => run_string_row (hl'.below hW) _ _ _ 5 Try.underlying22 Try.underlying5 Try.underlying9
  have k1' := k1 w (Below.refl _ _)
  have k2' := k2 w (Below.refl _ _)
  go_enter Try.func35, Try.ntmps35
  go_wp2_with fail
  go_ret
  exact ⟨rfl, rfl⟩
set_option maxHeartbeats 400000 in
theorem same_any (s id B n cap s' id' n' cap' : Nat) (A A' : Option Addr) (l l' : List UInt8) (w : World) (hl : Row w B A n (bv l)) (hl' : Row w B A' n' (bv l')) (hB : B ≤ w.heap.size) :
    Calls Try.prog 26 #[.agg #[.int .u32 (s : Int), .int .u32 (id : Int), .slice A n cap], .agg #[.int .u32 (s' : Int), .int .u32 (id' : Int), .slice A' n' cap']] w (fun e w' => ∃ b : Bool, e = .returned (.bool b) ∧ Hid (b = decide (s = s' ∧ id = id' ∧ l = l')) ∧ Below w.heap.size w w') := by
  by_cases h1 : s = s'
  · subst h1
    by_cases h2 : id = id'
    · subst h2
      go_enter Try.func26, Try.ntmps26
      go_wp2_with fail
      refine (equal_any B n cap n' cap' A A' l l' _ ((hl.alloc hB _).alloc (by simp; omega) _) ((hl'.alloc hB _).alloc (by simp; omega) _)).mono ?_
      rintro e w1 ⟨rfl, rfl⟩
      go_wp2
      go_ret
      exact ⟨_, rfl, (by show (l == l') = decide _; rw [Bool.eq_iff_iff]; simp), (((Below.refl _ _).alloc (Nat.le_refl _) _).alloc (by simp) _)⟩
    · have h2' : ¬ (id : Int) = id' := by omega
      have HN := Lib.hid h2
      clear h2
      go_enter Try.func26, Try.ntmps26
      go_wp2
      go_ret
      exact ⟨_, rfl, (by simp [Hid, HN.out]), (((Below.refl _ _).alloc (Nat.le_refl _) _).alloc (by simp) _)⟩
  · have h1' : ¬ (s : Int) = s' := by omega
    have HN := Lib.hid h1
    clear h1
    go_enter Try.func26, Try.ntmps26
    go_wp2
    go_ret
    exact ⟨_, rfl, (by simp [Hid, HN.out]), (((Below.refl _ _).alloc (Nat.le_refl _) _).alloc (by simp) _)⟩
end Go.Proofs.Ytiogkokcoedonaa
