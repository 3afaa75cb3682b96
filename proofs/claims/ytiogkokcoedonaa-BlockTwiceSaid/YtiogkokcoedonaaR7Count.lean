/- The reference's Count, JoinPieces: by contracts. -/
import Derived.Test.YtiogkokcoedonaaBlkJoin
import Derived.Test.YtiogkokcoedonaaBlkAwake
namespace Go.Proofs.Ytiogkokcoedonaa
open Go.RowKit
theorem r7count_any (a b : Int) (w : World) : Calls Try.prog 12 #[.int .i64 a, .int .i64 b] w fun e w' => e = .returned (.int .i64 (BlkM.count a b : Nat)) ∧ w = w' := by
  by_cases h : a < 1 ∨ 512 < a ∨ b < 1 ∨ 16 < b
  · have hz : BlkM.count a b = 0 := by simp [BlkM.count, h]
    rw [hz]
    by_cases h1 : a < 1
    · go_enter Try.func12, Try.ntmps12
      go_wp2_with fail
      go_ret
      exact ⟨rfl, rfl⟩
    by_cases h2 : 512 < a
    · go_enter Try.func12, Try.ntmps12
      go_wp2_with fail
      go_ret
      exact ⟨rfl, rfl⟩
    by_cases h3 : b < 1
    · go_enter Try.func12, Try.ntmps12
      go_wp2_with fail
      go_ret
      exact ⟨rfl, rfl⟩
    have h4 : 16 < b := by omega
    clear h
    go_enter Try.func12, Try.ntmps12
    go_wp2_with fail
    go_ret
    exact ⟨rfl, rfl⟩
  · obtain ⟨q1, q2, _, _⟩ := quo_bounds a b (by omega) (by omega) (by omega) (by omega)
    have hc : BlkM.count a b = if 64 < (a + b - 1) / b then 0 else ((a + b - 1) / b).toNat := by unfold BlkM.count; rw [if_neg h]
    have h1 : ¬ a < 1 := by omega
    have h2 : a ≤ 512 := by omega
    have h3 : ¬ b < 1 := by omega
    have h4 : b ≤ 16 := by omega
    have h5 : ¬ b = 0 := by omega
    by_cases hq : 64 < (a + b - 1) / b
    · rw [hc, if_pos hq]
      clear hc h
      go_enter Try.func12, Try.ntmps12
      go_wp2_with fail
      go_ret
      exact ⟨rfl, rfl⟩
    · rw [hc, if_neg hq, Int.toNat_of_nonneg (by omega)]
      clear hc h
      go_enter Try.func12, Try.ntmps12
      go_wp2_with fail
      go_ret
      exact ⟨rfl, rfl⟩
def FreshRow (B : Nat) (l : List UInt8) (w : World) (e : Ending) (w' : World) : Prop :=
  ∃ A n cap, e = .returned (.slice A n cap) ∧ Hid (n = l.length) ∧ Row w' w'.heap.size A n (bv l) ∧ Below B w w'
set_option maxHeartbeats 800000 in
/-- what the reference joins is what the joined pieces are -/
theorem r7join_any (B n cap : Nat) (A : Option Addr) (es : List BRow) (w : World) (hl : Rows2 w B A n es) (hn : n ≤ 1000000000) (hm : (flat es).length ≤ 1000000000) (hB : B ≤ w.heap.size) (L : Int) (hL1 : -9223372036854775808 ≤ L) (hL2 : L ≤ 9223372036854775807) :
    Calls Try.prog 17 #[.slice A n cap, .int .i64 L] w (FreshRow w.heap.size (joinF es L) w) := by
  have HJ : Hid (joinF es L = if L < 1 ∨ 512 < L then [] else if ((flat es).length : Int) < L then [] else (flat es).take L.toNat) := rfl
  by_cases h1 : L < 1
  · have hj : joinF es L = [] := by rw [HJ.out, if_pos (.inl h1)]
    rw [hj]
    clear HJ hj hL1 hL2
    go_enter Try.func17, Try.ntmps17
    go_wp2_with fail
    refine (join_any B n cap A es w hl hn hm hB).mono ?_
    rintro e w1 ⟨A1, n1, c1, rfl, hn1, hown1, hb1⟩
    go_wp2_with fail
    go_ret
    exact ⟨none, 0, 0, rfl, rfl, Row.nil _ _ _, hb1⟩
  by_cases h2 : 512 < L
  · have hj : joinF es L = [] := by rw [HJ.out, if_pos (.inr h2)]
    rw [hj]
    clear HJ hj hL1 hL2
    go_enter Try.func17, Try.ntmps17
    go_wp2_with fail
    refine (join_any B n cap A es w hl hn hm hB).mono ?_
    rintro e w1 ⟨A1, n1, c1, rfl, hn1, hown1, hb1⟩
    go_wp2_with fail
    go_ret
    exact ⟨none, 0, 0, rfl, rfl, Row.nil _ _ _, hb1⟩
  obtain ⟨q, rfl⟩ : ∃ q : Nat, L = q := ⟨L.toNat, by omega⟩
  have hj := HJ.out
  rw [if_neg (by omega), Int.toNat_natCast] at hj
  have hq1 : 1 ≤ q := by omega
  have hq2 : q ≤ 512 := by omega
  clear HJ hL1 hL2
  by_cases h3 : (flat es).length < q
  · rw [if_pos (by omega)] at hj
    rw [hj]
    clear hj
    go_enter Try.func17, Try.ntmps17
    go_wp2_with fail
    refine (join_any B n cap A es w hl hn hm hB).mono ?_
    rintro e w1 ⟨A1, n1, c1, rfl, hn1, hown1, hb1⟩
    have h4 : (n1 : Int) < (q : Int) := by have := hn1.out; omega
    clear h3 hn1
    go_wp2_with fail
    go_ret
    exact ⟨none, 0, 0, rfl, rfl, Row.nil _ _ _, hb1⟩
  · rw [if_neg (by omega)] at hj
    rw [hj]
    clear hj
    go_enter Try.func17, Try.ntmps17
    go_wp2_with fail
    refine (join_any B n cap A es w hl hn hm hB).mono ?_
    rintro e w1 ⟨A1, n1, c1, rfl, hn1, hown1, hb1⟩
    obtain ⟨g, c', hv, _, _⟩ := hown1.form (by have := hn1.out; omega)
    injection hv with e1 e2 e3
    subst e1 e3
    have hcap : n1 ≤ c1 := (own_cap hown1).1
    have hrow := (Row.of_own hown1).sub (k := 0) (m := q) (A' := some ⟨g, 0, none⟩) (by have := hn1.out; omega) (fun b' o' e _ => by injection e with e; injection e with e1 e2; subst e1 e2; rfl)
    have HR : Hid (Row w1 w1.heap.size (some ⟨g, 0, none⟩) q (bv ((flat es).take q))) := by
      show Row _ _ _ _ _
      rw [← bv_take]
      simpa using hrow
    have h4 : ¬ (n1 : Int) < (q : Int) := by have := hn1.out; omega
    have h5 : (q : Int) ≤ (c1 : Int) := by omega
    have HN : Hid (q = ((flat es).take q).length) := by
      show _ = _
      rw [List.length_take]; omega
    clear h3 hn1 hrow
    go_wp2_with fail
    go_ret
    exact ⟨_, q, c1, rfl, HN.out, HR.out, hb1⟩
end Go.Proofs.Ytiogkokcoedonaa
