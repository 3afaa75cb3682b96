/- Weights of degrees: plain facts, of up to 80 pieces. -/
namespace Go.Proofs.YtibleaaghhhjkaaDoor
namespace SoM
/-- the root, of up to 80 -/
def rt (n : Nat) : Nat := if n < 1 then 0 else if n < 4 then 1 else if n < 9 then 2 else if n < 16 then 3 else if n < 25 then 4 else if n < 36 then 5 else if n < 49 then 6 else if n < 64 then 7 else 8
theorem rt_eq (n r : Nat) (h1 : 1 ≤ n) (h2 : n ≤ 80) (h3 : r * r ≤ n) (h4 : n < (r + 1) * (r + 1)) : r = rt n := by
  have h : r ≤ 8 := by
    rcases Nat.lt_or_ge 8 r with h | h
    · have := Nat.mul_le_mul (show 9 ≤ r by omega) (show 9 ≤ r by omega)
      omega
    · exact h
  have : r = 0 ∨ r = 1 ∨ r = 2 ∨ r = 3 ∨ r = 4 ∨ r = 5 ∨ r = 6 ∨ r = 7 ∨ r = 8 := by omega
  unfold rt
  rcases this with rfl | rfl | rfl | rfl | rfl | rfl | rfl | rfl | rfl <;> simp at h3 h4 <;> (repeat' split) <;> omega
def ideal (n d : Nat) : Nat := if d = 1 then 1048576 / n else 1048576 / (d * (d - 1))
def wt (n d : Nat) : Nat := ideal n d + if d < n / rt n then rt n * 262144 / (d * n) else if d = n / rt n then rt n * 524288 / n else 0
def ws (n k : Nat) : List Nat := (List.range k).map fun j => wt n (j + 1)
/-- the sum of the first k weights -/
def sm (n : Nat) : Nat → Nat
  | 0 => 0
  | k + 1 => sm n k + wt n (k + 1)
def sms (n k : Nat) : List Nat := (List.range k).map fun j => sm n (j + 1)
theorem all2 (p : Nat → Nat → Bool) (h : ((List.range 81).all fun n => (List.range 81).all fun d => p n d) = true) (n d : Nat) (hn : n < 81) (hd : d < 81) : p n d = true :=
  List.all_eq_true.1 (List.all_eq_true.1 h n (List.mem_range.2 hn)) d (List.mem_range.2 hd)
def okW (n d : Nat) : Bool := n == 0 || d == 0 || decide (n < d) || (decide (1 ≤ wt n d) && decide (wt n d ≤ 4000000) && decide (ideal n d ≤ 1048576) && decide (sm n d ≤ 4000000) && decide (1 ≤ rt n) && decide (rt n ≤ 8) && decide (1 ≤ sm n d))
theorem okW_all : ((List.range 81).all fun n => (List.range 81).all fun d => okW n d) = true := by decide +kernel
theorem wt_bound (n d : Nat) (hn : 1 ≤ n) (hn2 : n ≤ 80) (hd : 1 ≤ d) (hd2 : d ≤ n) : 1 ≤ wt n d ∧ wt n d ≤ 4000000 ∧ ideal n d ≤ 1048576 ∧ sm n d ≤ 4000000 ∧ 1 ≤ rt n ∧ rt n ≤ 8 ∧ 1 ≤ sm n d := by
  have h := all2 okW okW_all n d (by omega) (by omega)
  simp only [okW, Bool.or_eq_true, Bool.and_eq_true, beq_iff_eq, decide_eq_true_eq] at h
  omega
end SoM
end Go.Proofs.YtibleaaghhhjkaaDoor
