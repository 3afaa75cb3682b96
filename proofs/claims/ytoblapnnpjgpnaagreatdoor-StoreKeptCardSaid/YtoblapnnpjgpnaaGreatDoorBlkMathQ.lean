/- An image in pieces: plain facts on lists of bytes. -/
namespace Go.Proofs.YtoblapnnpjgpnaaGreatDoor
namespace BlkM
/-- l, filled up with noughts to n places -/
def pad (l : List UInt8) (n : Nat) : List UInt8 := l ++ List.replicate (n - l.length) 0
theorem pad_length (l : List UInt8) (n : Nat) (h : l.length ≤ n) : (pad l n).length = n := by simp [pad]; omega
theorem pad_take (l : List UInt8) (n : Nat) : (pad l n).take l.length = l := by simp [pad]
/-- piece j of l, of s bytes -/
def piece (l : List UInt8) (s j : Nat) : List UInt8 := (l.drop (j * s)).take s ++ List.replicate (s - ((l.drop (j * s)).take s).length) 0
theorem piece_length (l : List UInt8) (s j : Nat) : (piece l s j).length = s := by
  simp [piece]; omega
theorem chunks (P : List UInt8) (s : Nat) : ∀ c, ((List.range c).map fun j => (P.drop (j * s)).take s).flatten = P.take (c * s)
  | 0 => by simp
  | c + 1 => by
    rw [List.range_succ, List.map_append, List.flatten_append, chunks P s c, Nat.succ_mul, List.take_add]
    simp
theorem piece_pad (l : List UInt8) (s c j : Nat) (hj : j < c) (hl : l.length ≤ c * s) : piece l s j = ((pad l (c * s)).drop (j * s)).take s := by
  have hjs : j * s + s ≤ c * s := by
    have := Nat.mul_le_mul_right s (show j + 1 ≤ c by omega)
    rw [Nat.succ_mul] at this; exact this
  apply List.ext_getElem
  · rw [piece_length]; simp [pad]; omega
  · intro i h1 h2
    rw [piece_length] at h1
    simp only [piece, pad, List.getElem_append, List.getElem_take, List.getElem_drop, List.getElem_replicate, List.length_take, List.length_drop]
    by_cases h3 : j * s + i < l.length
    · rw [dif_pos (by omega), dif_pos h3]
    · rw [dif_neg (by omega), dif_neg h3]
theorem pieces_flat (l : List UInt8) (s c : Nat) (hl : l.length ≤ c * s) : ((List.range c).map (piece l s)).flatten = pad l (c * s) := by
  have e : (List.range c).map (piece l s) = (List.range c).map fun j => ((pad l (c * s)).drop (j * s)).take s := by
    apply List.map_congr_left
    intro j hj
    exact piece_pad l s c j (List.mem_range.1 hj) hl
  rw [e, chunks, List.take_of_length_le (by rw [pad_length _ _ hl]; exact Nat.le_refl _)]
/-- how many pieces -/
def count (length size : Int) : Nat :=
  if length < 1 ∨ 512 < length ∨ size < 1 ∨ 16 < size then 0 else if 64 < (length + size - 1) / size then 0 else ((length + size - 1) / size).toNat
end BlkM
end Go.Proofs.YtoblapnnpjgpnaaGreatDoor
