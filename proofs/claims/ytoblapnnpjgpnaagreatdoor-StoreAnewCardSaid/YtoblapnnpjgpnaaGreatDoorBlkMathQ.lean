/- An image in pieces: plain facts on lists of bytes. -/
namespace Go.Proofs.YtoblapnnpjgpnaaGreatDoor
namespace BlkM
/-- piece j of l, of s bytes -/
def piece (l : List UInt8) (s j : Nat) : List UInt8 := (l.drop (j * s)).take s ++ List.replicate (s - ((l.drop (j * s)).take s).length) 0
theorem piece_length (l : List UInt8) (s j : Nat) : (piece l s j).length = s := by
  simp [piece]; omega
/-- how many pieces -/
def count (length size : Int) : Nat :=
  if length < 1 ∨ 512 < length ∨ size < 1 ∨ 16 < size then 0 else if 64 < (length + size - 1) / size then 0 else ((length + size - 1) / size).toNat
end BlkM
end Go.Proofs.YtoblapnnpjgpnaaGreatDoor
