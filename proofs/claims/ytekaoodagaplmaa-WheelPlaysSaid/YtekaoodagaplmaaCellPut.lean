/- cell.put: by contract. -/
import Derived.Test.YtekaoodagaplmaaCellP
namespace Go.Proofs.Ytekaoodagaplmaa
open Go.RowKit
theorem hd6_cells (n len : Nat) (hn : n < 4294967296) (hl : len ≤ 245) : [Value.int .u8 ((n : Int) / 16777216), Value.int .u8 ((n : Int) / 65536 % 256), Value.int .u8 ((n : Int) / 256 % 256), Value.int .u8 ((n : Int) % 256), Value.int .u8 ((len : Int) / 256), Value.int .u8 (len : Int)] = bv (hd6 n len) := by
  unfold hd6
  rw [bv_append, ← four_cells n hn]
  simp [bv]
  omega
end Go.Proofs.Ytekaoodagaplmaa
