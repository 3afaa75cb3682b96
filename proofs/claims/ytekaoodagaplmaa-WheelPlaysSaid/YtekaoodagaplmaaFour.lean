/- A number in four bytes; what fresh bytes are; small facts on lists of bytes. -/
import Derived.Test.YtekaoodagaplmaaRows
import Derived.Test.YtekaoodagaplmaaCrcMath
import Derived.Test.YtekaoodagaplmaaOwn
namespace Go.Proofs.Ytekaoodagaplmaa
open Go.RowKit
theorem Try.info5 : (Try.prog.info? 5).map (fun i => (i.zero, i.size, i.bytes)) = some (some (.int .u8 0), 1, 1) := by kernel_rfl
theorem four_cells (s : Nat) (h : s < 4294967296) : [Value.int .u8 ((s : Int) / 16777216), Value.int .u8 ((s : Int) / 65536 % 256), Value.int .u8 ((s : Int) / 256 % 256), Value.int .u8 ((s : Int) % 256)] = bv (CrcM.four s) := by
  simp [bv, CrcM.four]
  omega
theorem bv_getD (l : List UInt8) (i : Nat) (h : i < l.length) : (bv l)[i]? = some (.int .u8 ((l.getD i 0).toNat : Int)) := by
  rw [bv_get l i h]; simp [List.getD, h]
theorem below_drewN {B : Nat} {a w : World} (h : Below B a w) (n : Nat) : Below B a (w.drewN n) := ⟨h.os, h.tape, h.output, h.size, h.block⟩
def FreshBytes (B : Nat) (l : List UInt8) (w : World) (e : Ending) (w' : World) : Prop :=
  ∃ A n cap, e = .returned (.slice A n cap) ∧ Hid (n = l.length) ∧ w'.ownsRow B 5 1 (.slice A n cap) n (bv l) ∧ Below B w w'
end Go.Proofs.Ytekaoodagaplmaa
