/- block.Sum: by contract. -/
import Derived.Test.YtibleaaghhhjkaaDoorBlkAwake
import Derived.Test.YtibleaaghhhjkaaDoorClone
import Derived.Test.YtibleaaghhhjkaaDoorXl
import Derived.Deep.LoopGhost
namespace Go.Proofs.YtibleaaghhhjkaaDoor
open Go.RowKit
def sumTo (h : List UInt8) (t : List (List UInt8)) : List UInt8 := t.foldl xorL h
theorem sumTo_length (h : List UInt8) (t : List (List UInt8)) : (sumTo h t).length = h.length := by
  induction t generalizing h with
  | nil => rfl
  | cons x t ih => show (sumTo (xorL h x) t).length = _; rw [ih, xorL_length]
theorem sumTo_snoc (h : List UInt8) (t : List (List UInt8)) (x : List UInt8) : sumTo h (t ++ [x]) = xorL (sumTo h t) x := by simp [sumTo]
/-- the sum of all rows; nothing, where their lengths part -/
def sumF : List (List UInt8) → List UInt8
  | [] => []
  | h :: t => if ∀ x ∈ t, x.length = h.length then sumTo h t else []
theorem xor_int (a b : UInt8) : bits .xor .u8 (a.toNat : Int) (b.toNat : Int) = ((a ^^^ b).toNat : Int) := by
  rw [u8_xor_nat _ _ (CrcM.b_lt _) (CrcM.b_lt _), ← UInt8.toNat_xor]
theorem Rows2.tail {w : World} {B n cap b o : Nat} {es : List BRow} (h : Rows2 w B (some ⟨b, o, none⟩) (n + 1) es) (hc : n + 1 ≤ cap) : Rows2 w B (if cap = 1 then some ⟨b, o, none⟩ else some ⟨b, o + 1, none⟩) n (es.drop 1) := by
  refine ⟨?_, fun r hr => h.2 r (List.mem_of_mem_drop hr)⟩
  have := h.1.tail (k := 1) (cap := cap) (by omega) hc
  rw [List.map_drop]
  simpa [plain_add] using this
theorem Rows2.len {w : World} {B n : Nat} {A : Option Addr} {es : List BRow} (h : Rows2 w B A n es) : es.length = n := by have := h.1.1; simpa using this
end Go.Proofs.YtibleaaghhhjkaaDoor
