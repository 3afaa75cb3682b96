/- What a loop over four bytes has of their number. -/
import Derived.Test.YtekaoodagaplmaaRows
import Derived.Test.YtekaoodagaplmaaCrcMath
import Derived.Test.YtekaoodagaplmaaCrcTellsMath
import Derived.Test.YtekaoodagaplmaaBase
import Derived.BigQuiet
namespace Go.Proofs.Ytekaoodagaplmaa
open Go.RowKit
def isNum (k x : Nat) (l : List UInt8) : Prop := x = CrcM.number (l.take k) ∧ x < 2 ^ (8 * k)
theorem isNum_next {k x : Nat} {l : List UInt8} (h : isNum k x l) (hk : k < l.length) (h4 : k < 4) :
    ∃ y : Nat, Value.int .u32 (bits .or .u32 (IntKind.u32.wrap ((x : Int) * 256)) (l[k].toNat : Int)) = .int .u32 (y : Int) ∧ isNum (k + 1) y l := by
  obtain ⟨e, hx⟩ := h
  have hb := CrcM.b_lt l[k]
  have hx24 : x < 2 ^ 24 := Nat.lt_of_lt_of_le hx (Nat.pow_le_pow_right (by omega) (by omega))
  have hw : IntKind.u32.wrap ((x : Int) * 256) = ((x * 256 : Nat) : Int) := by rw [IntKind.wrap_u32]; omega
  have ho : x * 256 ||| l[k].toNat = x * 256 + l[k].toNat := nat_join 8 _ _ (by omega) (by omega)
  refine ⟨x * 256 + l[k].toNat, ?_, ?_, ?_⟩
  · rw [hw, u32_or_nat _ _ (by omega) (by omega), ho]
  · rw [List.take_succ_eq_append_getElem hk, CrcM.number, List.foldl_append, ← CrcM.number, ← e]; rfl
  · rw [show 8 * (k + 1) = 8 * k + 8 by omega, Nat.pow_add]; omega
theorem row_drop4 {w : World} {B k : Nat} {A : Option Addr} {xs : List Value} (h : Row w B A (k + 4) xs) : Row w B (A.map fun x => x.add k) 4 (xs.drop k) := by
  have := h.cut (k := k) (m := 4) (Nat.le_refl _)
  rwa [List.take_of_length_le (by rw [List.length_drop, h.1]; omega)] at this

end Go.Proofs.Ytekaoodagaplmaa
