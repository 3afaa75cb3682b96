/- cell.first, parse: by contracts. -/
import Derived.Test.YtekaoodagaplmaaCrcPut
import Derived.Test.YtekaoodagaplmaaFlFree
import Derived.Deep.RegionWith
namespace Go.Proofs.Ytekaoodagaplmaa
open Go.RowKit
theorem first_num (x0 x1 x2 x3 : UInt8) (t : List UInt8) : CrcM.number ((x0 :: x1 :: x2 :: x3 :: t).take 4) = ((x0.toNat * 256 + x1.toNat) * 256 + x2.toNat) * 256 + x3.toNat := by
  simp [CrcM.number]
/-- what stands in a sector, if it is whole: its number and its bytes -/
def plen (b : List UInt8) : Nat := (b.getD 4 0).toNat * 256 + (b.getD 5 0).toNat
def partOk (b : List UInt8) : Prop := plen b ≤ 245 ∧ b.getD (10 + plen b) 0 = 0 ∧ isRight (b.take (10 + plen b))
def partN (b : List UInt8) : Nat := CrcM.number (b.take 4)
def partD (b : List UInt8) : List UInt8 := (b.take (6 + plen b)).drop 6
theorem partN_lt (b : List UInt8) : partN b < 4294967296 := by
  match b with
  | [] => decide
  | [x0] => have := CrcM.b_lt x0; simp [partN, CrcM.number]; omega
  | [x0, x1] => have := CrcM.b_lt x0; have := CrcM.b_lt x1; simp [partN, CrcM.number]; omega
  | [x0, x1, x2] => have := CrcM.b_lt x0; have := CrcM.b_lt x1; have := CrcM.b_lt x2; simp [partN, CrcM.number]; omega
  | x0 :: x1 :: x2 :: x3 :: t =>
    have := CrcM.b_lt x0; have := CrcM.b_lt x1; have := CrcM.b_lt x2; have := CrcM.b_lt x3
    unfold partN; rw [first_num]; omega
/-- parse's answer: three cells -/
def PartIs (b : List UInt8) (base : Nat) (W : World) (wh : Bool) (num : Nat) (A : Option Addr) (n c : Nat) : Prop :=
  (partOk b ∧ wh = true ∧ num = partN b ∧ n = plen b ∧ n ≤ c ∧ c ≤ 9223372036854775807 ∧ Row W W.heap.size A n (bv (partD b)) ∧ ∀ g o, A = some ⟨g, o, none⟩ → 0 < n → base ≤ g) ∨ (¬ partOk b ∧ wh = false ∧ num = 0 ∧ A = none ∧ n = 0 ∧ c = 0)
def PParseOk (b : List UInt8) (w : World) (e : Ending) (w' : World) : Prop :=
  ∃ wh num A n c, e = .returned (.agg #[.bool wh, .int .u32 (num : Nat), .slice A n c]) ∧ Hid (PartIs b w.heap.size w' wh num A n c) ∧ Hid (Below w.heap.size w w')
theorem results_cell_row {P : Program} {fn : Func} {p : Tmp} {ty : TypeId} (h : fn.results = #[.cell p ty]) (tmps : Array Value) (w : World) (g : Nat) (t : TypeId) (cs : Array Value) (fr : Nat × Nat) (d : TypeDesc)
    (hp : tmps.getD p undef = .pointer (some ⟨g, 0, none⟩)) (hg : w.heap[g]? = some (.cells cs t fr))
    (hu : P.underlying ty = some d) (hd : (match d with | .struct _ | .array _ _ => true | _ => false) = true) (hi : (P.info? ty).map (·.size) = some cs.size) :
    (results fn tmps).run P w = .ok (.agg cs) w := by
  have hp' : tmps[p]?.getD undef = .pointer (some ⟨g, 0, none⟩) := by simpa using hp
  simp [results, h, hp', asAddr, run_loadVar_row w g t ty cs fr d hg hu hd hi]
theorem part3 {w : World} {g : Nat} {a b c : Value} {t : TypeId} (h : w.heap[g]? = some (.cells #[a, b, c] t (0, 0))) (x y z : Value) : (((w.setCell ⟨g, 0, none⟩ x).setCell ⟨g, 1, none⟩ y).setCell ⟨g, 2, none⟩ z).heap[g]? = some (.cells #[x, y, z] t (0, 0)) :=
  heap_setCell_same _ g 2 _ t z (heap_setCell_same _ g 1 _ t y (heap_setCell_same w g 0 _ t x h))
theorem row_set3 {w : World} {g n : Nat} {A : Option Addr} {xs : List Value} (h : Row w w.heap.size A n xs) (hA : ∀ b o, A = some ⟨b, o, none⟩ → b ≠ g) (x y z : Value) :
    Row (((w.setCell ⟨g, 0, none⟩ x).setCell ⟨g, 1, none⟩ y).setCell ⟨g, 2, none⟩ z) (((w.setCell ⟨g, 0, none⟩ x).setCell ⟨g, 1, none⟩ y).setCell ⟨g, 2, none⟩ z).heap.size A n xs :=
  (h.apart (fun _ => hA) (((grown_set w g 0 x).trans (grown_set _ g 1 y)).trans (grown_set _ g 2 z)) (Nat.le_refl _)).more (by simp)
end Go.Proofs.Ytekaoodagaplmaa
