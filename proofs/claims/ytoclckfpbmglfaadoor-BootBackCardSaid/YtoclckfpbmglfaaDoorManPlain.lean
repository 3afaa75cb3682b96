/- manifest.Plain: by contract. -/
import Derived.Test.YtoclckfpbmglfaaDoorManBytes
namespace Go.Proofs.YtoclckfpbmglfaaDoor
open Go.RowKit
theorem man_bounds {l z p : Int} {n : Nat} (h : manB l z p n = true) : ∃ L Z P : Nat, l = L ∧ z = Z ∧ p = P ∧ 1 ≤ L ∧ L ≤ 512 ∧ 1 ≤ Z ∧ Z ≤ 16 ∧ P ≤ 16 ∧ n = 32 := by
  simp only [manB, ofB, mayB, Bool.and_eq_true, decide_eq_true_eq] at h
  obtain ⟨⟨⟨⟨h1, h2⟩, h3, h4⟩, h5, h6⟩, h7⟩ := h
  unfold BlkM.count at h1 h2
  split at h1
  · omega
  · next h9 =>
    split at h1
    · omega
    · exact ⟨l.toNat, z.toNat, p.toNat, by omega, by omega, by omega, by omega, by omega, by omega, by omega, by omega, h7⟩
def plainB (s v L Z P : Nat) (h : List UInt8) : List UInt8 := CrcM.four s ++ CrcM.four v ++ [UInt8.ofNat (L / 256), UInt8.ofNat L, UInt8.ofNat Z, UInt8.ofNat P] ++ h
def PlainOk (l : List UInt8) (w : World) (e : Ending) (w' : World) : Prop :=
  ∃ A c, e = .returned (.tuple #[.slice A 44 c, .int .i64 0]) ∧ Hid (w'.ownsRow w.heap.size 5 1 (.slice A 44 c) 44 (bv l)) ∧ Hid (Below w.heap.size w w')
end Go.Proofs.YtoclckfpbmglfaaDoor
