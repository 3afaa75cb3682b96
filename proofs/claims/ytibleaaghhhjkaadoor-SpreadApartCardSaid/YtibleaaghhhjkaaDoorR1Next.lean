/- The reference's Source.Next: by contract. -/
import Derived.Test.YtibleaaghhhjkaaDoorRand
namespace Go.Proofs.YtibleaaghhhjkaaDoor
open Go.RowKit
open RdM
set_option maxRecDepth 100000 in
theorem r1nx_any (g : Nat) (x : Int) (w : World) (hs : r1Src w g x) (h0 : 0 ≤ x) (h1 : x ≤ 4294967295) : Calls Tryd.prog 42 #[.pointer (some ⟨g, 0, none⟩)] w fun e w' => e = .returned (.int .u32 (mx (sh x))) ∧ w' = w.setCell ⟨g, 0, none⟩ (.int .u32 (sh x)) := by
  have hc : w.cell? ⟨g, 0, none⟩ = some (.int .u32 x) := by rw [cell_of_row w g 0 _ _ _ hs]; rfl
  have hf : w.frozen? ⟨g, 0, none⟩ = false := frozen_of_row w g 0 _ _ hs
  have hsz : (Tryd.prog.info? 22).map (·.size) = some 1 := by kernel_rfl
  clear hs
  by_cases hx : x = 0
  · subst hx
    have hb := Lib.hid (sh_bounds 0)
    have HB : Hid (bits BinOp.xor IntKind.u32 (bits BinOp.xor IntKind.u32 (bits BinOp.xor IntKind.u32 1 8192) (bits BinOp.xor IntKind.u32 1 8192 / 131072)) (bits BinOp.xor IntKind.u32 (bits BinOp.xor IntKind.u32 1 8192) (bits BinOp.xor IntKind.u32 1 8192 / 131072) * 32 % 4294967296) = sh 0) := rfl
    go_enter Tryd.func42, Tryd.ntmps42
    go_wp2_with fail
    refine (r1mix_any _ ?_ ?_ _).mono ?_
    · rw [HB.out]; exact hb.out.1
    · rw [HB.out]; exact hb.out.2
    rintro e w' ⟨rfl, rfl⟩
    rw [HB.out]
    go_wp2_with fail
    go_ret
    exact ⟨rfl, rfl⟩
  · have hb := Lib.hid (sh_bounds x)
    have HB : Hid (bits BinOp.xor IntKind.u32 (bits BinOp.xor IntKind.u32 (bits BinOp.xor IntKind.u32 x (x * 8192 % 4294967296)) (bits BinOp.xor IntKind.u32 x (x * 8192 % 4294967296) / 131072)) (bits BinOp.xor IntKind.u32 (bits BinOp.xor IntKind.u32 x (x * 8192 % 4294967296)) (bits BinOp.xor IntKind.u32 x (x * 8192 % 4294967296) / 131072) * 32 % 4294967296) = sh x) := by
      show _ = _
      unfold sh
      rw [if_neg hx]
    go_enter Tryd.func42, Tryd.ntmps42
    go_wp2_with fail
    refine (r1mix_any _ ?_ ?_ _).mono ?_
    · rw [HB.out]; exact hb.out.1
    · rw [HB.out]; exact hb.out.2
    rintro e w' ⟨rfl, rfl⟩
    rw [HB.out]
    go_wp2_with fail
    go_ret
    exact ⟨rfl, rfl⟩
end Go.Proofs.YtibleaaghhhjkaaDoor
