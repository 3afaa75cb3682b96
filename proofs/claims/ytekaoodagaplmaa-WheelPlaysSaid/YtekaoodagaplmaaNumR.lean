/- The reference's Number, of at most four bytes: by contract. -/
import Derived.Test.YtekaoodagaplmaaNum
namespace Go.Proofs.Ytekaoodagaplmaa
open Go.RowKit
set_option maxHeartbeats 400000 in
theorem r1num_any (m B cap : Nat) (A : Option Addr) (l : List UInt8) (w : World) (hl : Row w B A m (bv l)) (hm : m ≤ 4) :
    Calls Try.prog 28 #[.slice A m cap] w fun e w' => e = .returned (.int .u32 (CrcM.number l : Nat)) ∧ w = w' := by
  have HS : Hid (isNum 0 0 l) := ⟨rfl, by decide⟩
  have HN := Lib.hid hl.blen
  go_enter Try.func28, Try.ntmps28
  go_wp2
  go_loop [3, 8] (fun v i => ∃ (k x : Nat), k ≤ m ∧ Hid (isNum k x l) ∧ i = .int .i64 k ∧ v = .int .u32 x) (fun _ i => m - (intOf i).toNat)
  case atStart => exact ⟨0, 0, by omega, HS, rfl, rfl⟩
  case round =>
    obtain ⟨k, x, hk, hx, rfl, rfl⟩ := hrel
    by_cases hlt : k < m
    · obtain ⟨b, o, rfl, _, hkl, hcell⟩ := hl.byteAt hlt
      obtain ⟨y, hy, hr⟩ := isNum_next hx.out hkl (by omega)
      have HY := Lib.hid hy
      clear hy
      have hb : (l[k].toNat : Int) ≤ 255 := by have := CrcM.b_lt l[k]; omega
      go_wp2
      go_round
      case rel => exact ⟨k + 1, y, by omega, hr, by go_num, HY.out⟩
      case measure => simp [intOf]; omega
    · obtain rfl : k = m := by omega
      go_wp2
      go_ret
      refine ⟨?_, rfl⟩
      have e := hx.out.1
      rw [List.take_of_length_le (by rw [HN.out]; omega)] at e
      rw [e]; rfl
end Go.Proofs.Ytekaoodagaplmaa
