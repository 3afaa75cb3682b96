/- digest.right: by contract. -/
import Derived.WalkSpells
import Derived.WalkLawsBesides
import Derived.Test.YtcgcmfhidolohaaDoorRows
import Derived.Test.YtcgcmfhidolohaaDoorShaMathQ
import Derived.Test.YtcgcmfhidolohaaDoorZA
namespace Go.Proofs.YtcgcmfhidolohaaDoor.Sh
open Go.RowKit
theorem rot_2 (x : Nat) (m : Int) (w : World) (hx : x < 4294967296) (hm : bits .and .u64 (IntKind.u64.wrap (-2)) 31 = m) (hmm : m = 30) :
    Calls Tryd.prog 51 #[.int .u32 (x : Int), .int .i64 (-2)] w fun e w' => e = .returned (.int .u32 (Sha.rotr x 2 : Nat)) ∧ w = w' := by
  subst hmm
  have HX := Lib.hid hx
  clear hx
  go_enter Tryd.func51, Tryd.ntmps51
  go_wp2_with fail
  go_ret
  refine ⟨?_, rfl⟩
  have hx := HX.out
  rw [show (x : Int) * 1073741824 % 4294967296 = ((x * 1073741824 % 4294967296 : Nat) : Int) by omega, show (x : Int) / 4 = ((x / 4 : Nat) : Int) by omega, u32_or_nat _ _ (Nat.mod_lt _ (by decide)) (by omega), Nat.or_comm]
  rfl
theorem rot_6 (x : Nat) (m : Int) (w : World) (hx : x < 4294967296) (hm : bits .and .u64 (IntKind.u64.wrap (-6)) 31 = m) (hmm : m = 26) :
    Calls Tryd.prog 51 #[.int .u32 (x : Int), .int .i64 (-6)] w fun e w' => e = .returned (.int .u32 (Sha.rotr x 6 : Nat)) ∧ w = w' := by
  subst hmm
  have HX := Lib.hid hx
  clear hx
  go_enter Tryd.func51, Tryd.ntmps51
  go_wp2_with fail
  go_ret
  refine ⟨?_, rfl⟩
  have hx := HX.out
  rw [show (x : Int) * 67108864 % 4294967296 = ((x * 67108864 % 4294967296 : Nat) : Int) by omega, show (x : Int) / 64 = ((x / 64 : Nat) : Int) by omega, u32_or_nat _ _ (Nat.mod_lt _ (by decide)) (by omega), Nat.or_comm]
  rfl
theorem rot_7 (x : Nat) (m : Int) (w : World) (hx : x < 4294967296) (hm : bits .and .u64 (IntKind.u64.wrap (-7)) 31 = m) (hmm : m = 25) :
    Calls Tryd.prog 51 #[.int .u32 (x : Int), .int .i64 (-7)] w fun e w' => e = .returned (.int .u32 (Sha.rotr x 7 : Nat)) ∧ w = w' := by
  subst hmm
  have HX := Lib.hid hx
  clear hx
  go_enter Tryd.func51, Tryd.ntmps51
  go_wp2_with fail
  go_ret
  refine ⟨?_, rfl⟩
  have hx := HX.out
  rw [show (x : Int) * 33554432 % 4294967296 = ((x * 33554432 % 4294967296 : Nat) : Int) by omega, show (x : Int) / 128 = ((x / 128 : Nat) : Int) by omega, u32_or_nat _ _ (Nat.mod_lt _ (by decide)) (by omega), Nat.or_comm]
  rfl
theorem rot_11 (x : Nat) (m : Int) (w : World) (hx : x < 4294967296) (hm : bits .and .u64 (IntKind.u64.wrap (-11)) 31 = m) (hmm : m = 21) :
    Calls Tryd.prog 51 #[.int .u32 (x : Int), .int .i64 (-11)] w fun e w' => e = .returned (.int .u32 (Sha.rotr x 11 : Nat)) ∧ w = w' := by
  subst hmm
  have HX := Lib.hid hx
  clear hx
  go_enter Tryd.func51, Tryd.ntmps51
  go_wp2_with fail
  go_ret
  refine ⟨?_, rfl⟩
  have hx := HX.out
  rw [show (x : Int) * 2097152 % 4294967296 = ((x * 2097152 % 4294967296 : Nat) : Int) by omega, show (x : Int) / 2048 = ((x / 2048 : Nat) : Int) by omega, u32_or_nat _ _ (Nat.mod_lt _ (by decide)) (by omega), Nat.or_comm]
  rfl
theorem rot_13 (x : Nat) (m : Int) (w : World) (hx : x < 4294967296) (hm : bits .and .u64 (IntKind.u64.wrap (-13)) 31 = m) (hmm : m = 19) :
    Calls Tryd.prog 51 #[.int .u32 (x : Int), .int .i64 (-13)] w fun e w' => e = .returned (.int .u32 (Sha.rotr x 13 : Nat)) ∧ w = w' := by
  subst hmm
  have HX := Lib.hid hx
  clear hx
  go_enter Tryd.func51, Tryd.ntmps51
  go_wp2_with fail
  go_ret
  refine ⟨?_, rfl⟩
  have hx := HX.out
  rw [show (x : Int) * 524288 % 4294967296 = ((x * 524288 % 4294967296 : Nat) : Int) by omega, show (x : Int) / 8192 = ((x / 8192 : Nat) : Int) by omega, u32_or_nat _ _ (Nat.mod_lt _ (by decide)) (by omega), Nat.or_comm]
  rfl
theorem rot_17 (x : Nat) (m : Int) (w : World) (hx : x < 4294967296) (hm : bits .and .u64 (IntKind.u64.wrap (-17)) 31 = m) (hmm : m = 15) :
    Calls Tryd.prog 51 #[.int .u32 (x : Int), .int .i64 (-17)] w fun e w' => e = .returned (.int .u32 (Sha.rotr x 17 : Nat)) ∧ w = w' := by
  subst hmm
  have HX := Lib.hid hx
  clear hx
  go_enter Tryd.func51, Tryd.ntmps51
  go_wp2_with fail
  go_ret
  refine ⟨?_, rfl⟩
  have hx := HX.out
  rw [show (x : Int) * 32768 % 4294967296 = ((x * 32768 % 4294967296 : Nat) : Int) by omega, show (x : Int) / 131072 = ((x / 131072 : Nat) : Int) by omega, u32_or_nat _ _ (Nat.mod_lt _ (by decide)) (by omega), Nat.or_comm]
  rfl
theorem rot_18 (x : Nat) (m : Int) (w : World) (hx : x < 4294967296) (hm : bits .and .u64 (IntKind.u64.wrap (-18)) 31 = m) (hmm : m = 14) :
    Calls Tryd.prog 51 #[.int .u32 (x : Int), .int .i64 (-18)] w fun e w' => e = .returned (.int .u32 (Sha.rotr x 18 : Nat)) ∧ w = w' := by
  subst hmm
  have HX := Lib.hid hx
  clear hx
  go_enter Tryd.func51, Tryd.ntmps51
  go_wp2_with fail
  go_ret
  refine ⟨?_, rfl⟩
  have hx := HX.out
  rw [show (x : Int) * 16384 % 4294967296 = ((x * 16384 % 4294967296 : Nat) : Int) by omega, show (x : Int) / 262144 = ((x / 262144 : Nat) : Int) by omega, u32_or_nat _ _ (Nat.mod_lt _ (by decide)) (by omega), Nat.or_comm]
  rfl
theorem rot_19 (x : Nat) (m : Int) (w : World) (hx : x < 4294967296) (hm : bits .and .u64 (IntKind.u64.wrap (-19)) 31 = m) (hmm : m = 13) :
    Calls Tryd.prog 51 #[.int .u32 (x : Int), .int .i64 (-19)] w fun e w' => e = .returned (.int .u32 (Sha.rotr x 19 : Nat)) ∧ w = w' := by
  subst hmm
  have HX := Lib.hid hx
  clear hx
  go_enter Tryd.func51, Tryd.ntmps51
  go_wp2_with fail
  go_ret
  refine ⟨?_, rfl⟩
  have hx := HX.out
  rw [show (x : Int) * 8192 % 4294967296 = ((x * 8192 % 4294967296 : Nat) : Int) by omega, show (x : Int) / 524288 = ((x / 524288 : Nat) : Int) by omega, u32_or_nat _ _ (Nat.mod_lt _ (by decide)) (by omega), Nat.or_comm]
  rfl
theorem rot_22 (x : Nat) (m : Int) (w : World) (hx : x < 4294967296) (hm : bits .and .u64 (IntKind.u64.wrap (-22)) 31 = m) (hmm : m = 10) :
    Calls Tryd.prog 51 #[.int .u32 (x : Int), .int .i64 (-22)] w fun e w' => e = .returned (.int .u32 (Sha.rotr x 22 : Nat)) ∧ w = w' := by
  subst hmm
  have HX := Lib.hid hx
  clear hx
  go_enter Tryd.func51, Tryd.ntmps51
  go_wp2_with fail
  go_ret
  refine ⟨?_, rfl⟩
  have hx := HX.out
  rw [show (x : Int) * 1024 % 4294967296 = ((x * 1024 % 4294967296 : Nat) : Int) by omega, show (x : Int) / 4194304 = ((x / 4194304 : Nat) : Int) by omega, u32_or_nat _ _ (Nat.mod_lt _ (by decide)) (by omega), Nat.or_comm]
  rfl
theorem rot_25 (x : Nat) (m : Int) (w : World) (hx : x < 4294967296) (hm : bits .and .u64 (IntKind.u64.wrap (-25)) 31 = m) (hmm : m = 7) :
    Calls Tryd.prog 51 #[.int .u32 (x : Int), .int .i64 (-25)] w fun e w' => e = .returned (.int .u32 (Sha.rotr x 25 : Nat)) ∧ w = w' := by
  subst hmm
  have HX := Lib.hid hx
  clear hx
  go_enter Tryd.func51, Tryd.ntmps51
  go_wp2_with fail
  go_ret
  refine ⟨?_, rfl⟩
  have hx := HX.out
  rw [show (x : Int) * 128 % 4294967296 = ((x * 128 % 4294967296 : Nat) : Int) by omega, show (x : Int) / 33554432 = ((x / 33554432 : Nat) : Int) by omega, u32_or_nat _ _ (Nat.mod_lt _ (by decide)) (by omega), Nat.or_comm]
  rfl
theorem right_2 (x : Nat) (w : World) (hx : Hid (x < 4294967296)) :
    Calls Tryd.prog 50 #[.int .u32 (x : Int), .int .i64 2] w fun e w' => e = .returned (.int .u32 (Sha.rotr x 2 : Nat)) ∧ w = w' := by
  go_enter Tryd.func50, Tryd.ntmps50
  go_wp2_with fail
  refine (rot_2 x _ _ hx.out rfl (by decide)).mono ?_
  rintro e w' ⟨rfl, rfl⟩
  go_wp2_with fail
  go_ret
  exact ⟨rfl, rfl⟩
theorem right_6 (x : Nat) (w : World) (hx : Hid (x < 4294967296)) :
    Calls Tryd.prog 50 #[.int .u32 (x : Int), .int .i64 6] w fun e w' => e = .returned (.int .u32 (Sha.rotr x 6 : Nat)) ∧ w = w' := by
  go_enter Tryd.func50, Tryd.ntmps50
  go_wp2_with fail
  refine (rot_6 x _ _ hx.out rfl (by decide)).mono ?_
  rintro e w' ⟨rfl, rfl⟩
  go_wp2_with fail
  go_ret
  exact ⟨rfl, rfl⟩
theorem right_7 (x : Nat) (w : World) (hx : Hid (x < 4294967296)) :
    Calls Tryd.prog 50 #[.int .u32 (x : Int), .int .i64 7] w fun e w' => e = .returned (.int .u32 (Sha.rotr x 7 : Nat)) ∧ w = w' := by
  go_enter Tryd.func50, Tryd.ntmps50
  go_wp2_with fail
  refine (rot_7 x _ _ hx.out rfl (by decide)).mono ?_
  rintro e w' ⟨rfl, rfl⟩
  go_wp2_with fail
  go_ret
  exact ⟨rfl, rfl⟩
theorem right_11 (x : Nat) (w : World) (hx : Hid (x < 4294967296)) :
    Calls Tryd.prog 50 #[.int .u32 (x : Int), .int .i64 11] w fun e w' => e = .returned (.int .u32 (Sha.rotr x 11 : Nat)) ∧ w = w' := by
  go_enter Tryd.func50, Tryd.ntmps50
  go_wp2_with fail
  refine (rot_11 x _ _ hx.out rfl (by decide)).mono ?_
  rintro e w' ⟨rfl, rfl⟩
  go_wp2_with fail
  go_ret
  exact ⟨rfl, rfl⟩
theorem right_13 (x : Nat) (w : World) (hx : Hid (x < 4294967296)) :
    Calls Tryd.prog 50 #[.int .u32 (x : Int), .int .i64 13] w fun e w' => e = .returned (.int .u32 (Sha.rotr x 13 : Nat)) ∧ w = w' := by
  go_enter Tryd.func50, Tryd.ntmps50
  go_wp2_with fail
  refine (rot_13 x _ _ hx.out rfl (by decide)).mono ?_
  rintro e w' ⟨rfl, rfl⟩
  go_wp2_with fail
  go_ret
  exact ⟨rfl, rfl⟩
theorem right_17 (x : Nat) (w : World) (hx : Hid (x < 4294967296)) :
    Calls Tryd.prog 50 #[.int .u32 (x : Int), .int .i64 17] w fun e w' => e = .returned (.int .u32 (Sha.rotr x 17 : Nat)) ∧ w = w' := by
  go_enter Tryd.func50, Tryd.ntmps50
  go_wp2_with fail
  refine (rot_17 x _ _ hx.out rfl (by decide)).mono ?_
  rintro e w' ⟨rfl, rfl⟩
  go_wp2_with fail
  go_ret
  exact ⟨rfl, rfl⟩
theorem right_18 (x : Nat) (w : World) (hx : Hid (x < 4294967296)) :
    Calls Tryd.prog 50 #[.int .u32 (x : Int), .int .i64 18] w fun e w' => e = .returned (.int .u32 (Sha.rotr x 18 : Nat)) ∧ w = w' := by
  go_enter Tryd.func50, Tryd.ntmps50
  go_wp2_with fail
  refine (rot_18 x _ _ hx.out rfl (by decide)).mono ?_
  rintro e w' ⟨rfl, rfl⟩
  go_wp2_with fail
  go_ret
  exact ⟨rfl, rfl⟩
theorem right_19 (x : Nat) (w : World) (hx : Hid (x < 4294967296)) :
    Calls Tryd.prog 50 #[.int .u32 (x : Int), .int .i64 19] w fun e w' => e = .returned (.int .u32 (Sha.rotr x 19 : Nat)) ∧ w = w' := by
  go_enter Tryd.func50, Tryd.ntmps50
  go_wp2_with fail
  refine (rot_19 x _ _ hx.out rfl (by decide)).mono ?_
  rintro e w' ⟨rfl, rfl⟩
  go_wp2_with fail
  go_ret
  exact ⟨rfl, rfl⟩
theorem right_22 (x : Nat) (w : World) (hx : Hid (x < 4294967296)) :
    Calls Tryd.prog 50 #[.int .u32 (x : Int), .int .i64 22] w fun e w' => e = .returned (.int .u32 (Sha.rotr x 22 : Nat)) ∧ w = w' := by
  go_enter Tryd.func50, Tryd.ntmps50
  go_wp2_with fail
  refine (rot_22 x _ _ hx.out rfl (by decide)).mono ?_
  rintro e w' ⟨rfl, rfl⟩
  go_wp2_with fail
  go_ret
  exact ⟨rfl, rfl⟩
theorem right_25 (x : Nat) (w : World) (hx : Hid (x < 4294967296)) :
    Calls Tryd.prog 50 #[.int .u32 (x : Int), .int .i64 25] w fun e w' => e = .returned (.int .u32 (Sha.rotr x 25 : Nat)) ∧ w = w' := by
  go_enter Tryd.func50, Tryd.ntmps50
  go_wp2_with fail
  refine (rot_25 x _ _ hx.out rfl (by decide)).mono ?_
  rintro e w' ⟨rfl, rfl⟩
  go_wp2_with fail
  go_ret
  exact ⟨rfl, rfl⟩
end Go.Proofs.YtcgcmfhidolohaaDoor.Sh
