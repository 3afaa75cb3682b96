/- few of layer 18. -/
import Derived.Test.YtoblapnnpjgpnaaGreatDoorZUQ
import Derived.Test.YtoblapnnpjgpnaaGreatDoorLawWhCallQ
namespace Go.Proofs.YtoblapnnpjgpnaaGreatDoor
open Go.RowKit
def FewW (ys : List WCall) (w : World) (e : Ending) (w' : World) : Prop :=
  ∃ r : Bool, e = .returned (.bool r) ∧ Hid (r = true → ys.length ≤ 80 ∧ ∀ y ∈ ys, y.m ≤ 40) ∧ Hid (Below w.heap.size w w')
end Go.Proofs.YtoblapnnpjgpnaaGreatDoor
namespace Go.Proofs.YtoblapnnpjgpnaaGreatDoor
open Go.RowKit
set_option maxHeartbeats 800000 in
theorem few23_any (A : Option Addr) (n cap : Nat) (ys : List WCall) (w : World) (hl : WCalls w A n ys) : Calls Tryz.prog 13 #[.slice A n cap] w (FewW ys w) := by
  have HL := Lib.hid hl
  have HN := Lib.hid hl.1
  clear hl
  go_enter Tryz.func13, Tryz.ntmps13
  go_wp2_with fail
  go_loopw [7] (fun i wr => ∃ k : Nat, k ≤ n ∧ i = .int .i64 k ∧ k ≤ 80 ∧ Hid (∀ j y, ys[j]? = some y → j < k → y.m ≤ 40) ∧ Hid (Below w.heap.size w wr)) (fun i _ => n - (intOf i).toNat)
  case atStart => exact ⟨0, by omega, rfl, by omega, (show ∀ j y, ys[j]? = some y → j < 0 → y.m ≤ 40 from fun j _ _ hj => absurd hj (by omega)), Below.refl _ _⟩
  case round =>
    obtain ⟨k, hk, rfl, hk80, hall, hb⟩ := hrel
    by_cases hlt : k < n
    · obtain ⟨b, o, y, rfl, hbl, hym, hyk, hyg, c0, c1, c2, c3, c4⟩ := HL.out.at_ hb.out hlt
      have HYK := Lib.hid hyk
      clear hyk hym hyg
      obtain ⟨yd, ys0, ya, yn, yA, ym, yc, yl⟩ := y
      dsimp only at c0 c1 c2 c3 c4
      by_cases h80 : 80 ≤ k
      · go_wp2_with fail
        go_ret
        exact ⟨false, rfl, (fun h => by cases h), (hb.out.alloc hb.out.size _)⟩
      · by_cases h40 : 40 < ym
        · go_wp2_with fail
          go_ret
          exact ⟨false, rfl, (fun h => by cases h), (hb.out.alloc hb.out.size _)⟩
        · have hall2 : Hid (∀ j y, ys[j]? = some y → j < k + 1 → y.m ≤ 40) := by
            intro j y hy hj
            by_cases e : j < k
            · exact hall.out j y hy e
            · obtain rfl : j = k := by omega
              rw [HYK.out] at hy
              injection hy with hy
              subst hy
              show ym ≤ 40
              omega
          clear hall
          go_wp2_with fail
          go_roundw
          case rel => exact ⟨k + 1, by omega, by go_num, by omega, hall2, hb.out.alloc hb.out.size _⟩
          case measure => simp [intOf]; omega
    · obtain rfl : n = k := by omega
      go_wp2_with fail
      go_ret
      refine ⟨true, rfl, (fun _ => ⟨by have := HN.out; omega, fun y hy => ?_⟩), hb⟩
      obtain ⟨j, hj, rfl⟩ := List.getElem_of_mem hy
      exact hall.out j _ (List.getElem?_eq_getElem hj) (by have := HN.out; omega)
end Go.Proofs.YtoblapnnpjgpnaaGreatDoor
