/- few of layer 16; a call of a row of them, read. -/
import Derived.Test.YtdaiboaofjeliaaFlAwake
import Derived.Test.YtdaiboaofjeliaaLawFlCall
namespace Go.Proofs.Ytdaiboaofjeliaa
open Go.RowKit
theorem FCalls.at_ {W W' : World} {A : Option Addr} {n : Nat} {ys : List FCall} (h : FCalls W A n ys) (hb : Below W.heap.size W W') {k : Nat} (hk : k < n) :
    ∃ b o y, A = some ⟨b, o, none⟩ ∧ b < W.heap.size ∧ y ∈ ys ∧ ys[k]? = some y ∧ y.good W ∧ W'.cell? ⟨b, o + k * 4, none⟩ = some (.int .i64 y.d) ∧ W'.cell? ⟨b, o + k * 4 + 1, none⟩ = some (.int .i64 y.a) ∧ W'.cell? ⟨b, o + k * 4 + 2, none⟩ = some (.int .i64 y.n) ∧ W'.cell? ⟨b, o + k * 4 + 3, none⟩ = some (.slice y.A y.m y.c) := by
  obtain ⟨hl, hg, hc⟩ := h
  obtain ⟨b, o, e, hbl, hcell⟩ := hc (by omega)
  have hk' : k < ys.length := by omega
  have key : ∀ j v, (ys[k]).vals[j]? = some v → W'.cell? ⟨b, o + (k * 4 + j), none⟩ = some v := fun j v hv => (hb.cell (p := ⟨b, o + (k * 4 + j), none⟩) hbl).trans (hcell k hk' j v hv)
  exact ⟨b, o, ys[k], e, hbl, List.getElem_mem hk', List.getElem?_eq_getElem hk', hg _ (List.getElem_mem hk'), key 0 _ rfl, key 1 _ rfl, key 2 _ rfl, key 3 _ rfl⟩
def FewOk (ys : List FCall) (w : World) (e : Ending) (w' : World) : Prop :=
  ∃ r : Bool, e = .returned (.bool r) ∧ Hid (r = true → ys.length ≤ 80 ∧ ∀ y ∈ ys, y.m ≤ 300) ∧ Hid (Below w.heap.size w w')
set_option maxHeartbeats 800000 in
theorem few_any (A : Option Addr) (n cap : Nat) (ys : List FCall) (w : World) (hl : FCalls w A n ys) : Calls Try.prog 4 #[.slice A n cap] w (FewOk ys w) := by
  have HL := Lib.hid hl
  have HN := Lib.hid hl.1
  clear hl
  go_enter Try.func4, Try.ntmps4
  go_wp2_with fail
  go_loopw [7] (fun i wr => ∃ k : Nat, k ≤ n ∧ i = .int .i64 k ∧ k ≤ 80 ∧ Hid (∀ j y, ys[j]? = some y → j < k → y.m ≤ 300) ∧ Hid (Below w.heap.size w wr)) (fun i _ => n - (intOf i).toNat)
  case atStart => exact ⟨0, by omega, rfl, by omega, (show ∀ j y, ys[j]? = some y → j < 0 → y.m ≤ 300 from fun j _ _ hj => absurd hj (by omega)), Below.refl _ _⟩
  case round =>
    obtain ⟨k, hk, rfl, hk80, hall, hb⟩ := hrel
    by_cases hlt : k < n
    · obtain ⟨b, o, y, rfl, hbl, hym, hyk, hyg, c0, c1, c2, c3⟩ := HL.out.at_ hb.out hlt
      have HYK := Lib.hid hyk
      clear hyk hym hyg
      obtain ⟨yd, ya, yn, yA, ym, yc, yl⟩ := y
      dsimp only at c0 c1 c2 c3
      by_cases h80 : 80 ≤ k
      · go_wp2_with fail
        go_ret
        exact ⟨false, rfl, (fun h => by cases h), (hb.out.alloc hb.out.size _)⟩
      · by_cases h300 : 300 < ym
        · go_wp2_with fail
          go_ret
          exact ⟨false, rfl, (fun h => by cases h), (hb.out.alloc hb.out.size _)⟩
        · have hall2 : Hid (∀ j y, ys[j]? = some y → j < k + 1 → y.m ≤ 300) := by
            intro j y hy hj
            by_cases e : j < k
            · exact hall.out j y hy e
            · obtain rfl : j = k := by omega
              rw [HYK.out] at hy
              injection hy with hy
              subst hy
              show ym ≤ 300
              omega
          clear hall
          go_wp2_with fail
          go_roundw
          case rel => exact ⟨k + 1, by omega, by go_num, by omega, hall2, hb.out.alloc hb.out.size _⟩
          case measure => simp [intOf]; omega
    · obtain rfl : n = k := by omega
      go_wp2_with fail
      go_ret
      refine ⟨true, rfl, (fun _ => ⟨by have := HN.out; omega, fun y hy => ?_⟩), hb⟩
      obtain ⟨j, hj, rfl⟩ := List.getElem_of_mem hy
      exact hall.out j _ (List.getElem?_eq_getElem hj) (by have := HN.out; omega)
end Go.Proofs.Ytdaiboaofjeliaa
