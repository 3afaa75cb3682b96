/- SolitonRoots: a root's square is not above, the next one's is; of what is below 1 it is 0. For every input, no condition. -/
import Derived.Test.YtfgcolplhadcjaaRows
import Derived.Test.YtfgcolplhadcjaaSolAwake
import Derived.Test.YtfgcolplhadcjaaLaw
namespace Go.Proofs.Ytfgcolplhadcjaa
open Go.ChangeShapes Go.WideShapes Go.ChangeAt Go.RowKit
set_option maxRecDepth 100000 in
set_option maxHeartbeats 1600000 in
theorem roots_walk (n : Int) (hn0 : -9223372036854775808 ≤ n) (hn1 : n ≤ 9223372036854775807) (w : World) :
    Calls Try.prog 11 #[.int .i64 n] w fun e w' => e = .returned (.bool true) ∧ Below w.heap.size w w' := by
  by_cases h : n < 1
  · go_enter Try.func11, Try.ntmps11
    go_wp2_with fail
    refine (root_neg n h hn0 w).mono ?_
    rintro e w' ⟨rfl, rfl⟩
    go_wp2_with fail
    refine (awake7_any w).mono ?_
    rintro e w' ⟨rfl, hb⟩
    go_wp2_with fail
    go_ret
    exact ⟨rfl, hb⟩
  · obtain ⟨N, rfl⟩ : ∃ N : Nat, n = N := ⟨n.toNat, by omega⟩
    have hN1 : 1 ≤ N := by omega
    have hN2 : N ≤ 9223372036854775807 := by omega
    have HN := Lib.hid hN2
    have HN1 := Lib.hid hn1
    clear hn0 hn1 hN2
    go_enter Try.func11, Try.ntmps11
    go_wp2_with fail
    refine (root_pos N hN1 HN.out w).mono ?_
    rintro e w' ⟨⟨r, rfl, hr⟩, rfl⟩
    obtain ⟨hr1, hr2, hr3, hr4⟩ := hr.out
    have hq0 : (0 : Int) ≤ (N : Int) / (r : Int) := Int.ediv_nonneg (by omega) (by omega)
    have hq1 : (N : Int) / (r : Int) ≤ 9223372036854775807 := Int.le_trans (Int.ediv_le_self _ (by omega)) HN1.out
    have hq2 : (0 : Int) ≤ (N : Int) / ((r : Int) + 1) := Int.ediv_nonneg (by omega) (by omega)
    have hq3 : (N : Int) / ((r : Int) + 1) ≤ 9223372036854775807 := Int.le_trans (Int.ediv_le_self _ (by omega)) HN1.out
    have hg1 : (r : Int) ≤ (N : Int) / (r : Int) := (div_le_iff r N hr1).2 hr3
    have hg2 : (N : Int) / ((r : Int) + 1) < (r : Int) + 1 := by
      have h5 := div_le_iff (r + 1) N (by omega)
      rw [Int.natCast_add] at h5
      have h6 : ¬ ((r : Int) + ((1 : Nat) : Int)) ≤ (N : Int) / ((r : Int) + ((1 : Nat) : Int)) := fun h => absurd (h5.1 h) (by omega)
      exact Int.not_le.1 h6
    have hr0 : ¬ (r : Int) = 0 := by omega
    have hri : (1 : Int) ≤ (r : Int) := by omega
    clear hr hr3 hr4
    have hN3 := HN1.out
    go_wp2_with fail
    refine (awake7_any w).mono ?_
    rintro e w' ⟨rfl, hb⟩
    go_wp2_with fail
    go_ret
    exact ⟨rfl, hb⟩

set_option maxRecDepth 100000 in
theorem solitonRoots_lifted (os : Os) (started : os.Started) (H : Type) (enc : TypeId × Value → H) :
    ReturnsInHanded {} Try.checked os 11 .any (Rows.solitonRootsSpec.pre6 enc Try.prog Try.f11 Rows.solitonRootsRow.domain false) (Rows.solitonRootsSpec.post enc Try.prog Try.f11 false true false false) := by
  refine law_lift (C := Try.checked) (tb := 4) Try.own started (by kernel_rfl) Try.func11
    (ChangeSpec.witness6 (enc := enc) (C := Try.checked) false ⟨#[], #[.int .i64 0], []⟩ 8 (by kernel_rfl) (by kernel_rfl) (by kernel_rfl) (by kernel_rfl)) Try.laidOut (by kernel_rfl) rfl rfl Try.underlying4 ?_ ?_
  · intro ds hds
    match ds, hds with
    | [_], _ => rfl
  intro W base args ds p hval0 hA0 _ _ hsz0
  have hval : ∀ (j : Nat) t v, Try.f11.params[j]? = some t → args[j]? = some v → Value.okWide Try.prog W .any base t v := hval0
  have hA : DataW.TrodAll enc Try.prog W 0 (fun _ => true) true Try.f11.params.toList args.toList ds p := hA0
  rw [Try.params11] at hA hval
  obtain ⟨v0, d0, rfl, rfl, h0⟩ := trodAll_one hA
  obtain ⟨x0, rfl, hx0, hy0⟩ := open_i64 Try.underlying3 (hval 0 3 v0 rfl rfl) h0
  exact roots_walk x0 hx0 hy0 W 

theorem solitonRoots_holds : Rows.SolitonRootsSaid :=
  OpenClaim.holds_of_wide 11 Try.f11 rfl rfl rfl rfl rfl rfl rfl ⟨rfl, rfl, rfl, rfl, rfl⟩ rfl rfl rfl rfl rfl (by kernel_rfl) Try.func11 (by kernel_rfl)
    (of_decide_eq_true (by kernel_rfl)) (by unfold Func.isWrapper; rw [if_neg (of_decide_eq_false (by kernel_rfl))]; exact ⟨rfl, rfl⟩)
    (fun os started H enc _ => solitonRoots_lifted os started H enc)
end Go.Proofs.Ytfgcolplhadcjaa
