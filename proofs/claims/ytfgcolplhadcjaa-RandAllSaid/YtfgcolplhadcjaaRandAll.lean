/- RandAll: beyond its bounds there is none; of all there are all; of none, none. For every input, no condition. -/
import Derived.Test.YtfgcolplhadcjaaRows
import Derived.Test.YtfgcolplhadcjaaRandTot
import Derived.Test.YtfgcolplhadcjaaLaw
namespace Go.Proofs.Ytfgcolplhadcjaa
open Go.ChangeShapes Go.WideShapes Go.ChangeAt Go.RowKit
open RdM
set_option maxRecDepth 100000 in
set_option maxHeartbeats 1600000 in
theorem all_walk (a : Nat) (ha : a < 2 ^ 32) (b : Nat) (hb : b < 2 ^ 32) (m : Int) (_ : -9223372036854775808 ≤ m) (_ : m ≤ 9223372036854775807) (w : World) :
    Calls Try.prog 7 #[.int .u32 (a : Int), .int .u32 (b : Int), .int .i64 m] w fun e w' => e = .returned (.bool true) ∧ Below w.heap.size w w' := by
  have HN := Lib.hid (new_any (a : Int) (b : Int) (by omega) (by omega) (by omega) (by omega) w)
  clear ha hb
  generalize hX : seed (a : Int) (b : Int) = x at *
  by_cases ho : m < 0 ∨ 256 < m
  · by_cases h0 : m < 0
    · have h00 : ¬ 0 ≤ m := by omega
      clear ho
      go_enter Try.func7, Try.ntmps7
      go_wp2_with fail
      refine HN.out.mono ?_
      rintro e w1 ⟨rfl, hs1, hb1, hz1⟩
      clear hz1 hs1
      go_wp2_with fail
      refine (some_out _ m m w1 (by omega)).mono ?_
      rintro e w2 ⟨rfl, rfl⟩
      go_wp2_with fail
      refine (some_out _ m 3 w1 (by omega)).mono ?_
      rintro e w2 ⟨rfl, rfl⟩
      go_wp2_with fail
      refine (awake4_any w1).mono ?_
      rintro e w4 ⟨rfl, hb4⟩
      go_wp2_with fail
      go_ret
      exact ⟨rfl, hb1.trans (hb4.mono hb1.size)⟩
    · have h25 : 256 < m := by omega
      clear ho
      go_enter Try.func7, Try.ntmps7
      go_wp2_with fail
      refine HN.out.mono ?_
      rintro e w1 ⟨rfl, hs1, hb1, hz1⟩
      clear hz1 hs1
      go_wp2_with fail
      refine (some_out _ m m w1 (by omega)).mono ?_
      rintro e w2 ⟨rfl, rfl⟩
      go_wp2_with fail
      refine (some_out _ m 3 w1 (by omega)).mono ?_
      rintro e w2 ⟨rfl, rfl⟩
      go_wp2_with fail
      refine (awake4_any w1).mono ?_
      rintro e w4 ⟨rfl, hb4⟩
      go_wp2_with fail
      go_ret
      exact ⟨rfl, hb1.trans (hb4.mono hb1.size)⟩
  · obtain ⟨n, rfl⟩ : ∃ n : Nat, m = n := ⟨m.toNat, by omega⟩
    have hn : n ≤ 256 := by omega
    clear ho
    go_enter Try.func7, Try.ntmps7
    go_wp2_with fail
    refine HN.out.mono ?_
    rintro e w1 ⟨rfl, hs1, hb1, hz1⟩
    rw [hX] at hs1
    have HS1 := Lib.hid hs1
    clear hz1 hs1
    go_wp2_with fail
    refine (some_tot _ n x n w1 HS1.out hn n (kk_all n)).mono ?_
    rintro e w2 ⟨A, c, rfl, hrow, hs2, hbt⟩
    have hb2 : Below w.heap.size w w2 := hb1.trans (hbt.out.below (Nat.le_refl _) hb1.size)
    have hrow2 : Hid (Row w2 w2.heap.size A n (iv (ids n))) := by
      have := hrow.out
      rwa [some_all n (by omega)] at this
    clear hrow hbt
    go_wp2_with fail
    go_loopw [39] (fun z wr => ∃ i : Nat, i ≤ n ∧ z = .int .i64 i ∧ w2 = wr) (fun z _ => n - (intOf z).toNat)
    case atStart => exact ⟨0, by omega, rfl, rfl⟩
    case round =>
      obtain ⟨i, hi, rfl, rfl⟩ := hrel
      by_cases hlt : i < n
      · obtain ⟨b1, o1, rfl, _, hc1⟩ := hrow2.out.cellAt hlt (iv_get (ids n) i (by rw [ids_length]; exact hlt))
        have hid : (ids n).getD i 0 = (i : Int) := by simp [ids, hlt]
        rw [hid] at hc1
        clear hid
        go_wp2_with fail
        go_roundw
        case rel => exact ⟨i + 1, by omega, by go_num, trivial⟩
        case measure => simp [intOf]; omega
      · obtain rfl : n = i := by omega
        go_wp2_with fail
        refine (some_tot _ n _ 0 w2 hs2.out hn 0 (kk_small n 0 (by omega))).mono ?_
        rintro e w3 ⟨A3, c3, rfl, hrow3, hs3, hbt3⟩
        have hb3 : Below w.heap.size w w3 := hb2.trans (hbt3.out.below (Nat.le_refl _) hb2.size)
        clear hrow3 hbt3
        go_wp2_with fail
        refine (some_tot _ n _ (-1) w3 hs3.out hn 0 (kk_small n (-1) (by omega))).mono ?_
        rintro e w4 ⟨A4, c4, rfl, hrow4, hs4, hbt4⟩
        have hb4 : Below w.heap.size w w4 := hb3.trans (hbt4.out.below (Nat.le_refl _) hb3.size)
        clear hrow4 hbt4
        go_wp2_with fail
        refine (awake4_any w4).mono ?_
        rintro e w5 ⟨rfl, hb5⟩
        go_wp2_with fail
        go_ret
        exact ⟨rfl, hb4.trans (hb5.mono hb4.size)⟩

set_option maxRecDepth 100000 in
theorem randAll_lifted (os : Os) (started : os.Started) (H : Type) (enc : TypeId × Value → H) :
    ReturnsInHanded {} Try.checked os 7 .any (Rows.randAllSpec.pre6 enc Try.prog Try.f7 Rows.randAllRow.domain false) (Rows.randAllSpec.post enc Try.prog Try.f7 false true false false) := by
  refine law_lift (C := Try.checked) (tb := 4) Try.own started (by kernel_rfl) Try.func7
    (ChangeSpec.witness6 (enc := enc) (C := Try.checked) false ⟨#[], #[.int .u32 0, .int .u32 0, .int .i64 0], []⟩ 8 (by kernel_rfl) (by kernel_rfl) (by kernel_rfl) (by kernel_rfl)) Try.laidOut (by kernel_rfl) rfl rfl Try.underlying4 ?_ ?_
  · intro ds hds
    match ds, hds with
    | [_, _, _], _ => rfl
  intro W base args ds p hval0 hA0 _ _ hsz0
  have hval : ∀ (j : Nat) t v, Try.f7.params[j]? = some t → args[j]? = some v → Value.okWide Try.prog W .any base t v := hval0
  have hA : DataW.TrodAll enc Try.prog W 0 (fun _ => true) true Try.f7.params.toList args.toList ds p := hA0
  rw [Try.params7] at hA hval
  obtain ⟨v0, v1, v2, d0, d1, d2, p0, p1, p2, rfl, rfl, rfl, h0, h1, h2⟩ := trodAll_three hA
  obtain ⟨x0, rfl, hx0⟩ := open_u32 Try.underlying25 (hval 0 25 v0 rfl rfl) h0
  obtain ⟨x1, rfl, hx1⟩ := open_u32 Try.underlying25 (hval 1 25 v1 rfl rfl) h1
  obtain ⟨x2, rfl, hx2, hy2⟩ := open_i64 Try.underlying3 (hval 2 3 v2 rfl rfl) h2
  exact all_walk x0 hx0 x1 hx1 x2 hx2 hy2 W 

theorem randAll_holds : Rows.RandAllSaid :=
  OpenClaim.holds_of_wide 7 Try.f7 rfl rfl rfl rfl rfl rfl rfl ⟨rfl, rfl, rfl, rfl, rfl⟩ rfl rfl rfl rfl rfl (by kernel_rfl) Try.func7 (by kernel_rfl)
    (of_decide_eq_true (by kernel_rfl)) (by unfold Func.isWrapper; rw [if_neg (of_decide_eq_false (by kernel_rfl))]; exact ⟨rfl, rfl⟩)
    (fun os started H enc _ => randAll_lifted os started H enc)
end Go.Proofs.Ytfgcolplhadcjaa
