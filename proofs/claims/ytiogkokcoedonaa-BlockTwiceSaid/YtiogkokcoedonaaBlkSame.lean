/- layer 10's same: by contract. -/
import Derived.Test.YtiogkokcoedonaaR7Count
import Derived.BigQuiet
import Derived.Deep.QuietTactic
namespace Go.Proofs.Ytiogkokcoedonaa
open Go.RowKit
set_option maxHeartbeats 1600000 in
theorem same_yes (B n cap cap' : Nat) (A A' : Option Addr) (es es' : List BRow) (w : World) (hl : Rows2 w B A n es) (hl' : Rows2 w B A' n es') (he : es.map (·.l) = es'.map (·.l)) (hn : n ≤ 1000000) (hB : B ≤ w.heap.size) :
    Calls Try.prog 13 #[.slice A n cap, .slice A' n cap'] w fun e w' => e = .returned (.bool true) ∧ Below w.heap.size w w' := by
  have HE := Lib.hid he
  clear he
  go_enter Try.func13, Try.ntmps13
  go_wp2_with fail
  go_loopw [13] (fun i wr => ∃ k : Nat, k ≤ n ∧ i = .int .i64 k ∧ Below w.heap.size w wr ∧ wr.heap.size = w.heap.size) (fun i _ => n - (intOf i).toNat)
  case atStart => exact ⟨0, by omega, rfl, Below.refl _ _, rfl⟩
  case round =>
    obtain ⟨k, hk, rfl, hb, hsz⟩ := hrel
    by_cases hlt : k < n
    · obtain ⟨b, o, rfl, r, hr, hcell, hrow⟩ := (hl.below (hb.mono hB)).at_ hlt
      obtain ⟨b', o', rfl, r', hr', hcell', hrow'⟩ := (hl'.below (hb.mono hB)).at_ hlt
      have heq : r'.l = r.l := by
        have h1 : (es.map (·.l))[k]? = some r.l := by rw [List.getElem?_map, hr]; rfl
        have h2 : (es'.map (·.l))[k]? = some r'.l := by rw [List.getElem?_map, hr']; rfl
        rw [HE.out] at h1
        rw [h2] at h1
        injection h1
      rw [heq] at hrow'
      have hk1 := run_string_row (P := Try.prog) (show Row wr.drew B r.A r.n (bv r.l) from hrow) r.c 22 9 5 Try.underlying22 Try.underlying5 Try.underlying9
      have hk2 := run_string_row (P := Try.prog) (show Row wr.drew B r'.A r'.n (bv r.l) from hrow') r'.c 22 9 5 Try.underlying22 Try.underlying5 Try.underlying9
      have hsz' : wr.heap.size = w.heap.size := hsz
      clear hrow hrow' hr hr' heq
      generalize r.l = l at *
      go_wp2_with fail
      go_region
      all_goals
        go_wp2_with fail
        go_roundw
        case rel => exact ⟨k + 1, by omega, by go_num, hb.drew, hsz'⟩
        case measure => simp [intOf]; omega
    · go_wp2_with fail
      go_ret
      exact ⟨rfl, hb⟩
end Go.Proofs.Ytiogkokcoedonaa
