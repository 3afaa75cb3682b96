/- PrecodeNothing's walk. -/
import Derived.Test.YtibleaaghhhjkaaDoorPcNoth
import Derived.Test.YtibleaaghhhjkaaDoorPcFewW
import Derived.Deep.QuietTactic
import Derived.BigQuiet
namespace Go.Proofs.YtibleaaghhhjkaaDoor.Pc
open Go.RowKit
open VecM RdM Vc Sp
set_option maxRecDepth 100000 in
set_option maxHeartbeats 1600000 in
theorem same9_yes (B n cap cap' : Nat) (A A' : Option Addr) (es es' : List BRow) (w : World) (hl : Rows2 w B A n es) (hl' : Rows2 w B A' n es') (he : es.map (·.l) = es'.map (·.l)) (hn : n ≤ 1000000) (hB : B ≤ w.heap.size) :
    Calls Tryd.prog 19 #[.slice A n cap, .slice A' n cap'] w fun e w' => e = .returned (.bool true) ∧ Below w.heap.size w w' := by
  have HE := Lib.hid he
  clear he
  go_enter Tryd.func19, Tryd.ntmps19
  go_wp2_with fail
  go_loopw [13] (fun i wr => ∃ k : Nat, k ≤ n ∧ i = .int .i64 k ∧ Below w.heap.size w wr ∧ wr.heap.size = w.heap.size) (fun i _ => n - (intOf i).toNat)
  case atStart => exact ⟨0, by omega, rfl, Below.refl _ _, rfl⟩
  case round =>
    obtain ⟨k, hk, rfl, hb, hsz⟩ := hrel
    by_cases hlt : k < n
    · obtain ⟨b, o, rfl, r, hr, hcell, hrow⟩ := (hl.below (hb.mono hB)).at_ hlt
      obtain ⟨b', o', rfl, r', hr', hcell', hrow'⟩ := (hl'.below (hb.mono hB)).at_ hlt
      have heq : r'.l = r.l := by
        have h1 : (es.map (·.l))[k]? = some r.l := by rw [List.getElem?_map, hr]; rfl
        have h2 : (es'.map (·.l))[k]? = some r'.l := by rw [List.getElem?_map, hr']; rfl
        rw [HE.out] at h1
        rw [h2] at h1
        injection h1
      rw [heq] at hrow'
      have hk1 := run_string_row (P := Tryd.prog) (show Row wr.drew B r.A r.n (bv r.l) from hrow) r.c 65 9 5 Tryd.underlying65 Tryd.underlying5 Tryd.underlying9
      have hk2 := run_string_row (P := Tryd.prog) (show Row wr.drew B r'.A r'.n (bv r.l) from hrow') r'.c 65 9 5 Tryd.underlying65 Tryd.underlying5 Tryd.underlying9
      have hsz' : wr.heap.size = w.heap.size := hsz
      clear hrow hrow' hr hr' heq
      generalize r.l = l at *
      go_wp2_with fail
      go_region
      all_goals
        go_wp2_with fail
        go_roundw
        case rel => exact ⟨k + 1, by omega, by go_num, hb.drew, hsz'⟩
        case measure => simp [intOf]; omega
    · go_wp2_with fail
      go_ret
      exact ⟨rfl, hb⟩
theorem rows2_head {w : World} {B n k : Nat} {A : Option Addr} {es : List BRow} (h : Rows2 w B A n es) (hk : k ≤ n) : Rows2 w B A k (es.take k) := by
  refine ⟨?_, fun r hr => h.2 r (List.mem_of_mem_take hr)⟩
  have := h.1.head hk
  rwa [← List.map_take] at this
theorem rows2_more {w : World} {B B' n : Nat} {A : Option Addr} {es : List BRow} (h : Rows2 w B A n es) (hB : B ≤ B') : Rows2 w B' A n es := ⟨h.1.more hB, fun r hr => (h.2 r hr).more hB⟩
end Go.Proofs.YtibleaaghhhjkaaDoor.Pc
