/- elim.New: by contract. -/
import Derived.Test.YtgeodhffgbhmaaaDoorElBase
namespace Go.Proofs.YtgeodhffgbhmaaaDoor.El
open Go.RowKit
open VecM Vc
set_option maxRecDepth 100000 in
set_option maxHeartbeats 800000 in
theorem newM_bad (n z : Int) (w : World) (h : n < 1 ∨ 256 < n ∨ z < 1 ∨ 16 < z) : Calls Tryd.prog 8 #[.int .i64 n, .int .i64 z] w fun e w' => e = .returned (.pointer none) ∧ w = w' := by
  by_cases h1 : n < 1
  · clear h
    go_enter Tryd.func8, Tryd.ntmps8
    go_wp2_with fail
    go_ret
    exact ⟨rfl, rfl⟩
  by_cases h2 : 256 < n
  · clear h
    go_enter Tryd.func8, Tryd.ntmps8
    go_wp2_with fail
    go_ret
    exact ⟨rfl, rfl⟩
  by_cases h3 : z < 1
  · clear h
    go_enter Tryd.func8, Tryd.ntmps8
    go_wp2_with fail
    go_ret
    exact ⟨rfl, rfl⟩
  · have h4 : 16 < z := by omega
    clear h
    go_enter Tryd.func8, Tryd.ntmps8
    go_wp2_with fail
    go_ret
    exact ⟨rfl, rfl⟩
def NewMOk (n z : Nat) (w : World) (e : Ending) (w' : World) : Prop :=
  ∃ gm gr, e = .returned (.pointer (some ⟨gm, 0, none⟩)) ∧ Hid (MatAt w' (fun b => w.heap.size ≤ b ∧ b < w'.heap.size) gm gr n z (List.replicate n none)) ∧ Hid (Below w.heap.size w w')
set_option maxRecDepth 100000 in
set_option maxHeartbeats 800000 in
theorem newM_ok (n z : Nat) (w : World) (hn : 1 ≤ n ∧ n ≤ 256) (hz : 1 ≤ z ∧ z ≤ 16) : Calls Tryd.prog 8 #[.int .i64 (n : Int), .int .i64 (z : Int)] w (NewMOk n z w) := by
  obtain ⟨C, hC, hc, hmk⟩ := made_rows n hn.2
  have hn1 : (1 : Int) ≤ (n : Int) := by omega
  have hn2 : (n : Int) ≤ 256 := by omega
  have hz1 : (1 : Int) ≤ (z : Int) := by omega
  have hz2 : (z : Int) ≤ 16 := by omega
  have HN := Lib.hid hn
  have HZ := Lib.hid hz
  have HC := Lib.hid hC
  have HCC := Lib.hid hc
  clear hn hz hC hc
  go_enter Tryd.func8, Tryd.ntmps8
  go_wp2_with fail
  go_ret
  refine ⟨w.heap.size + 1, w.heap.size, rfl, ?_, ((Below.refl _ _).alloc (Nat.le_refl _) _).alloc (by simp) _⟩
  have hsz : ((w.alloc (.cells C 73)).alloc (.cells #[.int .i64 (n : Int), .int .i64 (z : Int), .slice (some ⟨w.heap.size, 0, none⟩) n n, .int .i64 0] 69)).heap.size = w.heap.size + 2 := by simp
  refine ⟨HN.out.1, HN.out.2, HZ.out.1, HZ.out.2, by simp, ?_, ⟨C, heap_alloc2_old w _ _, HC.out, fun i hi => ?_⟩, fun i r hr => ?_, fun i j r s _ hr => ?_, ⟨by simp, by rw [hsz]; simp⟩, ⟨Nat.le_refl _, by rw [hsz]; omega⟩⟩
  · rw [rankE_rep]
    have := heap_alloc2_new w (.cells C 73) (.cells #[.int .i64 (n : Int), .int .i64 (z : Int), .slice (some ⟨w.heap.size, 0, none⟩) n n, .int .i64 0] 69)
    simpa using this
  · have e : (List.replicate n (none : Option ER)).getD i none = none := by rw [List.getD_eq_getElem?_getD, List.getElem?_replicate]; split <;> rfl
    rw [e]
    exact HCC.out i hi
  · rw [List.getElem?_replicate] at hr
    split at hr <;> cases hr
  · rw [List.getElem?_replicate] at hr
    split at hr <;> cases hr
end Go.Proofs.YtgeodhffgbhmaaaDoor.El
