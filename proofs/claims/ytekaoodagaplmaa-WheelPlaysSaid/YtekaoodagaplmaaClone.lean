/- bytes.Clone: by contract. -/
import Derived.Test.YtekaoodagaplmaaFour
import Derived.Lib.SliceRun
import Derived.WalkSpells
import Derived.WalkLawsBesides
import Derived.Deep.DeepCutAuto
namespace Go.Proofs.Ytekaoodagaplmaa
open Go.RowKit
set_option maxHeartbeats 400000 in
theorem clone_any (B n cap : Nat) (A : Option Addr) (l : List UInt8) (w : World) (hl : Row w B A n (bv l)) (hn : n ≤ 1000000000) (hB : B ≤ w.heap.size) :
    Calls Try.prog 35 #[.slice A n cap] w (FreshBytes w.heap.size l w) := by
  obtain ⟨i0, hi, hz0, hz1, hz2⟩ := info_parts Try.info5
  have HB := Lib.hid hl.blen
  have hq : ∀ (w : World) (a : Option Addr) (n c : Nat), (binOp .eql 37 (.slice a n c) (.slice none 0 0)).run Try.prog w = .ok (.bool a.isNone) w := fun w a n c => Lib.run_eql_slice_nil w _ _ a n c 0 0 Try.underlying37
  cases A with
  | none =>
    have hn0 : n = 0 := by
      rcases Nat.eq_zero_or_pos n with h | h
      · exact h
      · obtain ⟨b, o, e, _⟩ := hl.cellAt (k := 0) h (u := (bv l)[0]'(by rw [hl.1]; omega)) (by simp)
        nomatch e
    subst hn0
    obtain rfl : l = [] := List.eq_nil_of_length_eq_zero HB.out
    go_enter Try.func35, Try.ntmps35
    go_wp2
    go_ret
    exact ⟨none, 0, 0, rfl, rfl, World.ownsRow_nil _ _ _ _, Below.refl _ _⟩
  | some a =>
    go_enter Try.func35, Try.ntmps35
    have hown0 : (w.alloc (.cells #[] 5)).ownsRow w.heap.size 5 1 (.slice (some ⟨w.heap.size, 0, none⟩) 0 0) 0 [] := own_lit (cs := #[]) rfl (Nat.le_refl _) rfl (by unfold maxLen; omega)
    go_wp2_with (at_builtin; refine wpList_app rfl (.tmp 5) (.tmp 6) 37 rfl w.heap.size 5 i0 (.int .u8 0) 1 Try.underlying37 hi hz0 hz1 hz2 rfl _ 0 [] rfl hown0 B (some a) n cap (bv l) rfl (hl.alloc hB _) (bv_one l) (by unfold maxLen; omega) (by omega) (by simp) ?_; intro v2 w2 hown2 hg2 hat2)
    obtain ⟨A2, c2, rfl, _⟩ := own_slice hown2
    have hb := below_app ((Below.refl w.heap.size w).alloc (Nat.le_refl _) (.cells #[] 5)) (by simp) hown0 (Nat.le_refl _) hg2
    go_ret
    exact ⟨A2, 0 + n, c2, rfl, (by show 0 + n = l.length; rw [HB.out]; omega), hown2, hb⟩
end Go.Proofs.Ytekaoodagaplmaa
