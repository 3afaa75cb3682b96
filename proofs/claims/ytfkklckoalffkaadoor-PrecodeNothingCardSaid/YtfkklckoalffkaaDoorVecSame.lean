/- slices.Equal, slices.Clone at []uint64; vec's Same, Copy: by contract. -/
import Derived.Test.YtfkklckoalffkaaDoorVecList
import Derived.Lib.SliceRun
import Derived.Deep.RegionHeld3
namespace Go.Proofs.YtfkklckoalffkaaDoor.Vc
open Go.RowKit
open VecM
def QB (B : Bool) (w : World) (e : Ending) (w' : World) : Prop := e = .returned (.bool B) ∧ ∃ q, w' = w.drewN q
theorem drewN_zero (w : World) : w.drewN 0 = w := rfl
set_option maxRecDepth 100000 in
set_option maxHeartbeats 1600000 in
theorem equal_any (m ca cb ha hb : Nat) (a b : Nat → Nat) (B : Bool) (w : World) (h1 : ∀ k, k < m → w.cell? ⟨ha, k, none⟩ = some (.int .u64 (a k : Int))) (h2 : ∀ k, k < m → w.cell? ⟨hb, k, none⟩ = some (.int .u64 (b k : Int))) (hm : m ≤ 4) (hB : B = decide (∀ k, k < m → a k = b k)) :
    Calls Tryd.prog 41 #[.slice (some ⟨ha, 0, none⟩) m ca, .slice (some ⟨hb, 0, none⟩) m cb] w (QB B w) := by
  have H1 := Lib.hid h1
  have H2 := Lib.hid h2
  have HB := Lib.hid hB
  clear h1 h2 hB
  go_enter Tryd.func41, Tryd.ntmps41
  go_wp2_with fail
  go_loopw [13] (fun i wr => ∃ k q : Nat, k ≤ m ∧ i = .int .i64 k ∧ wr = w.drewN q ∧ Hid (∀ j, j < k → a j = b j)) (fun i _ => m - (intOf i).toNat)
  case atStart => exact ⟨0, 0, by omega, rfl, rfl, fun j hj => by omega⟩
  case round =>
    obtain ⟨k, q, hk, rfl, rfl, hE⟩ := hrel
    by_cases hlt : k < m
    · have c1 := H1.out k hlt
      have c2 := H2.out k hlt
      have hlt' : (k : Int) < (m : Int) := by omega
      have hk0 : (0 : Int) ≤ (k : Int) := by omega
      by_cases he : a k = b k
      · rw [← he] at c2
        have hN : Hid (∀ j, j < k + 1 → a j = b j) := fun j hj => by
          rcases Nat.lt_succ_iff_lt_or_eq.1 hj with h | h
          · exact hE.out j h
          · subst h; exact he
        generalize a k = x at *
        clear he hE
        go_wp2_with fail
        go_quiet (fail)
        go_wp2_with fail
        go_roundw
        case rel => exact ⟨k + 1, _, by omega, by go_num, rfl, hN⟩
        case measure => simp [intOf]; omega
      · have hne : ((a k : Int) != (b k : Int)) = true := by simp; omega
        have hF : Hid (B = false) := by
          show _ = _
          rw [HB.out, decide_eq_false_iff_not]
          exact fun h => he (h k hlt)
        generalize a k = x at *
        generalize b k = y at *
        clear he hE
        go_wp2_with fail
        go_quiet (fail)
        go_wp2_with fail
        go_ret
        exact ⟨by rw [hF.out]; rfl, q + nq, World.drewN_drewN _ _ _⟩
    · obtain rfl : m = k := by omega
      have hF : Hid (B = true) := by
        show _ = _
        rw [HB.out, decide_eq_true_iff]
        exact hE.out
      clear hE
      go_wp2_with fail
      go_ret
      exact ⟨by rw [hF.out]; rfl, q, rfl⟩
theorem equal_vec {g h n X g' h' Y ca cb : Nat} {w : World} (v : VecAt w g h n X) (u : VecAt w g' h' n Y) :
    Calls Tryd.prog 41 #[.slice (some ⟨h, 0, none⟩) (mw n) ca, .slice (some ⟨h', 0, none⟩) (mw n) cb] w (QB (decide (X = Y)) w) :=
  equal_any (mw n) ca cb h h' (word X) (word Y) _ w (fun k hk => v.at_ hk) (fun k hk => u.at_ hk) (mw_le v.1) (by
    rw [Bool.eq_iff_iff, decide_eq_true_iff, decide_eq_true_iff]
    exact ⟨fun e k _ => by rw [e], fun e => ext_words v.2.1 u.2.1 (by unfold mw; omega) e⟩)
set_option maxRecDepth 100000 in
theorem same_nn (w : World) : Calls Tryd.prog 14 #[.pointer none, .pointer none] w (QB true w) := by
  go_enter Tryd.func14, Tryd.ntmps14
  go_wp2_with fail
  go_ret
  exact ⟨rfl, 0, rfl⟩
theorem equalIn_nil_some {P : Program} (w : World) (d : Nat) (t : TypeId) (a : Addr) (h : P.underlying t = some (.pointer (P.pointee t))) : (Op.equalIn (d + 1) t (.pointer none) (.pointer (some a))).run P w = .ok false w := by
  simp [Op.equalIn, run_underlying h]
theorem eql_nil_some {P : Program} (w : World) (t : TypeId) (a : Addr) (h : P.underlying t = some (.pointer (P.pointee t))) : (binOp .eql t (.pointer none) (.pointer (some a))).run P w = .ok (.bool false) w := by
  have e : (Op.equal t (.pointer none) (.pointer (some a))).run P w = .ok false w := equalIn_nil_some w 9999 t a h
  simp only [binOp]
  simp [e]
set_option maxRecDepth 100000 in
theorem same_nv (a : Addr) (w : World) : Calls Tryd.prog 14 #[.pointer none, .pointer (some a)] w (QB false w) := by
  have hq : ∀ w : World, (binOp .eql 26 (.pointer none) (.pointer (some a))).run Tryd.prog w = .ok (.bool false) w := fun w => eql_nil_some w _ a (by kernel_rfl)
  go_enter Tryd.func14, Tryd.ntmps14
  go_wp2_with fail
  go_ret
  exact ⟨rfl, 0, rfl⟩
set_option maxRecDepth 100000 in
theorem same_vn (a : Addr) (w : World) : Calls Tryd.prog 14 #[.pointer (some a), .pointer none] w (QB false w) := by
  go_enter Tryd.func14, Tryd.ntmps14
  go_wp2_with fail
  go_ret
  exact ⟨rfl, 0, rfl⟩
theorem quiet_QB {P : Program} {f : FuncId} {args : Array Value} {w : World} {n : Nat} {B : Bool} (h : Calls P f args (w.drewN n) (QB B (w.drewN n))) : Calls P f args (w.drewN n) fun e w'' => e = .returned (.bool B) ∧ ∃ m, w'' = w.drewN m :=
  Calls.quiet_of (h.mono fun _ _ h => h)
set_option maxRecDepth 100000 in
set_option maxHeartbeats 1600000 in
theorem same_vv (g h n X g' h' Y : Nat) (w : World) (v : VecAt w g h n X) (u : VecAt w g' h' n Y) : Calls Tryd.prog 14 #[.pointer (some ⟨g, 0, none⟩), .pointer (some ⟨g', 0, none⟩)] w (QB (decide (X = Y)) w) := by
  obtain ⟨cap, _, _, c0, c1⟩ := v.cells
  obtain ⟨cap2, _, _, d0, d1⟩ := u.cells
  have HE := Lib.hid (fun q => equal_vec (ca := cap) (cb := cap2) (v.drewN q) (u.drewN q))
  clear v u
  generalize decide (X = Y) = B at *
  go_enter Tryd.func14, Tryd.ntmps14
  go_wp2_with fail
  go_quiet ((go_at_call 41; exact quiet_QB (HE.out _)))
  go_wp2_with fail
  go_ret
  exact ⟨rfl, _, rfl⟩
set_option maxRecDepth 100000 in
set_option maxHeartbeats 1600000 in
theorem same_ne (g h n X g' h' n' Y : Nat) (w : World) (v : VecAt w g h n X) (u : VecAt w g' h' n' Y) (hn : n ≠ n') : Calls Tryd.prog 14 #[.pointer (some ⟨g, 0, none⟩), .pointer (some ⟨g', 0, none⟩)] w (QB false w) := by
  obtain ⟨cap, _, _, c0, c1⟩ := v.cells
  obtain ⟨cap2, _, _, d0, d1⟩ := u.cells
  have hne : ((n : Int) == (n' : Int)) = false := by simp; omega
  clear v u hn
  go_enter Tryd.func14, Tryd.ntmps14
  go_wp2_with fail
  go_quiet (fail)
  go_wp2_with fail
  go_ret
  exact ⟨rfl, _, rfl⟩
end Go.Proofs.YtfkklckoalffkaaDoor.Vc
