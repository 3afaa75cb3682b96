/- manifest.add, state.add, manifest.number: by contracts. -/
import Derived.Test.YtdipccjgpkedhaaStSame
import Derived.Test.YtdipccjgpkedhaaNum
import Derived.Test.YtdipccjgpkedhaaFour
namespace Go.Proofs.Ytdipccjgpkedhaa
open Go.RowKit
def AddOk (base n : Nat) (l : List UInt8) (w : World) (e : Ending) (w' : World) : Prop :=
  ∃ A c, e = .returned (.slice A n c) ∧ Hid (w'.ownsRow base 5 1 (.slice A n c) n (bv l)) ∧ Hid (∀ w0, Below base w0 w → Below base w0 w')
set_option maxRecDepth 100000 in
set_option maxHeartbeats 400000 in
theorem manAdd_any (base n c : Nat) (A : Option Addr) (l : List UInt8) (x : Nat) (hx : x < 4294967296) (w : World) (hown : w.ownsRow base 5 1 (.slice A n c) n (bv l)) (hb : base ≤ w.heap.size) (hn : n ≤ 1000000000) :
    Calls Try.prog 45 #[.slice A n c, .int .u32 (x : Int)] w (AddOk base (n + 4) (l ++ CrcM.four x) w) := by
  obtain ⟨i0, hi, hz0, hz1, hz2⟩ := info_parts Try.info5
  have HO := Lib.hid hown
  have HB := Lib.hid hb
  clear hown hb
  go_enter Try.func45, Try.ntmps45
  go_wp2_with (at_builtin; go_loud (refine wpList_app rfl (.tmp 5) (.tmp 17) 23 rfl base 5 i0 (.int .u8 0) 1 Try.underlying23 hi hz0 hz1 hz2 rfl _ n (bv l) rfl (HO.out.alloc _) _ _ 4 4 _ rfl (row_new w _ _ _) (by intro u hu; simp at hu; rcases hu with rfl | rfl | rfl | rfl <;> rfl) (by unfold maxLen; omega) (by omega) (by have := HB.out; simp; omega) ?_; intro v3 w3 hown3 hg3 hat3))
  go_ret
  obtain ⟨A3, c3, rfl, _⟩ := own_slice hown3
  have ev := four_cells x (by omega)
  refine ⟨A3, c3, rfl, ?_, fun w0 h0 => below_app (h0.alloc HB.out _) (by simp; have := HB.out; omega) (HO.out.alloc _) (Nat.le_refl _) hg3⟩
  show World.ownsRow _ _ _ _ _ _ _
  rw [bv_append, ← ev]
  exact hown3
set_option maxRecDepth 100000 in
set_option maxHeartbeats 400000 in
theorem stAdd_any (base n c : Nat) (A : Option Addr) (l : List UInt8) (x : Nat) (hx : x < 4294967296) (w : World) (hown : w.ownsRow base 5 1 (.slice A n c) n (bv l)) (hb : base ≤ w.heap.size) (hn : n ≤ 1000000000) :
    Calls Try.prog 21 #[.slice A n c, .int .u32 (x : Int)] w (AddOk base (n + 4) (l ++ CrcM.four x) w) := by
  obtain ⟨i0, hi, hz0, hz1, hz2⟩ := info_parts Try.info5
  have HO := Lib.hid hown
  have HB := Lib.hid hb
  clear hown hb
  go_enter Try.func21, Try.ntmps21
  go_wp2_with (at_builtin; go_loud (refine wpList_app rfl (.tmp 5) (.tmp 17) 23 rfl base 5 i0 (.int .u8 0) 1 Try.underlying23 hi hz0 hz1 hz2 rfl _ n (bv l) rfl (HO.out.alloc _) _ _ 4 4 _ rfl (row_new w _ _ _) (by intro u hu; simp at hu; rcases hu with rfl | rfl | rfl | rfl <;> rfl) (by unfold maxLen; omega) (by omega) (by have := HB.out; simp; omega) ?_; intro v3 w3 hown3 hg3 hat3))
  go_ret
  obtain ⟨A3, c3, rfl, _⟩ := own_slice hown3
  have ev := four_cells x (by omega)
  refine ⟨A3, c3, rfl, ?_, fun w0 h0 => below_app (h0.alloc HB.out _) (by simp; have := HB.out; omega) (HO.out.alloc _) (Nat.le_refl _) hg3⟩
  show World.ownsRow _ _ _ _ _ _ _
  rw [bv_append, ← ev]
  exact hown3
set_option maxRecDepth 100000 in
set_option maxHeartbeats 400000 in
theorem manNum_any (B n cap : Nat) (A : Option Addr) (l : List UInt8) (w : World) (hl : Row w B A n (bv l)) (hn4 : n ≤ 4) :
    Calls Try.prog 63 #[.slice A n cap] w fun e w' => e = .returned (.int .u32 (CrcM.number l : Nat)) ∧ w = w' := by
  have HS : Hid (isNum 0 0 l) := ⟨rfl, by decide⟩
  have HN := Lib.hid hl.blen
  go_enter Try.func63, Try.ntmps63
  go_wp2
  go_loop [3, 8] (fun v i => ∃ (k x : Nat), k ≤ n ∧ Hid (isNum k x l) ∧ i = .int .i64 k ∧ v = .int .u32 x) (fun _ i => n - (intOf i).toNat)
  case atStart => exact ⟨0, 0, by omega, HS, rfl, rfl⟩
  case round =>
    obtain ⟨k, x, hk, hx, rfl, rfl⟩ := hrel
    by_cases hlt : k < n
    · obtain ⟨b, o, rfl, _, hkl, hcell⟩ := hl.byteAt hlt
      obtain ⟨y, hy, hr⟩ := isNum_next hx.out hkl (by omega)
      have HY := Lib.hid hy
      clear hy
      have hb : (l[k].toNat : Int) ≤ 255 := by have := CrcM.b_lt l[k]; omega
      go_wp2
      go_round
      case rel => exact ⟨k + 1, y, by omega, hr, by go_num, HY.out⟩
      case measure => simp [intOf]; omega
    · have : n = k := by omega
      subst this
      go_wp2
      go_ret
      refine ⟨?_, rfl⟩
      have e := hx.out.1
      rw [List.take_of_length_le (by rw [HN.out]; omega)] at e
      rw [e]; rfl
end Go.Proofs.Ytdipccjgpkedhaa
