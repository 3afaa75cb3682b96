/- crc.number, crc.Put, crc.Right: by contracts. -/
import Derived.Test.YtekaoodagaplmaaCrcWalks
import Derived.Test.YtekaoodagaplmaaCrcTellsMath
import Derived.Test.YtekaoodagaplmaaOwn
import Derived.Test.YtekaoodagaplmaaFour
import Derived.Test.YtekaoodagaplmaaNum
import Derived.BigQuiet
import Derived.Deep.QuietTactic
namespace Go.Proofs.Ytekaoodagaplmaa
open Go.RowKit


set_option maxRecDepth 100000 in
set_option maxHeartbeats 400000 in
theorem put_any (B n cap : Nat) (A : Option Addr) (l : List UInt8) (w : World) (hl : Row w B A n (bv l)) (hn : n ≤ 1000000000000) (hB : B ≤ w.heap.size) :
    Calls Try.prog 50 #[.slice A n cap] w (FreshBytes w.heap.size (l ++ CrcM.four (CrcM.sum l)) w) := by
  obtain ⟨i0, hi, hz0, hz1, hz2⟩ := info_parts Try.info5
  have hsum := CrcM.sum_lt l
  go_enter Try.func50, Try.ntmps50
  go_wp2_with fail
  refine (sum_any B n cap A l _ hl (by omega)).mono ?_
  rintro e w' ⟨rfl, rfl⟩
  go_wp2_with (first
    | (at_make; refine wpList_make_own _ rfl _ _ 37 rfl w.heap.size 5 i0 (.int .u8 0) 1 Try.underlying37 hi hz0 hz1 .i64 .i64 _ (n + 4) rfl rfl (by omega) (by rw [hz2]; omega) (by unfold maxLen; omega) (Nat.le_refl _) ?_; intro w1 hown1 hg1)
    | (at_builtin; (refine wpList_app rfl (.tmp 11) (.tmp 12) 37 rfl w.heap.size 5 i0 (.int .u8 0) 1 Try.underlying37 hi hz0 hz1 hz2 rfl _ 0 [] rfl hown1 B A n cap (bv l) rfl (hl.grown hg1 hB (by intro g h; cases h)) (bv_one l) (by unfold maxLen; omega) (by omega) hg1.size ?_; intro v2 w2 hown2 hg2 hat2))
    | (at_builtin; go_loud (refine wpList_app rfl (.tmp 14) (.tmp 26) 37 rfl w.heap.size 5 i0 (.int .u8 0) 1 Try.underlying37 hi hz0 hz1 hz2 rfl v2 (0 + n) ([] ++ bv l) rfl (hown2.alloc _) _ _ 4 4 _ rfl (row_new w2 _ _ _) (by intro u hu; simp at hu; rcases hu with rfl | rfl | rfl | rfl <;> rfl) (by unfold maxLen; omega) (by omega) (by have := hg1.size; have := hg2.size; simp; omega) ?_; intro v3 w3 hown3 hg3 hat3)))
  go_ret
  have hb1 : Below w.heap.size w w1 := (Below.refl _ _).grown hg1 (Nat.le_refl _) (by intro g h; cases h)
  have hb2 : Below w.heap.size w w2 := below_app hb1 hb1.size hown1 (Nat.le_refl _) hg2
  have hb3 := below_app (hb2.alloc hb2.size _) (by simp; have := hb2.size; omega) (hown2.alloc _) (Nat.le_refl _) hg3
  have hbl := hl.blen
  obtain ⟨A3, c3, rfl, _⟩ := own_slice hown3
  have el : 0 + n + 4 = (l ++ CrcM.four (CrcM.sum l)).length := by simp [CrcM.four]; omega
  refine ⟨A3, 0 + n + 4, c3, rfl, el, ?_, hb3⟩
  have ev := four_cells (CrcM.sum l) (by omega)
  simp only [List.nil_append] at hown3
  rw [bv_append, ← ev]
  exact hown3

set_option maxRecDepth 100000 in
set_option maxHeartbeats 400000 in
theorem number_any (B cap : Nat) (A : Option Addr) (l : List UInt8) (w : World) (hl : Row w B A 4 (bv l)) :
    Calls Try.prog 59 #[.slice A 4 cap] w fun e w' => e = .returned (.int .u32 (CrcM.number l : Nat)) ∧ w = w' := by
  have HS : Hid (isNum 0 0 l) := ⟨rfl, by decide⟩
  have HN := Lib.hid hl.blen
  go_enter Try.func59, Try.ntmps59
  go_wp2
  go_loop [3, 8] (fun v i => ∃ (k x : Nat), k ≤ 4 ∧ Hid (isNum k x l) ∧ i = .int .i64 k ∧ v = .int .u32 x) (fun _ i => 4 - (intOf i).toNat)
  case atStart => exact ⟨0, 0, by omega, HS, rfl, rfl⟩
  case round =>
    obtain ⟨k, x, hk, hx, rfl, rfl⟩ := hrel
    by_cases hlt : k < 4
    · obtain ⟨b, o, rfl, _, hkl, hcell⟩ := hl.byteAt hlt
      obtain ⟨y, hy, hr⟩ := isNum_next hx.out hkl hlt
      have HY := Lib.hid hy
      clear hy
      have hb : (l[k].toNat : Int) ≤ 255 := by have := CrcM.b_lt l[k]; omega
      go_wp2
      go_round
      case rel => exact ⟨k + 1, y, by omega, hr, by go_num, HY.out⟩
      case measure => simp [intOf]; omega
    · have : k = 4 := by omega
      subst this
      go_wp2
      go_ret
      refine ⟨?_, rfl⟩
      have e := hx.out.1
      rw [List.take_of_length_le (by rw [HN.out]; omega)] at e
      rw [e]; rfl

def RightNo (w : World) (e : Ending) (w' : World) : Prop := e = .returned (.tuple #[.slice none 0 0, .bool false]) ∧ Below w.heap.size w w'
def RightYes (m : List UInt8) (w : World) (e : Ending) (w' : World) : Prop :=
  ∃ A n cap, e = .returned (.tuple #[.slice A n cap, .bool true]) ∧ Hid (n = m.length) ∧ w'.ownsRow w.heap.size 5 1 (.slice A n cap) n (bv m) ∧ Below w.heap.size w w'
set_option maxHeartbeats 400000 in
abbrev isRight (l : List UInt8) : Prop := CrcM.right l
set_option maxRecDepth 100000 in
theorem right_no (B n cap : Nat) (A : Option Addr) (l : List UInt8) (w : World) (hl : Row w B A n (bv l)) (hn : n ≤ cap) (hcap : cap ≤ 9223372036854775807) (_ : B ≤ w.heap.size) (hR : ¬ isRight l) :
    Calls Try.prog 55 #[.slice A n cap] w (RightNo w) := by
  have HR := Lib.hid hR
  clear hR
  by_cases h4 : n < 4
  · go_enter Try.func55, Try.ntmps55
    go_wp2
    go_ret2
    exact ⟨rfl, Below.refl _ _⟩
  · have hbl := hl.blen
    obtain ⟨k, rfl⟩ : ∃ k, n = k + 4 := ⟨n - 4, by omega⟩
    have hne : CrcM.sum (l.take k) ≠ CrcM.number (l.drop k) := by
      intro h
      refine HR.out ⟨by omega, ?_⟩
      rw [hbl]; exact h
    have HL := Lib.hid hbl
    have HNE : Hid (((CrcM.sum (l.take k) : Nat) : Int) != ((CrcM.number (l.drop k) : Nat) : Int)) := by
      exact bne_iff_ne.2 fun h => hne (Int.ofNat.inj h)
    have hk : (k : Int) ≤ cap := by omega
    clear hbl hne
    go_enter Try.func55, Try.ntmps55
    go_wp2
    go_quiet (fail)
    go_wp2_with fail
    refine (sum_any B k cap A (l.take k) _ (show Row _ B A k (bv (l.take k)) by rw [← bv_take]; exact (hl.head (by omega)).drewN nq) (by omega)).mono ?_
    rintro e w' ⟨rfl, rfl⟩
    go_wp2_with fail
    refine (number_any B _ _ (l.drop k) _ (show Row _ B _ 4 (bv (l.drop k)) by rw [← bv_drop]; exact (row_drop4 hl).drewN nq)).mono ?_
    rintro e w' ⟨rfl, rfl⟩
    have hne := HNE.out
    go_wp2
    go_ret2
    exact ⟨rfl, below_drewN (Below.refl _ _) nq⟩
set_option maxRecDepth 100000 in
set_option maxHeartbeats 400000 in
theorem right_yes (B n cap : Nat) (A : Option Addr) (l : List UInt8) (w : World) (hl : Row w B A n (bv l)) (hn : n ≤ cap) (_ : cap ≤ 9223372036854775807) (hs : n ≤ 1000000000000) (_ : B ≤ w.heap.size) (hR : isRight l) :
    Calls Try.prog 55 #[.slice A n cap] w (RightYes (l.take (l.length - 4)) w) := by
  obtain ⟨i0, hi, hz0, hz1, hz2⟩ := info_parts Try.info5
  obtain ⟨hR1, hR2⟩ := hR
  have hbl := hl.blen
  obtain ⟨k, rfl⟩ : ∃ k, n = k + 4 := ⟨n - 4, by omega⟩
  rw [hbl, show k + 4 - 4 = k by omega] at hR2 ⊢
  have HL := Lib.hid hbl
  have HNE : Hid ((((CrcM.sum (l.take k) : Nat) : Int) != ((CrcM.number (l.drop k) : Nat) : Int)) = false) := by
    rw [hR2]; exact bne_self_eq_false _
  have hk : (k : Int) ≤ cap := by omega
  clear hbl hR1 hR2
  go_enter Try.func55, Try.ntmps55
  go_wp2
  go_quiet (fail)
  go_wp2_with fail
  have hrow : Row (w.drewN nq) B A k (bv (l.take k)) := by rw [← bv_take]; exact (hl.head (by omega)).drewN nq
  refine (sum_any B k cap A (l.take k) _ hrow (by omega)).mono ?_
  rintro e w' ⟨rfl, rfl⟩
  go_wp2_with fail
  refine (number_any B _ _ (l.drop k) _ (show Row _ B _ 4 (bv (l.drop k)) by rw [← bv_drop]; exact (row_drop4 hl).drewN nq)).mono ?_
  rintro e w' ⟨rfl, rfl⟩
  have hne := HNE.out
  have hb0 : Below w.heap.size w (w.drewN nq) := below_drewN (Below.refl _ _) nq
  have hs0 : w.heap.size ≤ (w.drewN nq).heap.size := hb0.size
  go_wp2_with (at_builtin; refine wpList_app rfl _ _ 37 rfl w.heap.size 5 i0 (.int .u8 0) 1 Try.underlying37 hi hz0 hz1 hz2 rfl _ 0 [] rfl (World.ownsRow_nil _ _ _ _) B A k cap (bv (l.take k)) rfl hrow (bv_one _) (by unfold maxLen; omega) (by omega) hs0 ?_; intro v2 w2 hown2 hg2 hat2)
  obtain ⟨A2, c2, rfl, _⟩ := own_slice hown2
  go_ret2
  have el : 0 + k = (l.take k).length := by rw [List.length_take, HL.out]; omega
  have hb2 : Below w.heap.size w w2 := hb0.grown hg2 hb0.size (by intro g h; nomatch h)
  rw [List.nil_append] at hown2
  exact ⟨A2, 0 + k, c2, rfl, el, hown2, hb2⟩
theorem bv_bend (p : List UInt8) (i : Nat) (x : UInt8) : (bv p).set i (.int .u8 (bits .xor .u8 ((p.getD i 0).toNat : Int) (x.toNat : Int))) = bv (CrcM.bend p i x) := by
  rw [u8_xor_nat _ _ (CrcM.b_lt _) (CrcM.b_lt _), ← UInt8.toNat_xor]
  simp only [bv, CrcM.bend, List.map_set]
end Go.Proofs.Ytekaoodagaplmaa
