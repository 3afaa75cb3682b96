/- manifest.Plain: by contract. -/
import Derived.Test.YtdipccjgpkedhaaManBytes
namespace Go.Proofs.Ytdipccjgpkedhaa
open Go.RowKit
theorem man_bounds {l z p : Int} {n : Nat} (h : manB l z p n = true) : ∃ L Z P : Nat, l = L ∧ z = Z ∧ p = P ∧ 1 ≤ L ∧ L ≤ 512 ∧ 1 ≤ Z ∧ Z ≤ 16 ∧ P ≤ 16 ∧ n = 32 := by
  simp only [manB, ofB, mayB, Bool.and_eq_true, decide_eq_true_eq] at h
  obtain ⟨⟨⟨⟨h1, h2⟩, h3, h4⟩, h5, h6⟩, h7⟩ := h
  unfold BlkM.count at h1 h2
  split at h1
  · omega
  · next h9 =>
    split at h1
    · omega
    · exact ⟨l.toNat, z.toNat, p.toNat, by omega, by omega, by omega, by omega, by omega, by omega, by omega, by omega, h7⟩
def plainB (s v L Z P : Nat) (h : List UInt8) : List UInt8 := CrcM.four s ++ CrcM.four v ++ [UInt8.ofNat (L / 256), UInt8.ofNat L, UInt8.ofNat Z, UInt8.ofNat P] ++ h
set_option maxRecDepth 100000 in
set_option maxHeartbeats 400000 in
theorem plain_no (s v : Nat) (l z p : Int) (A : Option Addr) (n c : Nat) (w : World) (h : manB l z p n = false) :
    Calls Try.prog 23 #[.agg #[.int .u32 (s : Int), .int .u32 (v : Int), .int .i64 l, .int .i64 z, .int .i64 p, .slice A n c]] w fun e w' => e = .returned (.tuple #[.slice none 0 0, .int .i64 1]) ∧ Below w.heap.size w w' := by
  have HM := Lib.hid h
  clear h
  go_enter Try.func23, Try.ntmps23
  go_wp2_with fail
  refine (manMay_any s v l z p A n c _).mono ?_
  rintro e w1 ⟨rfl, hb1⟩
  rw [HM.out]
  have HB : Hid (Below w.heap.size w w1) := ((Below.refl _ _).alloc (Nat.le_refl _) _).trans (hb1.mono (by simp))
  clear hb1
  go_wp2_with fail
  go_ret2
  exact ⟨rfl, HB.out⟩
def PlainOk (l : List UInt8) (w : World) (e : Ending) (w' : World) : Prop :=
  ∃ A c, e = .returned (.tuple #[.slice A 44 c, .int .i64 0]) ∧ Hid (w'.ownsRow w.heap.size 5 1 (.slice A 44 c) 44 (bv l)) ∧ Hid (Below w.heap.size w w')
set_option maxRecDepth 100000 in
set_option maxHeartbeats 800000 in
theorem plain_yes (s v L Z P : Nat) (A : Option Addr) (c B : Nat) (h : List UInt8) (w : World) (hs : s < 4294967296) (hv : v < 4294967296) (hL : L ≤ 512) (hZ : Z ≤ 16) (hP : P ≤ 16) (hm : manB L Z P 32 = true) (hl : Row w B A 32 (bv h)) (hB : B ≤ w.heap.size) :
    Calls Try.prog 23 #[.agg #[.int .u32 (s : Int), .int .u32 (v : Int), .int .i64 (L : Int), .int .i64 (Z : Int), .int .i64 (P : Int), .slice A 32 c]] w (PlainOk (plainB s v L Z P h) w) := by
  obtain ⟨i0, hi, hz0, hz1, hz2⟩ := info_parts Try.info5
  have HM := Lib.hid hm
  have HL := Lib.hid hl
  have HBB := Lib.hid hB
  have HX := Lib.hid (heap_alloc_new w (.cells #[.int .u32 (s : Int), .int .u32 (v : Int), .int .i64 (L : Int), .int .i64 (Z : Int), .int .i64 (P : Int), .slice A 32 c] 28))
  clear hm hl hB
  go_enter Try.func23, Try.ntmps23
  go_wp2_with fail
  refine (manMay_any s v L Z P A 32 c _).mono ?_
  rintro e w1 ⟨rfl, hb1⟩
  rw [HM.out]
  have HB : Hid (Below w.heap.size w w1) := ((Below.refl _ _).alloc (Nat.le_refl _) _).trans (hb1.mono (by simp))
  have HX1 := Lib.hid ((hb1.block w.heap.size (by simp)).trans HX.out)
  have hlt : w.heap.size < w1.heap.size := by have := hb1.size; simp at this; omega
  clear hb1 HX
  have HBX : Hid (∀ W, Below w1.heap.size w1 W → W.cell? ⟨w.heap.size, 0, none⟩ = some (.int .u32 (s : Int)) ∧ W.cell? ⟨w.heap.size, 1, none⟩ = some (.int .u32 (v : Int)) ∧ W.cell? ⟨w.heap.size, 2, none⟩ = some (.int .i64 (L : Int)) ∧ W.cell? ⟨w.heap.size, 3, none⟩ = some (.int .i64 (Z : Int)) ∧ W.cell? ⟨w.heap.size, 4, none⟩ = some (.int .i64 (P : Int)) ∧ W.cell? ⟨w.heap.size, 5, none⟩ = some (.slice A 32 c)) := by
    intro W hW
    exact bx6 ((hW.block w.heap.size hlt).trans HX1.out)
  have HLW : Hid (∀ W, Below w1.heap.size w1 W → Row W B A 32 (bv h)) := fun W hW => HL.out.below ((HB.out.trans (hW.mono HB.out.size)).mono HBB.out)
  clear HX1 HL
  go_wp2_with (at_make; refine wpList_make_own _ rfl _ _ 23 rfl w1.heap.size 5 i0 (.int .u8 0) 1 Try.underlying23 hi hz0 hz1 .i64 .i64 44 44 rfl rfl rfl (by rw [hz2]; omega) (by unfold maxLen; omega) (Nat.le_refl _) ?_; intro w2 hown2 hg2; have HW2 := Lib.hid ((Below.refl w1.heap.size w1).grown hg2 (Nat.le_refl _) (by intro g h; cases h)); have HO2 := Lib.hid hown2; obtain ⟨a0, a1, a2, a3, a4, a5⟩ := HBX.out _ HW2.out; clear hown2 hg2)
  clear a0 a1 a2 a3 a4 a5
  refine (manAdd_any w1.heap.size 0 44 _ [] s hs w2 HO2.out HW2.out.size (by omega)).mono ?_
  rintro e w3 ⟨A3, c3, rfl, O3, hb3⟩
  have HW3 := Lib.hid (hb3.out _ HW2.out)
  obtain ⟨a0, a1, a2, a3, a4, a5⟩ := HBX.out _ HW3.out
  clear hb3 HO2 HW2
  go_wp2_with fail
  clear a0 a1 a2 a3 a4 a5
  refine (manAdd_any w1.heap.size 4 c3 A3 _ v hv w3 O3.out HW3.out.size (by omega)).mono ?_
  rintro e w4 ⟨A4, c4, rfl, O4, hb4⟩
  have HW4 := Lib.hid (hb4.out _ HW3.out)
  obtain ⟨a0, a1, a2, a3, a4, a5⟩ := HBX.out _ HW4.out
  clear hb4 O3 HW3
  go_wp2_with (first
    | (at_builtin; go_loud (refine wpList_app rfl (.tmp 17) (.tmp 31) 23 rfl w1.heap.size 5 i0 (.int .u8 0) 1 Try.underlying23 hi hz0 hz1 hz2 rfl _ 8 (bv _) rfl (O4.out.alloc _) _ _ 4 4 _ rfl (row_new w4 _ _ _) (by intro u hu; simp at hu; rcases hu with rfl | rfl | rfl | rfl <;> rfl) (by unfold maxLen; omega) (by omega) (by have := HW4.out.size; simp; omega) ?_; intro v5 w5 hown5 hg5 hat5; have O5 := Lib.hid hown5; have HW5 := Lib.hid (below_app (HW4.out.alloc HW4.out.size _) (by simp; have := HW4.out.size; omega) (O4.out.alloc _) (Nat.le_refl _) hg5); obtain ⟨A5, c5, rfl, _⟩ := own_slice hown5; clear hown5 hg5 hat5; obtain ⟨b0, b1, b2, b3, b4, b5⟩ := HBX.out _ HW5.out))
    | (at_builtin; refine wpList_app rfl (.tmp 33) (.tmp 35) 23 rfl w1.heap.size 5 i0 (.int .u8 0) 1 Try.underlying23 hi hz0 hz1 hz2 rfl _ 12 _ rfl O5.out B A 32 c (bv h) rfl (HLW.out _ HW5.out) (bv_one _) (by unfold maxLen; omega) (by omega) HW5.out.size ?_; intro v6 w6 hown6 hg6 hat6; obtain ⟨A6, c6, rfl, _⟩ := own_slice hown6; have O6 := Lib.hid hown6; have HW6 := Lib.hid (below_app HW5.out HW5.out.size O5.out (Nat.le_refl _) hg6); clear hown6 hg6 hat6))
  go_ret2
  refine ⟨A6, c6, rfl, ?_, HB.out.trans (HW6.out.mono HB.out.size)⟩
  have O7 := own_base O6.out HB.out.size
  have e4 : bv [UInt8.ofNat (L / 256), UInt8.ofNat L, UInt8.ofNat Z, UInt8.ofNat P] = [Value.int IntKind.u8 ((L : Int) / 256), Value.int IntKind.u8 ((L : Int) % 256), Value.int IntKind.u8 (Z : Int), Value.int IntKind.u8 (P : Int)] := by
    simp [bv]
    omega
  show World.ownsRow _ _ _ _ _ _ _
  unfold plainB
  rw [bv_append, bv_append, e4]
  exact O7
end Go.Proofs.Ytdipccjgpkedhaa
