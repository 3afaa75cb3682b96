/- The reference's MayState: by contract. -/
import Derived.Test.YtdipccjgpkedhaaRSlot1
namespace Go.Proofs.Ytdipccjgpkedhaa
open Go.RowKit
theorem slots_eq (trial : Int) (v0 : Nat) (l0 : Int) (h0 : List UInt8) (v1 : Nat) (l1 : Int) (h1 : List UInt8) (n0 n1 : Nat) (e0 : h0.length = n0) (e1 : h1.length = n1) (ht : 0 ≤ trial) :
    (filledB l0 n0 && (filledB l1 n1 || (decide (trial = 0) && emptyB v1 l1 h1))) = (rslotB v0 l0 n0 && rslotB v1 l1 n1 && !decide (n0 = 0) && !(decide (0 < trial) && decide (n1 = 0))) := by
  subst e0 e1
  have hf : filledB l0 0 = false := by simp [filledB]
  have hf1 : filledB l1 0 = false := by simp [filledB]
  have a0 : decide (0 < trial) = !decide (trial = 0) := by
    by_cases h : trial = 0
    · subst h; rfl
    · rw [decide_eq_false h, decide_eq_true (show 0 < trial by omega)]; rfl
  by_cases z0 : h0.length = 0
  · rw [z0, hf]; simp
  by_cases z1 : h1.length = 0
  · have z2 : h1 = [] := List.eq_nil_of_length_eq_zero z1
    subst z2
    have he : emptyB v1 l1 [] = decide (l1 = 0 ∧ v1 = 0) := by simp [emptyB, and_comm]
    rw [a0, he]
    simp only [List.length_nil, hf1, rslotB, z0, if_false, if_true, decide_true, decide_false, Bool.false_or, Bool.not_false, Bool.and_true, Bool.not_not]
    cases filledB l0 h0.length <;> cases decide (l1 = 0 ∧ v1 = 0) <;> cases decide (trial = 0) <;> rfl
  · have he : emptyB v1 l1 h1 = false := by
      simp only [emptyB, decide_eq_false_iff_not]
      rintro ⟨_, _, rfl⟩
      exact z1 rfl
    rw [he]
    simp [rslotB, z0, z1]
theorem bx17x {w : World} {g : Nat} {t : TypeId} {a0 a1 a2 a3 a4 a5 a6 a7 a8 a9 a10 a11 a12 a13 a14 a15 a16 : Value} (h : w.heap[g]? = some (.cells #[a0, a1, a2, a3, a4, a5, a6, a7, a8, a9, a10, a11, a12, a13, a14, a15, a16] t (0, 0))) :
    w.cell? ⟨g, 10, none⟩ = some a10 ∧ w.cell? ⟨g, 11, none⟩ = some a11 ∧ w.cell? ⟨g, 12, none⟩ = some a12 ∧ w.cell? ⟨g, 13, none⟩ = some a13 ∧ w.cell? ⟨g, 14, none⟩ = some a14 ∧ w.cell? ⟨g, 15, none⟩ = some a15 ∧ w.cell? ⟨g, 16, none⟩ = some a16 := by
  refine ⟨?_, ?_, ?_, ?_, ?_, ?_, ?_⟩ <;> rw [cell_of_row w g _ _ t (0, 0) h] <;> rfl
theorem rzero_q (q : Bool) (s v : Nat) (l z p : Int) (B n c : Nat) (A : Option Addr) (h : List UInt8) (w : World) (hq : Hid (decide (s = 0 ∧ v = 0 ∧ l = 0 ∧ z = 0 ∧ p = 0 ∧ h = []) = q)) (hl : Row w B A n (bv h)) (hB : B ≤ w.heap.size) :
    Calls Try.prog 33 #[.agg #[.int .u32 (s : Int), .int .u32 (v : Int), .int .i64 l, .int .i64 z, .int .i64 p, .slice A n c]] w fun e w' => e = .returned (.bool q) ∧ Below w.heap.size w w' := by
  rw [← hq.out]; exact rzero_any s v l z p B n c A h w hl hB
set_option maxRecDepth 100000 in
set_option maxHeartbeats 1600000 in
theorem rmay_0t (trial : Int) (flo gen v0 : Nat) (l0 : Int) (A0 : Option Addr) (n0 c0 : Nat) (v1 : Nat) (l1 : Int) (A1 : Option Addr) (n1 c1 : Nat) (s v : Nat) (l z p : Int) (A : Option Addr) (n c B : Nat) (h0 h1 h : List UInt8) (w : World)
    (hl0 : Row w B A0 n0 (bv h0)) (hl1 : Row w B A1 n1 (bv h1)) (hl : Row w B A n (bv h)) (hB : B ≤ w.heap.size) (ht0 : 0 ≤ trial) (ht3 : trial ≤ 3) :
    Calls Try.prog 10 #[.agg #[.int .i64 0, .int .i64 trial, .int .u32 (flo : Int), .int .u32 (gen : Int), .int .u32 (v0 : Int), .int .i64 l0, .slice A0 n0 c0, .int .u32 (v1 : Int), .int .i64 l1, .slice A1 n1 c1, .bool true, .int .u32 (s : Int), .int .u32 (v : Int), .int .i64 l, .int .i64 z, .int .i64 p, .slice A n c]] w fun e w' => e = .returned (.bool (mayB2 0 trial v0 l0 h0 v1 l1 h1 true s v l z p h)) ∧ Below w.heap.size w w' := by
  have HL := Lib.hid hl
  have HB := Lib.hid hB
  have HX := Lib.hid (heap_alloc_new w (.cells #[.int .i64 0, .int .i64 trial, .int .u32 (flo : Int), .int .u32 (gen : Int), .int .u32 (v0 : Int), .int .i64 l0, .slice A0 n0 c0, .int .u32 (v1 : Int), .int .i64 l1, .slice A1 n1 c1, .bool true, .int .u32 (s : Int), .int .u32 (v : Int), .int .i64 l, .int .i64 z, .int .i64 p, .slice A n c] 30))
  have HR : Hid (mayB2 0 trial v0 l0 h0 v1 l1 h1 true s v l z p h = (manB l z p n && (rslotB v0 l0 n0 && rslotB v1 l1 n1 && !decide (n0 = 0) && !(decide (0 < trial) && decide (n1 = 0))))) := by
    show _ = _
    rw [← slots_eq trial v0 l0 h0 v1 l1 h1 n0 n1 hl0.blen hl1.blen ht0]
    simp [mayB2, ht0, ht3, hl0.blen, hl1.blen, hl.blen]
  have q1 : decide (trial < 0) = false := by simpa using ht0
  have q2 : decide (3 < trial) = false := by simpa using ht3
  have HT0 := Lib.hid ht0
  clear hl0 hl1 hl hB
  go_enter Try.func10, Try.ntmps10
  go_wp2_with fail
  refine (rmaySlot_any v0 l0 A0 n0 c0 _).mono ?_
  rintro e w1 ⟨rfl, hb1⟩
  have HX1 := Lib.hid ((hb1.block w.heap.size (by simp)).trans HX.out)
  have HB1 : Hid (Below w.heap.size w w1) := ((Below.refl _ _).alloc (Nat.le_refl _) _).trans (hb1.mono (by simp))
  have LT1 : Hid (w.heap.size < w1.heap.size) := by have := hb1.size; simp at this; exact this
  clear hb1 HX
  obtain ⟨f0, hf0⟩ : ∃ f0, rslotB v0 l0 n0 = f0 := ⟨_, rfl⟩
  rw [hf0] at HR ⊢
  clear hf0
  obtain ⟨a0, a1, a4, a5, a6, a7, a8, a9, a10⟩ := bx17 HX1.out
  cases f0 with
  | false =>
    clear a0 a1 a4 a5 a6 a7 a8 a9 a10
    go_wp2_with fail
    go_ret
    exact ⟨by rw [HR.out]; simp, HB1.out⟩
  | true =>
    go_wp2_with fail
    refine (rmaySlot_any v1 l1 A1 n1 c1 _).mono ?_
    rintro e w2 ⟨rfl, hb2⟩
    clear a0 a1 a4 a5 a6 a7 a8 a9 a10
    have HX2 := Lib.hid ((hb2.block w.heap.size LT1.out).trans HX1.out)
    have HB2 : Hid (Below w.heap.size w w2) := HB1.out.trans (hb2.mono HB1.out.size)
    have LT2 : Hid (w.heap.size < w2.heap.size) := Nat.lt_of_lt_of_le LT1.out hb2.size
    clear hb2 HX1 HB1 LT1
    obtain ⟨f1, hf1⟩ : ∃ f1, rslotB v1 l1 n1 = f1 := ⟨_, rfl⟩
    rw [hf1] at HR ⊢
    clear hf1
    obtain ⟨a0, a1, a4, a5, a6, a7, a8, a9, a10⟩ := bx17 HX2.out
    cases f1 with
    | false =>
      clear a0 a1 a4 a5 a6 a7 a8 a9 a10
      go_wp2_with fail
      go_ret
      exact ⟨by rw [HR.out]; simp, HB2.out⟩
    | true =>
      by_cases hz : n0 = 0
      · have y0 : ((n0 : Int) == 0) = true := by simp; omega
        have HZ := Lib.hid hz
        clear hz
        go_wp2_with fail
        go_ret
        exact ⟨by rw [HR.out, HZ.out]; simp, HB2.out⟩
      have y0 : ((n0 : Int) == 0) = false := by simp; omega
      have HZ := Lib.hid hz
      clear hz
      by_cases ho : 0 < trial ∧ n1 = 0
      · have y1 : decide (0 < trial) = true := by simpa using ho.1
        have y2 : ((n1 : Int) == 0) = true := by have := ho.2; simp; omega
        have HO := Lib.hid ho
        clear ho
        go_wp2_with fail
        go_ret
        exact ⟨by rw [HR.out, decide_eq_true HO.out.1, decide_eq_true HO.out.2]; simp, HB2.out⟩
      have HS : Hid (mayB2 0 trial v0 l0 h0 v1 l1 h1 true s v l z p h = manB l z p n) := by
        show _ = _
        rw [HR.out, decide_eq_false HZ.out]
        have : (decide (0 < trial) && decide (n1 = 0)) = false := by
          rw [Bool.and_eq_false_iff, decide_eq_false_iff_not, decide_eq_false_iff_not]
          omega
        rw [this]; simp
      obtain ⟨x10, x11, x12, x13, x14, x15, x16⟩ := bx17x HX2.out
      have HC : Hid (0 < trial ∧ ¬ n1 = 0 ∨ ¬ 0 < trial) := by show _ ∨ _; omega
      clear ho HR
      rcases HC.out with ⟨hc, hd⟩ | hc
      · have y1 : decide (0 < trial) = true := by simpa using hc
        have y2 : ((n1 : Int) == 0) = false := by simp; omega
        clear hc hd
        go_wp2_with fail
        refine (rmanMay_any s v l z p A n c _).mono ?_
        clear a0 a1 a4 a5 a6 a7 a8 a9 a10 x10 x11 x12 x13 x14 x15 x16
        rintro e w3 ⟨rfl, hb3⟩
        have HB3 : Hid (Below w.heap.size w w3) := HB2.out.trans (hb3.mono HB2.out.size)
        clear hb3
        go_wp2_with fail
        go_ret
        exact ⟨by rw [HS.out]; rfl, HB3.out⟩
      · have y1 : decide (0 < trial) = false := by simpa using hc
        clear hc
        go_wp2_with fail
        refine (rmanMay_any s v l z p A n c _).mono ?_
        clear a0 a1 a4 a5 a6 a7 a8 a9 a10 x10 x11 x12 x13 x14 x15 x16
        rintro e w3 ⟨rfl, hb3⟩
        have HB3 : Hid (Below w.heap.size w w3) := HB2.out.trans (hb3.mono HB2.out.size)
        clear hb3
        go_wp2_with fail
        go_ret
        exact ⟨by rw [HS.out]; rfl, HB3.out⟩
set_option maxRecDepth 100000 in
set_option maxHeartbeats 1600000 in
theorem rmay_0f (trial : Int) (flo gen v0 : Nat) (l0 : Int) (A0 : Option Addr) (n0 c0 : Nat) (v1 : Nat) (l1 : Int) (A1 : Option Addr) (n1 c1 : Nat) (s v : Nat) (l z p : Int) (A : Option Addr) (n c B : Nat) (h0 h1 h : List UInt8) (w : World)
    (hl0 : Row w B A0 n0 (bv h0)) (hl1 : Row w B A1 n1 (bv h1)) (hl : Row w B A n (bv h)) (hB : B ≤ w.heap.size) (ht0 : 0 ≤ trial) (ht3 : trial ≤ 3) :
    Calls Try.prog 10 #[.agg #[.int .i64 0, .int .i64 trial, .int .u32 (flo : Int), .int .u32 (gen : Int), .int .u32 (v0 : Int), .int .i64 l0, .slice A0 n0 c0, .int .u32 (v1 : Int), .int .i64 l1, .slice A1 n1 c1, .bool false, .int .u32 (s : Int), .int .u32 (v : Int), .int .i64 l, .int .i64 z, .int .i64 p, .slice A n c]] w fun e w' => e = .returned (.bool (mayB2 0 trial v0 l0 h0 v1 l1 h1 false s v l z p h)) ∧ Below w.heap.size w w' := by
  have HL := Lib.hid hl
  have HB := Lib.hid hB
  have HX := Lib.hid (heap_alloc_new w (.cells #[.int .i64 0, .int .i64 trial, .int .u32 (flo : Int), .int .u32 (gen : Int), .int .u32 (v0 : Int), .int .i64 l0, .slice A0 n0 c0, .int .u32 (v1 : Int), .int .i64 l1, .slice A1 n1 c1, .bool false, .int .u32 (s : Int), .int .u32 (v : Int), .int .i64 l, .int .i64 z, .int .i64 p, .slice A n c] 30))
  have HR : Hid (mayB2 0 trial v0 l0 h0 v1 l1 h1 false s v l z p h = (decide (s = 0 ∧ v = 0 ∧ l = 0 ∧ z = 0 ∧ p = 0 ∧ h = []) && (rslotB v0 l0 n0 && rslotB v1 l1 n1 && !decide (n0 = 0) && !(decide (0 < trial) && decide (n1 = 0))))) := by
    show _ = _
    rw [← slots_eq trial v0 l0 h0 v1 l1 h1 n0 n1 hl0.blen hl1.blen ht0]
    simp [mayB2, ht0, ht3, hl0.blen, hl1.blen]
  have q1 : decide (trial < 0) = false := by simpa using ht0
  have q2 : decide (3 < trial) = false := by simpa using ht3
  have HT0 := Lib.hid ht0
  clear hl0 hl1 hl hB
  go_enter Try.func10, Try.ntmps10
  go_wp2_with fail
  refine (rmaySlot_any v0 l0 A0 n0 c0 _).mono ?_
  rintro e w1 ⟨rfl, hb1⟩
  have HX1 := Lib.hid ((hb1.block w.heap.size (by simp)).trans HX.out)
  have HB1 : Hid (Below w.heap.size w w1) := ((Below.refl _ _).alloc (Nat.le_refl _) _).trans (hb1.mono (by simp))
  have LT1 : Hid (w.heap.size < w1.heap.size) := by have := hb1.size; simp at this; exact this
  clear hb1 HX
  obtain ⟨f0, hf0⟩ : ∃ f0, rslotB v0 l0 n0 = f0 := ⟨_, rfl⟩
  rw [hf0] at HR ⊢
  clear hf0
  obtain ⟨a0, a1, a4, a5, a6, a7, a8, a9, a10⟩ := bx17 HX1.out
  cases f0 with
  | false =>
    clear a0 a1 a4 a5 a6 a7 a8 a9 a10
    go_wp2_with fail
    go_ret
    exact ⟨by rw [HR.out]; simp, HB1.out⟩
  | true =>
    go_wp2_with fail
    refine (rmaySlot_any v1 l1 A1 n1 c1 _).mono ?_
    rintro e w2 ⟨rfl, hb2⟩
    clear a0 a1 a4 a5 a6 a7 a8 a9 a10
    have HX2 := Lib.hid ((hb2.block w.heap.size LT1.out).trans HX1.out)
    have HB2 : Hid (Below w.heap.size w w2) := HB1.out.trans (hb2.mono HB1.out.size)
    have LT2 : Hid (w.heap.size < w2.heap.size) := Nat.lt_of_lt_of_le LT1.out hb2.size
    clear hb2 HX1 HB1 LT1
    obtain ⟨f1, hf1⟩ : ∃ f1, rslotB v1 l1 n1 = f1 := ⟨_, rfl⟩
    rw [hf1] at HR ⊢
    clear hf1
    obtain ⟨a0, a1, a4, a5, a6, a7, a8, a9, a10⟩ := bx17 HX2.out
    cases f1 with
    | false =>
      clear a0 a1 a4 a5 a6 a7 a8 a9 a10
      go_wp2_with fail
      go_ret
      exact ⟨by rw [HR.out]; simp, HB2.out⟩
    | true =>
      by_cases hz : n0 = 0
      · have y0 : ((n0 : Int) == 0) = true := by simp; omega
        have HZ := Lib.hid hz
        clear hz
        go_wp2_with fail
        go_ret
        exact ⟨by rw [HR.out, HZ.out]; simp, HB2.out⟩
      have y0 : ((n0 : Int) == 0) = false := by simp; omega
      have HZ := Lib.hid hz
      clear hz
      by_cases ho : 0 < trial ∧ n1 = 0
      · have y1 : decide (0 < trial) = true := by simpa using ho.1
        have y2 : ((n1 : Int) == 0) = true := by have := ho.2; simp; omega
        have HO := Lib.hid ho
        clear ho
        go_wp2_with fail
        go_ret
        exact ⟨by rw [HR.out, decide_eq_true HO.out.1, decide_eq_true HO.out.2]; simp, HB2.out⟩
      have HS : Hid (mayB2 0 trial v0 l0 h0 v1 l1 h1 false s v l z p h = decide (s = 0 ∧ v = 0 ∧ l = 0 ∧ z = 0 ∧ p = 0 ∧ h = [])) := by
        show _ = _
        rw [HR.out, decide_eq_false HZ.out]
        have : (decide (0 < trial) && decide (n1 = 0)) = false := by
          rw [Bool.and_eq_false_iff, decide_eq_false_iff_not, decide_eq_false_iff_not]
          omega
        rw [this]; simp
      obtain ⟨x10, x11, x12, x13, x14, x15, x16⟩ := bx17x HX2.out
      obtain ⟨q, hq⟩ : ∃ q, decide (s = 0 ∧ v = 0 ∧ l = 0 ∧ z = 0 ∧ p = 0 ∧ h = []) = q := ⟨_, rfl⟩
      have HQ := Lib.hid hq
      rw [hq] at HS
      clear hq
      have HC : Hid (0 < trial ∧ ¬ n1 = 0 ∨ ¬ 0 < trial) := by show _ ∨ _; omega
      clear ho HR
      rcases HC.out with ⟨hc, hd⟩ | hc
      · have y1 : decide (0 < trial) = true := by simpa using hc
        have y2 : ((n1 : Int) == 0) = false := by simp; omega
        clear hc hd
        go_wp2_with fail
        refine (rzero_q q s v l z p B n c A h _ HQ (HL.out.below (HB2.out.mono HB.out)) (Nat.le_trans HB.out HB2.out.size)).mono ?_
        clear a0 a1 a4 a5 a6 a7 a8 a9 a10 x10 x11 x12 x13 x14 x15 x16
        rintro e w3 ⟨rfl, hb3⟩
        have HB3 : Hid (Below w.heap.size w w3) := HB2.out.trans (hb3.mono HB2.out.size)
        clear hb3
        go_wp2_with fail
        go_ret
        exact ⟨by rw [HS.out]; rfl, HB3.out⟩
      · have y1 : decide (0 < trial) = false := by simpa using hc
        clear hc
        go_wp2_with fail
        refine (rzero_q q s v l z p B n c A h _ HQ (HL.out.below (HB2.out.mono HB.out)) (Nat.le_trans HB.out HB2.out.size)).mono ?_
        clear a0 a1 a4 a5 a6 a7 a8 a9 a10 x10 x11 x12 x13 x14 x15 x16
        rintro e w3 ⟨rfl, hb3⟩
        have HB3 : Hid (Below w.heap.size w w3) := HB2.out.trans (hb3.mono HB2.out.size)
        clear hb3
        go_wp2_with fail
        go_ret
        exact ⟨by rw [HS.out]; rfl, HB3.out⟩
set_option maxRecDepth 100000 in
set_option maxHeartbeats 1600000 in
theorem rmay_1t (trial : Int) (flo gen v0 : Nat) (l0 : Int) (A0 : Option Addr) (n0 c0 : Nat) (v1 : Nat) (l1 : Int) (A1 : Option Addr) (n1 c1 : Nat) (s v : Nat) (l z p : Int) (A : Option Addr) (n c B : Nat) (h0 h1 h : List UInt8) (w : World)
    (hl0 : Row w B A0 n0 (bv h0)) (hl1 : Row w B A1 n1 (bv h1)) (hl : Row w B A n (bv h)) (hB : B ≤ w.heap.size) (ht0 : 0 ≤ trial) (ht3 : trial ≤ 3) :
    Calls Try.prog 10 #[.agg #[.int .i64 1, .int .i64 trial, .int .u32 (flo : Int), .int .u32 (gen : Int), .int .u32 (v0 : Int), .int .i64 l0, .slice A0 n0 c0, .int .u32 (v1 : Int), .int .i64 l1, .slice A1 n1 c1, .bool true, .int .u32 (s : Int), .int .u32 (v : Int), .int .i64 l, .int .i64 z, .int .i64 p, .slice A n c]] w fun e w' => e = .returned (.bool (mayB2 1 trial v0 l0 h0 v1 l1 h1 true s v l z p h)) ∧ Below w.heap.size w w' := by
  have HL := Lib.hid hl
  have HB := Lib.hid hB
  have HX := Lib.hid (heap_alloc_new w (.cells #[.int .i64 1, .int .i64 trial, .int .u32 (flo : Int), .int .u32 (gen : Int), .int .u32 (v0 : Int), .int .i64 l0, .slice A0 n0 c0, .int .u32 (v1 : Int), .int .i64 l1, .slice A1 n1 c1, .bool true, .int .u32 (s : Int), .int .u32 (v : Int), .int .i64 l, .int .i64 z, .int .i64 p, .slice A n c] 30))
  have HR : Hid (mayB2 1 trial v0 l0 h0 v1 l1 h1 true s v l z p h = (manB l z p n && (rslotB v1 l1 n1 && rslotB v0 l0 n0 && !decide (n1 = 0) && !(decide (0 < trial) && decide (n0 = 0))))) := by
    show _ = _
    rw [← slots_eq trial v1 l1 h1 v0 l0 h0 n1 n0 hl1.blen hl0.blen ht0]
    simp [mayB2, ht0, ht3, hl0.blen, hl1.blen, hl.blen]
  have q1 : decide (trial < 0) = false := by simpa using ht0
  have q2 : decide (3 < trial) = false := by simpa using ht3
  have HT0 := Lib.hid ht0
  clear hl0 hl1 hl hB
  go_enter Try.func10, Try.ntmps10
  go_wp2_with fail
  refine (rmaySlot_any v0 l0 A0 n0 c0 _).mono ?_
  rintro e w1 ⟨rfl, hb1⟩
  have HX1 := Lib.hid ((hb1.block w.heap.size (by simp)).trans HX.out)
  have HB1 : Hid (Below w.heap.size w w1) := ((Below.refl _ _).alloc (Nat.le_refl _) _).trans (hb1.mono (by simp))
  have LT1 : Hid (w.heap.size < w1.heap.size) := by have := hb1.size; simp at this; exact this
  clear hb1 HX
  obtain ⟨f0, hf0⟩ : ∃ f0, rslotB v0 l0 n0 = f0 := ⟨_, rfl⟩
  rw [hf0] at HR ⊢
  clear hf0
  obtain ⟨a0, a1, a4, a5, a6, a7, a8, a9, a10⟩ := bx17 HX1.out
  cases f0 with
  | false =>
    clear a0 a1 a4 a5 a6 a7 a8 a9 a10
    go_wp2_with fail
    go_ret
    exact ⟨by rw [HR.out]; simp, HB1.out⟩
  | true =>
    go_wp2_with fail
    refine (rmaySlot_any v1 l1 A1 n1 c1 _).mono ?_
    rintro e w2 ⟨rfl, hb2⟩
    clear a0 a1 a4 a5 a6 a7 a8 a9 a10
    have HX2 := Lib.hid ((hb2.block w.heap.size LT1.out).trans HX1.out)
    have HB2 : Hid (Below w.heap.size w w2) := HB1.out.trans (hb2.mono HB1.out.size)
    have LT2 : Hid (w.heap.size < w2.heap.size) := Nat.lt_of_lt_of_le LT1.out hb2.size
    clear hb2 HX1 HB1 LT1
    obtain ⟨f1, hf1⟩ : ∃ f1, rslotB v1 l1 n1 = f1 := ⟨_, rfl⟩
    rw [hf1] at HR ⊢
    clear hf1
    obtain ⟨a0, a1, a4, a5, a6, a7, a8, a9, a10⟩ := bx17 HX2.out
    cases f1 with
    | false =>
      clear a0 a1 a4 a5 a6 a7 a8 a9 a10
      go_wp2_with fail
      go_ret
      exact ⟨by rw [HR.out]; simp, HB2.out⟩
    | true =>
      by_cases hz : n1 = 0
      · have y0 : ((n1 : Int) == 0) = true := by simp; omega
        have HZ := Lib.hid hz
        clear hz
        go_wp2_with fail
        go_ret
        exact ⟨by rw [HR.out, HZ.out]; simp, HB2.out⟩
      have y0 : ((n1 : Int) == 0) = false := by simp; omega
      have HZ := Lib.hid hz
      clear hz
      by_cases ho : 0 < trial ∧ n0 = 0
      · have y1 : decide (0 < trial) = true := by simpa using ho.1
        have y2 : ((n0 : Int) == 0) = true := by have := ho.2; simp; omega
        have HO := Lib.hid ho
        clear ho
        go_wp2_with fail
        go_ret
        exact ⟨by rw [HR.out, decide_eq_true HO.out.1, decide_eq_true HO.out.2]; simp, HB2.out⟩
      have HS : Hid (mayB2 1 trial v0 l0 h0 v1 l1 h1 true s v l z p h = manB l z p n) := by
        show _ = _
        rw [HR.out, decide_eq_false HZ.out]
        have : (decide (0 < trial) && decide (n0 = 0)) = false := by
          rw [Bool.and_eq_false_iff, decide_eq_false_iff_not, decide_eq_false_iff_not]
          omega
        rw [this]; simp
      obtain ⟨x10, x11, x12, x13, x14, x15, x16⟩ := bx17x HX2.out
      have HC : Hid (0 < trial ∧ ¬ n0 = 0 ∨ ¬ 0 < trial) := by show _ ∨ _; omega
      clear ho HR
      rcases HC.out with ⟨hc, hd⟩ | hc
      · have y1 : decide (0 < trial) = true := by simpa using hc
        have y2 : ((n0 : Int) == 0) = false := by simp; omega
        clear hc hd
        go_wp2_with fail
        refine (rmanMay_any s v l z p A n c _).mono ?_
        clear a0 a1 a4 a5 a6 a7 a8 a9 a10 x10 x11 x12 x13 x14 x15 x16
        rintro e w3 ⟨rfl, hb3⟩
        have HB3 : Hid (Below w.heap.size w w3) := HB2.out.trans (hb3.mono HB2.out.size)
        clear hb3
        go_wp2_with fail
        go_ret
        exact ⟨by rw [HS.out]; rfl, HB3.out⟩
      · have y1 : decide (0 < trial) = false := by simpa using hc
        clear hc
        go_wp2_with fail
        refine (rmanMay_any s v l z p A n c _).mono ?_
        clear a0 a1 a4 a5 a6 a7 a8 a9 a10 x10 x11 x12 x13 x14 x15 x16
        rintro e w3 ⟨rfl, hb3⟩
        have HB3 : Hid (Below w.heap.size w w3) := HB2.out.trans (hb3.mono HB2.out.size)
        clear hb3
        go_wp2_with fail
        go_ret
        exact ⟨by rw [HS.out]; rfl, HB3.out⟩
set_option maxRecDepth 100000 in
set_option maxHeartbeats 1600000 in
theorem rmay_1f (trial : Int) (flo gen v0 : Nat) (l0 : Int) (A0 : Option Addr) (n0 c0 : Nat) (v1 : Nat) (l1 : Int) (A1 : Option Addr) (n1 c1 : Nat) (s v : Nat) (l z p : Int) (A : Option Addr) (n c B : Nat) (h0 h1 h : List UInt8) (w : World)
    (hl0 : Row w B A0 n0 (bv h0)) (hl1 : Row w B A1 n1 (bv h1)) (hl : Row w B A n (bv h)) (hB : B ≤ w.heap.size) (ht0 : 0 ≤ trial) (ht3 : trial ≤ 3) :
    Calls Try.prog 10 #[.agg #[.int .i64 1, .int .i64 trial, .int .u32 (flo : Int), .int .u32 (gen : Int), .int .u32 (v0 : Int), .int .i64 l0, .slice A0 n0 c0, .int .u32 (v1 : Int), .int .i64 l1, .slice A1 n1 c1, .bool false, .int .u32 (s : Int), .int .u32 (v : Int), .int .i64 l, .int .i64 z, .int .i64 p, .slice A n c]] w fun e w' => e = .returned (.bool (mayB2 1 trial v0 l0 h0 v1 l1 h1 false s v l z p h)) ∧ Below w.heap.size w w' := by
  have HL := Lib.hid hl
  have HB := Lib.hid hB
  have HX := Lib.hid (heap_alloc_new w (.cells #[.int .i64 1, .int .i64 trial, .int .u32 (flo : Int), .int .u32 (gen : Int), .int .u32 (v0 : Int), .int .i64 l0, .slice A0 n0 c0, .int .u32 (v1 : Int), .int .i64 l1, .slice A1 n1 c1, .bool false, .int .u32 (s : Int), .int .u32 (v : Int), .int .i64 l, .int .i64 z, .int .i64 p, .slice A n c] 30))
  have HR : Hid (mayB2 1 trial v0 l0 h0 v1 l1 h1 false s v l z p h = (decide (s = 0 ∧ v = 0 ∧ l = 0 ∧ z = 0 ∧ p = 0 ∧ h = []) && (rslotB v1 l1 n1 && rslotB v0 l0 n0 && !decide (n1 = 0) && !(decide (0 < trial) && decide (n0 = 0))))) := by
    show _ = _
    rw [← slots_eq trial v1 l1 h1 v0 l0 h0 n1 n0 hl1.blen hl0.blen ht0]
    simp [mayB2, ht0, ht3, hl0.blen, hl1.blen]
  have q1 : decide (trial < 0) = false := by simpa using ht0
  have q2 : decide (3 < trial) = false := by simpa using ht3
  have HT0 := Lib.hid ht0
  clear hl0 hl1 hl hB
  go_enter Try.func10, Try.ntmps10
  go_wp2_with fail
  refine (rmaySlot_any v0 l0 A0 n0 c0 _).mono ?_
  rintro e w1 ⟨rfl, hb1⟩
  have HX1 := Lib.hid ((hb1.block w.heap.size (by simp)).trans HX.out)
  have HB1 : Hid (Below w.heap.size w w1) := ((Below.refl _ _).alloc (Nat.le_refl _) _).trans (hb1.mono (by simp))
  have LT1 : Hid (w.heap.size < w1.heap.size) := by have := hb1.size; simp at this; exact this
  clear hb1 HX
  obtain ⟨f0, hf0⟩ : ∃ f0, rslotB v0 l0 n0 = f0 := ⟨_, rfl⟩
  rw [hf0] at HR ⊢
  clear hf0
  obtain ⟨a0, a1, a4, a5, a6, a7, a8, a9, a10⟩ := bx17 HX1.out
  cases f0 with
  | false =>
    clear a0 a1 a4 a5 a6 a7 a8 a9 a10
    go_wp2_with fail
    go_ret
    exact ⟨by rw [HR.out]; simp, HB1.out⟩
  | true =>
    go_wp2_with fail
    refine (rmaySlot_any v1 l1 A1 n1 c1 _).mono ?_
    rintro e w2 ⟨rfl, hb2⟩
    clear a0 a1 a4 a5 a6 a7 a8 a9 a10
    have HX2 := Lib.hid ((hb2.block w.heap.size LT1.out).trans HX1.out)
    have HB2 : Hid (Below w.heap.size w w2) := HB1.out.trans (hb2.mono HB1.out.size)
    have LT2 : Hid (w.heap.size < w2.heap.size) := Nat.lt_of_lt_of_le LT1.out hb2.size
    clear hb2 HX1 HB1 LT1
    obtain ⟨f1, hf1⟩ : ∃ f1, rslotB v1 l1 n1 = f1 := ⟨_, rfl⟩
    rw [hf1] at HR ⊢
    clear hf1
    obtain ⟨a0, a1, a4, a5, a6, a7, a8, a9, a10⟩ := bx17 HX2.out
    cases f1 with
    | false =>
      clear a0 a1 a4 a5 a6 a7 a8 a9 a10
      go_wp2_with fail
      go_ret
      exact ⟨by rw [HR.out]; simp, HB2.out⟩
    | true =>
      by_cases hz : n1 = 0
      · have y0 : ((n1 : Int) == 0) = true := by simp; omega
        have HZ := Lib.hid hz
        clear hz
        go_wp2_with fail
        go_ret
        exact ⟨by rw [HR.out, HZ.out]; simp, HB2.out⟩
      have y0 : ((n1 : Int) == 0) = false := by simp; omega
      have HZ := Lib.hid hz
      clear hz
      by_cases ho : 0 < trial ∧ n0 = 0
      · have y1 : decide (0 < trial) = true := by simpa using ho.1
        have y2 : ((n0 : Int) == 0) = true := by have := ho.2; simp; omega
        have HO := Lib.hid ho
        clear ho
        go_wp2_with fail
        go_ret
        exact ⟨by rw [HR.out, decide_eq_true HO.out.1, decide_eq_true HO.out.2]; simp, HB2.out⟩
      have HS : Hid (mayB2 1 trial v0 l0 h0 v1 l1 h1 false s v l z p h = decide (s = 0 ∧ v = 0 ∧ l = 0 ∧ z = 0 ∧ p = 0 ∧ h = [])) := by
        show _ = _
        rw [HR.out, decide_eq_false HZ.out]
        have : (decide (0 < trial) && decide (n0 = 0)) = false := by
          rw [Bool.and_eq_false_iff, decide_eq_false_iff_not, decide_eq_false_iff_not]
          omega
        rw [this]; simp
      obtain ⟨x10, x11, x12, x13, x14, x15, x16⟩ := bx17x HX2.out
      obtain ⟨q, hq⟩ : ∃ q, decide (s = 0 ∧ v = 0 ∧ l = 0 ∧ z = 0 ∧ p = 0 ∧ h = []) = q := ⟨_, rfl⟩
      have HQ := Lib.hid hq
      rw [hq] at HS
      clear hq
      have HC : Hid (0 < trial ∧ ¬ n0 = 0 ∨ ¬ 0 < trial) := by show _ ∨ _; omega
      clear ho HR
      rcases HC.out with ⟨hc, hd⟩ | hc
      · have y1 : decide (0 < trial) = true := by simpa using hc
        have y2 : ((n0 : Int) == 0) = false := by simp; omega
        clear hc hd
        go_wp2_with fail
        refine (rzero_q q s v l z p B n c A h _ HQ (HL.out.below (HB2.out.mono HB.out)) (Nat.le_trans HB.out HB2.out.size)).mono ?_
        clear a0 a1 a4 a5 a6 a7 a8 a9 a10 x10 x11 x12 x13 x14 x15 x16
        rintro e w3 ⟨rfl, hb3⟩
        have HB3 : Hid (Below w.heap.size w w3) := HB2.out.trans (hb3.mono HB2.out.size)
        clear hb3
        go_wp2_with fail
        go_ret
        exact ⟨by rw [HS.out]; rfl, HB3.out⟩
      · have y1 : decide (0 < trial) = false := by simpa using hc
        clear hc
        go_wp2_with fail
        refine (rzero_q q s v l z p B n c A h _ HQ (HL.out.below (HB2.out.mono HB.out)) (Nat.le_trans HB.out HB2.out.size)).mono ?_
        clear a0 a1 a4 a5 a6 a7 a8 a9 a10 x10 x11 x12 x13 x14 x15 x16
        rintro e w3 ⟨rfl, hb3⟩
        have HB3 : Hid (Below w.heap.size w w3) := HB2.out.trans (hb3.mono HB2.out.size)
        clear hb3
        go_wp2_with fail
        go_ret
        exact ⟨by rw [HS.out]; rfl, HB3.out⟩
set_option maxRecDepth 100000 in
set_option maxHeartbeats 1600000 in
theorem rmay_any (act trial : Int) (flo gen v0 : Nat) (l0 : Int) (A0 : Option Addr) (n0 c0 : Nat) (v1 : Nat) (l1 : Int) (A1 : Option Addr) (n1 c1 : Nat) (on : Bool) (s v : Nat) (l z p : Int) (A : Option Addr) (n c B : Nat) (h0 h1 h : List UInt8) (w : World)
    (hl0 : Row w B A0 n0 (bv h0)) (hl1 : Row w B A1 n1 (bv h1)) (hl : Row w B A n (bv h)) (hB : B ≤ w.heap.size) :
    Calls Try.prog 10 #[.agg #[.int .i64 act, .int .i64 trial, .int .u32 (flo : Int), .int .u32 (gen : Int), .int .u32 (v0 : Int), .int .i64 l0, .slice A0 n0 c0, .int .u32 (v1 : Int), .int .i64 l1, .slice A1 n1 c1, .bool on, .int .u32 (s : Int), .int .u32 (v : Int), .int .i64 l, .int .i64 z, .int .i64 p, .slice A n c]] w fun e w' => e = .returned (.bool (mayB2 act trial v0 l0 h0 v1 l1 h1 on s v l z p h)) ∧ Below w.heap.size w w' := by
  have bad : ∀ (q : act < 0 ∨ 1 < act ∨ trial < 0 ∨ 3 < trial), mayB2 act trial v0 l0 h0 v1 l1 h1 on s v l z p h = false := by
    intro q
    have : (decide (act = 0 ∨ act = 1) && (decide (0 ≤ trial) && decide (trial ≤ 3))) = false := by
      rw [Bool.and_eq_false_iff, Bool.and_eq_false_iff, decide_eq_false_iff_not, decide_eq_false_iff_not, decide_eq_false_iff_not]
      omega
    unfold mayB2
    rw [this]; simp
  by_cases h1' : act < 0
  · rw [bad (.inl h1')]
    have q0 : decide (act < 0) = true := by simpa using h1'
    clear h1' bad
    go_enter Try.func10, Try.ntmps10
    go_wp2_with fail
    go_ret
    exact ⟨rfl, (Below.refl _ _).alloc (Nat.le_refl _) _⟩
  by_cases h2' : 1 < act
  · rw [bad (.inr (.inl h2'))]
    have q0 : decide (act < 0) = false := by simpa using h1'
    have q1 : decide (1 < act) = true := by simpa using h2'
    clear h1' h2' bad
    go_enter Try.func10, Try.ntmps10
    go_wp2_with fail
    go_ret
    exact ⟨rfl, (Below.refl _ _).alloc (Nat.le_refl _) _⟩
  have hact : act = 0 ∨ act = 1 := by omega
  have q0 : decide (act < 0) = false := by simpa using h1'
  have q1 : decide (1 < act) = false := by simpa using h2'
  by_cases h3' : trial < 0
  · rw [bad (.inr (.inr (.inl h3')))]
    have q2 : decide (trial < 0) = true := by simpa using h3'
    clear h1' h2' h3' bad hact
    go_enter Try.func10, Try.ntmps10
    go_wp2_with fail
    go_ret
    exact ⟨rfl, (Below.refl _ _).alloc (Nat.le_refl _) _⟩
  by_cases h4' : 3 < trial
  · rw [bad (.inr (.inr (.inr h4')))]
    have q2 : decide (trial < 0) = false := by simpa using h3'
    have q3 : decide (3 < trial) = true := by simpa using h4'
    clear h1' h2' h3' h4' bad hact
    go_enter Try.func10, Try.ntmps10
    go_wp2_with fail
    go_ret
    exact ⟨rfl, (Below.refl _ _).alloc (Nat.le_refl _) _⟩
  have g0 : 0 ≤ trial := by omega
  have g3 : trial ≤ 3 := by omega
  clear bad h1' h2' h3' h4' q0 q1
  rcases hact with rfl | rfl <;> cases on
  · exact rmay_0f trial flo gen v0 l0 A0 n0 c0 v1 l1 A1 n1 c1 s v l z p A n c B h0 h1 h w hl0 hl1 hl hB g0 g3
  · exact rmay_0t trial flo gen v0 l0 A0 n0 c0 v1 l1 A1 n1 c1 s v l z p A n c B h0 h1 h w hl0 hl1 hl hB g0 g3
  · exact rmay_1f trial flo gen v0 l0 A0 n0 c0 v1 l1 A1 n1 c1 s v l z p A n c B h0 h1 h w hl0 hl1 hl hB g0 g3
  · exact rmay_1t trial flo gen v0 l0 A0 n0 c0 v1 l1 A1 n1 c1 s v l z p A n c B h0 h1 h w hl0 hl1 hl hB g0 g3
end Go.Proofs.Ytdipccjgpkedhaa
