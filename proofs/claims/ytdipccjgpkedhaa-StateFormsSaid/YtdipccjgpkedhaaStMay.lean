/- state.empty, state.May: by contracts. -/
import Derived.Test.YtdipccjgpkedhaaStSame
namespace Go.Proofs.Ytdipccjgpkedhaa
open Go.RowKit
def emptyB (v : Nat) (l : Int) (h : List UInt8) : Bool := decide (v = 0 ∧ l = 0 ∧ h = [])
set_option maxRecDepth 100000 in
set_option maxHeartbeats 400000 in
theorem empty_any (v : Nat) (l : Int) (B n c : Nat) (A : Option Addr) (h : List UInt8) (w : World) (hl : Row w B A n (bv h)) (hB : B ≤ w.heap.size) :
    Calls Try.prog 30 #[.agg #[.int .u32 (v : Int), .int .i64 l, .slice A n c]] w fun e w' => e = .returned (.bool (emptyB v l h)) ∧ Below w.heap.size w w' := by
  have HL := Lib.hid hl
  have HB := Lib.hid hB
  have HX := Lib.hid (heap_alloc_new w (.cells #[.int .u32 (v : Int), .int .i64 l, .slice A n c] 25))
  clear hl hB
  go_enter Try.func30, Try.ntmps30
  go_wp2_with fail
  refine (slotSame_any v 0 l 0 B n c 0 0 A none h [] _ (HL.out.alloc HB.out _) (Row.nil _ _ _) (by simp; have := HB.out; omega)).mono ?_
  rintro e w1 ⟨b, rfl, hb, hb1⟩
  have HE : Hid (b = emptyB v l h) := hb.out
  have HB1 : Hid (Below w.heap.size w w1) := ((Below.refl _ _).alloc (Nat.le_refl _) _).trans (hb1.mono (by simp))
  clear hb hb1
  go_wp2_with fail
  go_ret
  exact ⟨by rw [HE.out]; rfl, HB1.out⟩
def mayB2 (act trial : Int) (v0 : Nat) (l0 : Int) (h0 : List UInt8) (v1 : Nat) (l1 : Int) (h1 : List UInt8) (on : Bool) (s v : Nat) (l z p : Int) (h : List UInt8) : Bool :=
  decide (act = 0 ∨ act = 1) && (decide (0 ≤ trial) && decide (trial ≤ 3)) && (if on then manB l z p h.length else decide (s = 0 ∧ v = 0 ∧ l = 0 ∧ z = 0 ∧ p = 0 ∧ h = [])) &&
    (if act = 0 then filledB l0 h0.length && (filledB l1 h1.length || (decide (trial = 0) && emptyB v1 l1 h1)) else filledB l1 h1.length && (filledB l0 h0.length || (decide (trial = 0) && emptyB v0 l0 h0)))
theorem st3 {w : World} {g : Nat} {t : TypeId} {z0 z1 z2 : Value} (h : w.heap[g]? = some (.cells #[z0, z1, z2] t (0, 0))) (v0 v1 v2 : Value) :
    (((w.setCell ⟨g, 0, none⟩ v0).setCell ⟨g, 1, none⟩ v1).setCell ⟨g, 2, none⟩ v2).heap[g]? = some (.cells #[v0, v1, v2] t (0, 0)) := by
  have h0 : (w.setCell ⟨g, 0, none⟩ v0).heap[g]? = some (.cells #[v0, z1, z2] t (0, 0)) := heap_setCell_same _ g 0 _ t v0 h
  have h1 : ((w.setCell ⟨g, 0, none⟩ v0).setCell ⟨g, 1, none⟩ v1).heap[g]? = some (.cells #[v0, v1, z2] t (0, 0)) := heap_setCell_same _ g 1 _ t v1 h0
  exact heap_setCell_same _ g 2 _ t v2 h1
theorem st3o {w : World} {g q : Nat} {o : Option Obj} (h : w.heap[q]? = o) (hne : q ≠ g) (v0 v1 v2 : Value) :
    (((w.setCell ⟨g, 0, none⟩ v0).setCell ⟨g, 1, none⟩ v1).setCell ⟨g, 2, none⟩ v2).heap[q]? = o := by
  rw [heap_setCell_other _ _ _ _ hne, heap_setCell_other _ _ _ _ hne, heap_setCell_other _ _ _ _ hne]
  exact h
def Two3 (X Y : Array Value) (g3 g4 : Nat) (w wx : World) : Prop :=
  wx.heap[g3]? = some (.cells X 25 (0, 0)) ∧ wx.heap[g4]? = some (.cells Y 25 (0, 0)) ∧ Below w.heap.size w wx
theorem two3_new (X Y : Array Value) (w : World) : Hid (Two3 X Y w.heap.size (w.heap.size + 1) w ((w.alloc (.cells X 25)).alloc (.cells Y 25)).drew) :=
  ⟨heap_alloc2_old w _ _, heap_alloc2_new w _ _, (((Below.refl _ _).alloc (Nat.le_refl _) _).alloc (by simp) _).drew⟩
theorem two3_swap (X Y : Array Value) (w : World) : Hid (Two3 X Y (w.heap.size + 1) w.heap.size w ((w.alloc (.cells Y 25)).alloc (.cells X 25)).drew) :=
  ⟨heap_alloc2_new w _ _, heap_alloc2_old w _ _, (((Below.refl _ _).alloc (Nat.le_refl _) _).alloc (by simp) _).drew⟩
theorem bx3 {w : World} {g : Nat} {t : TypeId} {x y z : Value} (h : w.heap[g]? = some (.cells #[x, y, z] t (0, 0))) : w.cell? ⟨g, 0, none⟩ = some x ∧ w.cell? ⟨g, 1, none⟩ = some y ∧ w.cell? ⟨g, 2, none⟩ = some z := by
  refine ⟨?_, ?_, ?_⟩ <;> rw [cell_of_row w g _ _ t (0, 0) h] <;> rfl
theorem below_set3 {B g : Nat} {w w' : World} (h : Below B w w') (hg : B ≤ g) (v0 v1 v2 : Value) : Below B w (((w'.setCell ⟨g, 0, none⟩ v0).setCell ⟨g, 1, none⟩ v1).setCell ⟨g, 2, none⟩ v2) :=
  ((h.setCell hg _).setCell hg _).setCell hg _
theorem bx17 {w : World} {g : Nat} {t : TypeId} {a0 a1 a2 a3 a4 a5 a6 a7 a8 a9 a10 a11 a12 a13 a14 a15 a16 : Value} (h : w.heap[g]? = some (.cells #[a0, a1, a2, a3, a4, a5, a6, a7, a8, a9, a10, a11, a12, a13, a14, a15, a16] t (0, 0))) :
    w.cell? ⟨g, 0, none⟩ = some a0 ∧ w.cell? ⟨g, 1, none⟩ = some a1 ∧ w.cell? ⟨g, 4, none⟩ = some a4 ∧ w.cell? ⟨g, 5, none⟩ = some a5 ∧ w.cell? ⟨g, 6, none⟩ = some a6 ∧ w.cell? ⟨g, 7, none⟩ = some a7 ∧ w.cell? ⟨g, 8, none⟩ = some a8 ∧ w.cell? ⟨g, 9, none⟩ = some a9 ∧ w.cell? ⟨g, 10, none⟩ = some a10 := by
  refine ⟨?_, ?_, ?_, ?_, ?_, ?_, ?_, ?_, ?_⟩ <;> rw [cell_of_row w g _ _ t (0, 0) h] <;> rfl
set_option maxRecDepth 100000 in
set_option maxHeartbeats 1600000 in
theorem may_0t (trial : Int) (flo gen v0 : Nat) (l0 : Int) (A0 : Option Addr) (n0 c0 : Nat) (v1 : Nat) (l1 : Int) (A1 : Option Addr) (n1 c1 : Nat) (s v : Nat) (l z p : Int) (A : Option Addr) (n c B : Nat) (h0 h1 h : List UInt8) (w : World)
    (hl0 : Row w B A0 n0 (bv h0)) (hl1 : Row w B A1 n1 (bv h1)) (hl : Row w B A n (bv h)) (hB : B ≤ w.heap.size) (ht0 : 0 ≤ trial) (ht3 : trial ≤ 3) :
    Calls Try.prog 9 #[.agg #[.int .i64 0, .int .i64 trial, .int .u32 (flo : Int), .int .u32 (gen : Int), .int .u32 (v0 : Int), .int .i64 l0, .slice A0 n0 c0, .int .u32 (v1 : Int), .int .i64 l1, .slice A1 n1 c1, .bool true, .int .u32 (s : Int), .int .u32 (v : Int), .int .i64 l, .int .i64 z, .int .i64 p, .slice A n c]] w fun e w' => e = .returned (.bool (mayB2 0 trial v0 l0 h0 v1 l1 h1 true s v l z p h)) ∧ Below w.heap.size w w' := by
  have HL0 := Lib.hid hl0
  have HL1 := Lib.hid hl1
  have HL := Lib.hid hl
  have HB := Lib.hid hB
  have HX := Lib.hid (heap_alloc_new w (.cells #[.int .i64 0, .int .i64 trial, .int .u32 (flo : Int), .int .u32 (gen : Int), .int .u32 (v0 : Int), .int .i64 l0, .slice A0 n0 c0, .int .u32 (v1 : Int), .int .i64 l1, .slice A1 n1 c1, .bool true, .int .u32 (s : Int), .int .u32 (v : Int), .int .i64 l, .int .i64 z, .int .i64 p, .slice A n c] 30))
  have HT0 := Lib.hid ht0
  have HT3 := Lib.hid ht3
  have HR : Hid (mayB2 0 trial v0 l0 h0 v1 l1 h1 true s v l z p h = (manB l z p n && (filledB l0 n0 && (filledB l1 n1 || (decide (trial = 0) && emptyB v1 l1 h1))))) := by
    show _ = _
    simp [mayB2, ht0, ht3, hl0.blen, hl1.blen, hl.blen]
  clear hl0 hl1 hl hB
  go_enter Try.func9, Try.ntmps9
  go_wp2_with fail
  refine (manMay_any s v l z p A n c _).mono ?_
  rintro e w1 ⟨rfl, hb1⟩
  have HM : Hid (manB l z p n = manB l z p n) := rfl
  obtain ⟨q, hq⟩ : ∃ q, manB l z p n = q := ⟨_, rfl⟩
  rw [hq] at HR ⊢
  clear hq HM
  have HB1 : Hid (Below w.heap.size w w1) := ((Below.refl _ _).alloc (Nat.le_refl _) _).trans (hb1.mono (by simp))
  have HX1 := Lib.hid ((hb1.block w.heap.size (by simp)).trans HX.out)
  have hlt : w.heap.size < w1.heap.size := by have := hb1.size; simp at this; omega
  clear hb1 HX
  cases q with
  | false =>
    obtain ⟨a0, a1, a4, a5, a6, a7, a8, a9, a10⟩ := bx17 HX1.out
    clear hlt a0 a1 a4 a5 a6 a7 a8 a9
    go_wp2_with fail
    go_ret
    exact ⟨by rw [HR.out]; rfl, HB1.out⟩
  | true =>
    obtain ⟨a0, a1, a4, a5, a6, a7, a8, a9, a10⟩ := bx17 HX1.out
    go_upto_region 5 with fail
    go_cut [3, 4] (fun s3 s4 wx => ∃ g3 g4 : Nat, s3 = .pointer (some ⟨g3, 0, none⟩) ∧ s4 = .pointer (some ⟨g4, 0, none⟩) ∧ Hid (Two3 #[.int .u32 (v0 : Int), .int .i64 l0, .slice A0 n0 c0] #[.int .u32 (v1 : Int), .int .i64 l1, .slice A1 n1 c1] g3 g4 w1 wx))
    case first =>
      go_region
      all_goals
        go_wp2_with fail
        go_meet
        first
          | exact ⟨_, _, rfl, rfl, two3_new _ _ w1⟩
          | exact ⟨_, _, rfl, rfl, two3_swap _ _ w1⟩
    case rest =>
      clear a0 a1 a4 a5 a6 a7 a8 a9 a10
      obtain ⟨g3, g4, rfl, rfl, hz⟩ := hcut
      obtain ⟨z1, z2, hbx⟩ := hz.out
      have Z2 := Lib.hid z2
      have HBX := Lib.hid hbx
      have HXC := Lib.hid ((hbx.block w.heap.size hlt).trans HX1.out)
      have L4 : Hid (g4 < wc.heap.size) := (Array.getElem?_eq_some_iff.1 z2).1
      have LW : Hid (w.heap.size < wc.heap.size) := Nat.lt_of_lt_of_le hlt hbx.size
      have HBW : Hid (Below w.heap.size w wc) := HB1.out.trans (hbx.mono HB1.out.size)
      obtain ⟨x0, x1, x2⟩ := bx3 z1
      clear z1 z2 hbx hz HX1 hlt HB1
      go_wp2_with fail
      refine (filled_any v0 l0 A0 n0 c0 _).mono ?_
      rintro e w2 ⟨rfl, hb2⟩
      clear x0 x1 x2
      obtain ⟨y0, y1, y2⟩ := bx3 ((hb2.block g4 L4.out).trans Z2.out)
      have HB2 : Hid (Below w.heap.size w w2) := HBW.out.trans (hb2.mono HBW.out.size)
      obtain ⟨f1, hf1⟩ : ∃ f1, filledB l0 n0 = f1 := ⟨_, rfl⟩
      rw [hf1] at HR ⊢
      clear hf1
      cases f1 with
      | false =>
        clear y0 y1 y2
        go_wp2_with fail
        go_ret
        exact ⟨by rw [HR.out]; rfl, HB2.out⟩
      | true =>
        go_wp2_with fail
        refine (filled_any v1 l1 A1 n1 c1 _).mono ?_
        rintro e w3 ⟨rfl, hb3⟩
        clear y0 y1 y2
        have hb23 : Below wc.heap.size wc w3 := hb2.trans (hb3.mono hb2.size)
        obtain ⟨y0, y1, y2⟩ := bx3 ((hb23.block g4 L4.out).trans Z2.out)
        obtain ⟨-, a1, -⟩ := bx17 ((hb23.block w.heap.size LW.out).trans HXC.out)
        have HB3 : Hid (Below w.heap.size w w3) := HBW.out.trans (hb23.mono HBW.out.size)
        obtain ⟨f2, hf2⟩ : ∃ f2, filledB l1 n1 = f2 := ⟨_, rfl⟩
        rw [hf2] at HR ⊢
        clear hf2 hb2 hb3 hb23
        cases f2 with
        | true =>
          clear y0 y1 y2 a1
          go_wp2_with fail
          go_ret
          exact ⟨by rw [HR.out]; rfl, HB3.out⟩
        | false =>
          by_cases ht : trial = 0
          · subst ht
            go_wp2_with fail
            refine (empty_any v1 l1 B n1 c1 A1 h1 _ (HL1.out.below (HB3.out.mono HB.out)) (Nat.le_trans HB.out HB3.out.size)).mono ?_
            rintro e w4 ⟨rfl, hb4⟩
            have HB4 : Hid (Below w.heap.size w w4) := HB3.out.trans (hb4.mono HB3.out.size)
            clear hb4 y0 y1 y2 a1
            go_wp2_with fail
            go_ret
            exact ⟨by rw [HR.out]; rfl, HB4.out⟩
          · have hne : (trial == 0) = false := by simpa using ht
            have HTT : Hid (decide (trial = 0) = false) := by show _ = _; simpa using ht
            clear ht
            go_wp2_with fail
            go_ret
            exact ⟨by rw [HR.out, HTT.out]; rfl, HB3.out⟩
set_option maxRecDepth 100000 in
set_option maxHeartbeats 1600000 in
theorem may_0f (trial : Int) (flo gen v0 : Nat) (l0 : Int) (A0 : Option Addr) (n0 c0 : Nat) (v1 : Nat) (l1 : Int) (A1 : Option Addr) (n1 c1 : Nat) (s v : Nat) (l z p : Int) (A : Option Addr) (n c B : Nat) (h0 h1 h : List UInt8) (w : World)
    (hl0 : Row w B A0 n0 (bv h0)) (hl1 : Row w B A1 n1 (bv h1)) (hl : Row w B A n (bv h)) (hB : B ≤ w.heap.size) (ht0 : 0 ≤ trial) (ht3 : trial ≤ 3) :
    Calls Try.prog 9 #[.agg #[.int .i64 0, .int .i64 trial, .int .u32 (flo : Int), .int .u32 (gen : Int), .int .u32 (v0 : Int), .int .i64 l0, .slice A0 n0 c0, .int .u32 (v1 : Int), .int .i64 l1, .slice A1 n1 c1, .bool false, .int .u32 (s : Int), .int .u32 (v : Int), .int .i64 l, .int .i64 z, .int .i64 p, .slice A n c]] w fun e w' => e = .returned (.bool (mayB2 0 trial v0 l0 h0 v1 l1 h1 false s v l z p h)) ∧ Below w.heap.size w w' := by
  have HL0 := Lib.hid hl0
  have HL1 := Lib.hid hl1
  have HL := Lib.hid hl
  have HB := Lib.hid hB
  have HX := Lib.hid (heap_alloc_new w (.cells #[.int .i64 0, .int .i64 trial, .int .u32 (flo : Int), .int .u32 (gen : Int), .int .u32 (v0 : Int), .int .i64 l0, .slice A0 n0 c0, .int .u32 (v1 : Int), .int .i64 l1, .slice A1 n1 c1, .bool false, .int .u32 (s : Int), .int .u32 (v : Int), .int .i64 l, .int .i64 z, .int .i64 p, .slice A n c] 30))
  have HT0 := Lib.hid ht0
  have HT3 := Lib.hid ht3
  have HR : Hid (mayB2 0 trial v0 l0 h0 v1 l1 h1 false s v l z p h = (decide (s = 0 ∧ v = 0 ∧ l = 0 ∧ z = 0 ∧ p = 0 ∧ h = []) && (filledB l0 n0 && (filledB l1 n1 || (decide (trial = 0) && emptyB v1 l1 h1))))) := by
    show _ = _
    simp [mayB2, ht0, ht3, hl0.blen, hl1.blen]
  clear hl0 hl1 hl hB
  go_enter Try.func9, Try.ntmps9
  go_wp2_with fail
  refine (manSame_any s v 0 0 l z p 0 0 0 B n c 0 0 A none h [] _ (HL.out.alloc HB.out _) (Row.nil _ _ _) (by simp; have := HB.out; omega)).mono ?_
  rintro e w1 ⟨q, rfl, hq, hb1⟩
  rw [← hq.out] at HR
  clear hq
  have HB1 : Hid (Below w.heap.size w w1) := ((Below.refl _ _).alloc (Nat.le_refl _) _).trans (hb1.mono (by simp))
  have HX1 := Lib.hid ((hb1.block w.heap.size (by simp)).trans HX.out)
  have hlt : w.heap.size < w1.heap.size := by have := hb1.size; simp at this; omega
  clear hb1 HX
  cases q with
  | false =>
    obtain ⟨a0, a1, a4, a5, a6, a7, a8, a9, a10⟩ := bx17 HX1.out
    clear hlt a0 a1 a4 a5 a6 a7 a8 a9
    go_wp2_with fail
    go_ret
    exact ⟨by rw [HR.out]; rfl, HB1.out⟩
  | true =>
    obtain ⟨a0, a1, a4, a5, a6, a7, a8, a9, a10⟩ := bx17 HX1.out
    go_upto_region 5 with fail
    go_cut [3, 4] (fun s3 s4 wx => ∃ g3 g4 : Nat, s3 = .pointer (some ⟨g3, 0, none⟩) ∧ s4 = .pointer (some ⟨g4, 0, none⟩) ∧ Hid (Two3 #[.int .u32 (v0 : Int), .int .i64 l0, .slice A0 n0 c0] #[.int .u32 (v1 : Int), .int .i64 l1, .slice A1 n1 c1] g3 g4 w1 wx))
    case first =>
      go_region
      all_goals
        go_wp2_with fail
        go_meet
        first
          | exact ⟨_, _, rfl, rfl, two3_new _ _ w1⟩
          | exact ⟨_, _, rfl, rfl, two3_swap _ _ w1⟩
    case rest =>
      clear a0 a1 a4 a5 a6 a7 a8 a9 a10
      obtain ⟨g3, g4, rfl, rfl, hz⟩ := hcut
      obtain ⟨z1, z2, hbx⟩ := hz.out
      have Z2 := Lib.hid z2
      have HBX := Lib.hid hbx
      have HXC := Lib.hid ((hbx.block w.heap.size hlt).trans HX1.out)
      have L4 : Hid (g4 < wc.heap.size) := (Array.getElem?_eq_some_iff.1 z2).1
      have LW : Hid (w.heap.size < wc.heap.size) := Nat.lt_of_lt_of_le hlt hbx.size
      have HBW : Hid (Below w.heap.size w wc) := HB1.out.trans (hbx.mono HB1.out.size)
      obtain ⟨x0, x1, x2⟩ := bx3 z1
      clear z1 z2 hbx hz HX1 hlt HB1
      go_wp2_with fail
      refine (filled_any v0 l0 A0 n0 c0 _).mono ?_
      rintro e w2 ⟨rfl, hb2⟩
      clear x0 x1 x2
      obtain ⟨y0, y1, y2⟩ := bx3 ((hb2.block g4 L4.out).trans Z2.out)
      have HB2 : Hid (Below w.heap.size w w2) := HBW.out.trans (hb2.mono HBW.out.size)
      obtain ⟨f1, hf1⟩ : ∃ f1, filledB l0 n0 = f1 := ⟨_, rfl⟩
      rw [hf1] at HR ⊢
      clear hf1
      cases f1 with
      | false =>
        clear y0 y1 y2
        go_wp2_with fail
        go_ret
        exact ⟨by rw [HR.out]; rfl, HB2.out⟩
      | true =>
        go_wp2_with fail
        refine (filled_any v1 l1 A1 n1 c1 _).mono ?_
        rintro e w3 ⟨rfl, hb3⟩
        clear y0 y1 y2
        have hb23 : Below wc.heap.size wc w3 := hb2.trans (hb3.mono hb2.size)
        obtain ⟨y0, y1, y2⟩ := bx3 ((hb23.block g4 L4.out).trans Z2.out)
        obtain ⟨-, a1, -⟩ := bx17 ((hb23.block w.heap.size LW.out).trans HXC.out)
        have HB3 : Hid (Below w.heap.size w w3) := HBW.out.trans (hb23.mono HBW.out.size)
        obtain ⟨f2, hf2⟩ : ∃ f2, filledB l1 n1 = f2 := ⟨_, rfl⟩
        rw [hf2] at HR ⊢
        clear hf2 hb2 hb3 hb23
        cases f2 with
        | true =>
          clear y0 y1 y2 a1
          go_wp2_with fail
          go_ret
          exact ⟨by rw [HR.out]; rfl, HB3.out⟩
        | false =>
          by_cases ht : trial = 0
          · subst ht
            go_wp2_with fail
            refine (empty_any v1 l1 B n1 c1 A1 h1 _ (HL1.out.below (HB3.out.mono HB.out)) (Nat.le_trans HB.out HB3.out.size)).mono ?_
            rintro e w4 ⟨rfl, hb4⟩
            have HB4 : Hid (Below w.heap.size w w4) := HB3.out.trans (hb4.mono HB3.out.size)
            clear hb4 y0 y1 y2 a1
            go_wp2_with fail
            go_ret
            exact ⟨by rw [HR.out]; rfl, HB4.out⟩
          · have hne : (trial == 0) = false := by simpa using ht
            have HTT : Hid (decide (trial = 0) = false) := by show _ = _; simpa using ht
            clear ht
            go_wp2_with fail
            go_ret
            exact ⟨by rw [HR.out, HTT.out]; rfl, HB3.out⟩
set_option maxRecDepth 100000 in
set_option maxHeartbeats 1600000 in
theorem may_1t (trial : Int) (flo gen v0 : Nat) (l0 : Int) (A0 : Option Addr) (n0 c0 : Nat) (v1 : Nat) (l1 : Int) (A1 : Option Addr) (n1 c1 : Nat) (s v : Nat) (l z p : Int) (A : Option Addr) (n c B : Nat) (h0 h1 h : List UInt8) (w : World)
    (hl0 : Row w B A0 n0 (bv h0)) (hl1 : Row w B A1 n1 (bv h1)) (hl : Row w B A n (bv h)) (hB : B ≤ w.heap.size) (ht0 : 0 ≤ trial) (ht3 : trial ≤ 3) :
    Calls Try.prog 9 #[.agg #[.int .i64 1, .int .i64 trial, .int .u32 (flo : Int), .int .u32 (gen : Int), .int .u32 (v0 : Int), .int .i64 l0, .slice A0 n0 c0, .int .u32 (v1 : Int), .int .i64 l1, .slice A1 n1 c1, .bool true, .int .u32 (s : Int), .int .u32 (v : Int), .int .i64 l, .int .i64 z, .int .i64 p, .slice A n c]] w fun e w' => e = .returned (.bool (mayB2 1 trial v0 l0 h0 v1 l1 h1 true s v l z p h)) ∧ Below w.heap.size w w' := by
  have HL0 := Lib.hid hl0
  have HL1 := Lib.hid hl1
  have HL := Lib.hid hl
  have HB := Lib.hid hB
  have HX := Lib.hid (heap_alloc_new w (.cells #[.int .i64 1, .int .i64 trial, .int .u32 (flo : Int), .int .u32 (gen : Int), .int .u32 (v0 : Int), .int .i64 l0, .slice A0 n0 c0, .int .u32 (v1 : Int), .int .i64 l1, .slice A1 n1 c1, .bool true, .int .u32 (s : Int), .int .u32 (v : Int), .int .i64 l, .int .i64 z, .int .i64 p, .slice A n c] 30))
  have HT0 := Lib.hid ht0
  have HT3 := Lib.hid ht3
  have HR : Hid (mayB2 1 trial v0 l0 h0 v1 l1 h1 true s v l z p h = (manB l z p n && (filledB l1 n1 && (filledB l0 n0 || (decide (trial = 0) && emptyB v0 l0 h0))))) := by
    show _ = _
    simp [mayB2, ht0, ht3, hl0.blen, hl1.blen, hl.blen]
  clear hl0 hl1 hl hB
  go_enter Try.func9, Try.ntmps9
  go_wp2_with fail
  refine (manMay_any s v l z p A n c _).mono ?_
  rintro e w1 ⟨rfl, hb1⟩
  have HM : Hid (manB l z p n = manB l z p n) := rfl
  obtain ⟨q, hq⟩ : ∃ q, manB l z p n = q := ⟨_, rfl⟩
  rw [hq] at HR ⊢
  clear hq HM
  have HB1 : Hid (Below w.heap.size w w1) := ((Below.refl _ _).alloc (Nat.le_refl _) _).trans (hb1.mono (by simp))
  have HX1 := Lib.hid ((hb1.block w.heap.size (by simp)).trans HX.out)
  have hlt : w.heap.size < w1.heap.size := by have := hb1.size; simp at this; omega
  clear hb1 HX
  cases q with
  | false =>
    obtain ⟨a0, a1, a4, a5, a6, a7, a8, a9, a10⟩ := bx17 HX1.out
    clear hlt a0 a1 a4 a5 a6 a7 a8 a9
    go_wp2_with fail
    go_ret
    exact ⟨by rw [HR.out]; rfl, HB1.out⟩
  | true =>
    obtain ⟨a0, a1, a4, a5, a6, a7, a8, a9, a10⟩ := bx17 HX1.out
    go_upto_region 5 with fail
    go_cut [3, 4] (fun s3 s4 wx => ∃ g3 g4 : Nat, s3 = .pointer (some ⟨g3, 0, none⟩) ∧ s4 = .pointer (some ⟨g4, 0, none⟩) ∧ Hid (Two3 #[.int .u32 (v1 : Int), .int .i64 l1, .slice A1 n1 c1] #[.int .u32 (v0 : Int), .int .i64 l0, .slice A0 n0 c0] g3 g4 w1 wx))
    case first =>
      go_region
      all_goals
        go_wp2_with fail
        go_meet
        first
          | exact ⟨_, _, rfl, rfl, two3_new _ _ w1⟩
          | exact ⟨_, _, rfl, rfl, two3_swap _ _ w1⟩
    case rest =>
      clear a0 a1 a4 a5 a6 a7 a8 a9 a10
      obtain ⟨g3, g4, rfl, rfl, hz⟩ := hcut
      obtain ⟨z1, z2, hbx⟩ := hz.out
      have Z2 := Lib.hid z2
      have HBX := Lib.hid hbx
      have HXC := Lib.hid ((hbx.block w.heap.size hlt).trans HX1.out)
      have L4 : Hid (g4 < wc.heap.size) := (Array.getElem?_eq_some_iff.1 z2).1
      have LW : Hid (w.heap.size < wc.heap.size) := Nat.lt_of_lt_of_le hlt hbx.size
      have HBW : Hid (Below w.heap.size w wc) := HB1.out.trans (hbx.mono HB1.out.size)
      obtain ⟨x0, x1, x2⟩ := bx3 z1
      clear z1 z2 hbx hz HX1 hlt HB1
      go_wp2_with fail
      refine (filled_any v1 l1 A1 n1 c1 _).mono ?_
      rintro e w2 ⟨rfl, hb2⟩
      clear x0 x1 x2
      obtain ⟨y0, y1, y2⟩ := bx3 ((hb2.block g4 L4.out).trans Z2.out)
      have HB2 : Hid (Below w.heap.size w w2) := HBW.out.trans (hb2.mono HBW.out.size)
      obtain ⟨f1, hf1⟩ : ∃ f1, filledB l1 n1 = f1 := ⟨_, rfl⟩
      rw [hf1] at HR ⊢
      clear hf1
      cases f1 with
      | false =>
        clear y0 y1 y2
        go_wp2_with fail
        go_ret
        exact ⟨by rw [HR.out]; rfl, HB2.out⟩
      | true =>
        go_wp2_with fail
        refine (filled_any v0 l0 A0 n0 c0 _).mono ?_
        rintro e w3 ⟨rfl, hb3⟩
        clear y0 y1 y2
        have hb23 : Below wc.heap.size wc w3 := hb2.trans (hb3.mono hb2.size)
        obtain ⟨y0, y1, y2⟩ := bx3 ((hb23.block g4 L4.out).trans Z2.out)
        obtain ⟨-, a1, -⟩ := bx17 ((hb23.block w.heap.size LW.out).trans HXC.out)
        have HB3 : Hid (Below w.heap.size w w3) := HBW.out.trans (hb23.mono HBW.out.size)
        obtain ⟨f2, hf2⟩ : ∃ f2, filledB l0 n0 = f2 := ⟨_, rfl⟩
        rw [hf2] at HR ⊢
        clear hf2 hb2 hb3 hb23
        cases f2 with
        | true =>
          clear y0 y1 y2 a1
          go_wp2_with fail
          go_ret
          exact ⟨by rw [HR.out]; rfl, HB3.out⟩
        | false =>
          by_cases ht : trial = 0
          · subst ht
            go_wp2_with fail
            refine (empty_any v0 l0 B n0 c0 A0 h0 _ (HL0.out.below (HB3.out.mono HB.out)) (Nat.le_trans HB.out HB3.out.size)).mono ?_
            rintro e w4 ⟨rfl, hb4⟩
            have HB4 : Hid (Below w.heap.size w w4) := HB3.out.trans (hb4.mono HB3.out.size)
            clear hb4 y0 y1 y2 a1
            go_wp2_with fail
            go_ret
            exact ⟨by rw [HR.out]; rfl, HB4.out⟩
          · have hne : (trial == 0) = false := by simpa using ht
            have HTT : Hid (decide (trial = 0) = false) := by show _ = _; simpa using ht
            clear ht
            go_wp2_with fail
            go_ret
            exact ⟨by rw [HR.out, HTT.out]; rfl, HB3.out⟩
set_option maxRecDepth 100000 in
set_option maxHeartbeats 1600000 in
theorem may_1f (trial : Int) (flo gen v0 : Nat) (l0 : Int) (A0 : Option Addr) (n0 c0 : Nat) (v1 : Nat) (l1 : Int) (A1 : Option Addr) (n1 c1 : Nat) (s v : Nat) (l z p : Int) (A : Option Addr) (n c B : Nat) (h0 h1 h : List UInt8) (w : World)
    (hl0 : Row w B A0 n0 (bv h0)) (hl1 : Row w B A1 n1 (bv h1)) (hl : Row w B A n (bv h)) (hB : B ≤ w.heap.size) (ht0 : 0 ≤ trial) (ht3 : trial ≤ 3) :
    Calls Try.prog 9 #[.agg #[.int .i64 1, .int .i64 trial, .int .u32 (flo : Int), .int .u32 (gen : Int), .int .u32 (v0 : Int), .int .i64 l0, .slice A0 n0 c0, .int .u32 (v1 : Int), .int .i64 l1, .slice A1 n1 c1, .bool false, .int .u32 (s : Int), .int .u32 (v : Int), .int .i64 l, .int .i64 z, .int .i64 p, .slice A n c]] w fun e w' => e = .returned (.bool (mayB2 1 trial v0 l0 h0 v1 l1 h1 false s v l z p h)) ∧ Below w.heap.size w w' := by
  have HL0 := Lib.hid hl0
  have HL1 := Lib.hid hl1
  have HL := Lib.hid hl
  have HB := Lib.hid hB
  have HX := Lib.hid (heap_alloc_new w (.cells #[.int .i64 1, .int .i64 trial, .int .u32 (flo : Int), .int .u32 (gen : Int), .int .u32 (v0 : Int), .int .i64 l0, .slice A0 n0 c0, .int .u32 (v1 : Int), .int .i64 l1, .slice A1 n1 c1, .bool false, .int .u32 (s : Int), .int .u32 (v : Int), .int .i64 l, .int .i64 z, .int .i64 p, .slice A n c] 30))
  have HT0 := Lib.hid ht0
  have HT3 := Lib.hid ht3
  have HR : Hid (mayB2 1 trial v0 l0 h0 v1 l1 h1 false s v l z p h = (decide (s = 0 ∧ v = 0 ∧ l = 0 ∧ z = 0 ∧ p = 0 ∧ h = []) && (filledB l1 n1 && (filledB l0 n0 || (decide (trial = 0) && emptyB v0 l0 h0))))) := by
    show _ = _
    simp [mayB2, ht0, ht3, hl0.blen, hl1.blen]
  clear hl0 hl1 hl hB
  go_enter Try.func9, Try.ntmps9
  go_wp2_with fail
  refine (manSame_any s v 0 0 l z p 0 0 0 B n c 0 0 A none h [] _ (HL.out.alloc HB.out _) (Row.nil _ _ _) (by simp; have := HB.out; omega)).mono ?_
  rintro e w1 ⟨q, rfl, hq, hb1⟩
  rw [← hq.out] at HR
  clear hq
  have HB1 : Hid (Below w.heap.size w w1) := ((Below.refl _ _).alloc (Nat.le_refl _) _).trans (hb1.mono (by simp))
  have HX1 := Lib.hid ((hb1.block w.heap.size (by simp)).trans HX.out)
  have hlt : w.heap.size < w1.heap.size := by have := hb1.size; simp at this; omega
  clear hb1 HX
  cases q with
  | false =>
    obtain ⟨a0, a1, a4, a5, a6, a7, a8, a9, a10⟩ := bx17 HX1.out
    clear hlt a0 a1 a4 a5 a6 a7 a8 a9
    go_wp2_with fail
    go_ret
    exact ⟨by rw [HR.out]; rfl, HB1.out⟩
  | true =>
    obtain ⟨a0, a1, a4, a5, a6, a7, a8, a9, a10⟩ := bx17 HX1.out
    go_upto_region 5 with fail
    go_cut [3, 4] (fun s3 s4 wx => ∃ g3 g4 : Nat, s3 = .pointer (some ⟨g3, 0, none⟩) ∧ s4 = .pointer (some ⟨g4, 0, none⟩) ∧ Hid (Two3 #[.int .u32 (v1 : Int), .int .i64 l1, .slice A1 n1 c1] #[.int .u32 (v0 : Int), .int .i64 l0, .slice A0 n0 c0] g3 g4 w1 wx))
    case first =>
      go_region
      all_goals
        go_wp2_with fail
        go_meet
        first
          | exact ⟨_, _, rfl, rfl, two3_new _ _ w1⟩
          | exact ⟨_, _, rfl, rfl, two3_swap _ _ w1⟩
    case rest =>
      clear a0 a1 a4 a5 a6 a7 a8 a9 a10
      obtain ⟨g3, g4, rfl, rfl, hz⟩ := hcut
      obtain ⟨z1, z2, hbx⟩ := hz.out
      have Z2 := Lib.hid z2
      have HBX := Lib.hid hbx
      have HXC := Lib.hid ((hbx.block w.heap.size hlt).trans HX1.out)
      have L4 : Hid (g4 < wc.heap.size) := (Array.getElem?_eq_some_iff.1 z2).1
      have LW : Hid (w.heap.size < wc.heap.size) := Nat.lt_of_lt_of_le hlt hbx.size
      have HBW : Hid (Below w.heap.size w wc) := HB1.out.trans (hbx.mono HB1.out.size)
      obtain ⟨x0, x1, x2⟩ := bx3 z1
      clear z1 z2 hbx hz HX1 hlt HB1
      go_wp2_with fail
      refine (filled_any v1 l1 A1 n1 c1 _).mono ?_
      rintro e w2 ⟨rfl, hb2⟩
      clear x0 x1 x2
      obtain ⟨y0, y1, y2⟩ := bx3 ((hb2.block g4 L4.out).trans Z2.out)
      have HB2 : Hid (Below w.heap.size w w2) := HBW.out.trans (hb2.mono HBW.out.size)
      obtain ⟨f1, hf1⟩ : ∃ f1, filledB l1 n1 = f1 := ⟨_, rfl⟩
      rw [hf1] at HR ⊢
      clear hf1
      cases f1 with
      | false =>
        clear y0 y1 y2
        go_wp2_with fail
        go_ret
        exact ⟨by rw [HR.out]; rfl, HB2.out⟩
      | true =>
        go_wp2_with fail
        refine (filled_any v0 l0 A0 n0 c0 _).mono ?_
        rintro e w3 ⟨rfl, hb3⟩
        clear y0 y1 y2
        have hb23 : Below wc.heap.size wc w3 := hb2.trans (hb3.mono hb2.size)
        obtain ⟨y0, y1, y2⟩ := bx3 ((hb23.block g4 L4.out).trans Z2.out)
        obtain ⟨-, a1, -⟩ := bx17 ((hb23.block w.heap.size LW.out).trans HXC.out)
        have HB3 : Hid (Below w.heap.size w w3) := HBW.out.trans (hb23.mono HBW.out.size)
        obtain ⟨f2, hf2⟩ : ∃ f2, filledB l0 n0 = f2 := ⟨_, rfl⟩
        rw [hf2] at HR ⊢
        clear hf2 hb2 hb3 hb23
        cases f2 with
        | true =>
          clear y0 y1 y2 a1
          go_wp2_with fail
          go_ret
          exact ⟨by rw [HR.out]; rfl, HB3.out⟩
        | false =>
          by_cases ht : trial = 0
          · subst ht
            go_wp2_with fail
            refine (empty_any v0 l0 B n0 c0 A0 h0 _ (HL0.out.below (HB3.out.mono HB.out)) (Nat.le_trans HB.out HB3.out.size)).mono ?_
            rintro e w4 ⟨rfl, hb4⟩
            have HB4 : Hid (Below w.heap.size w w4) := HB3.out.trans (hb4.mono HB3.out.size)
            clear hb4 y0 y1 y2 a1
            go_wp2_with fail
            go_ret
            exact ⟨by rw [HR.out]; rfl, HB4.out⟩
          · have hne : (trial == 0) = false := by simpa using ht
            have HTT : Hid (decide (trial = 0) = false) := by show _ = _; simpa using ht
            clear ht
            go_wp2_with fail
            go_ret
            exact ⟨by rw [HR.out, HTT.out]; rfl, HB3.out⟩
set_option maxRecDepth 100000 in
set_option maxHeartbeats 400000 in
theorem may_act (act trial : Int) (flo gen v0 : Nat) (l0 : Int) (A0 : Option Addr) (n0 c0 : Nat) (v1 : Nat) (l1 : Int) (A1 : Option Addr) (n1 c1 : Nat) (on : Bool) (s v : Nat) (l z p : Int) (A : Option Addr) (n c : Nat) (h0 h1 h : List UInt8) (w : World) (hbad : act ≠ 0 ∧ act ≠ 1) :
    Calls Try.prog 9 #[.agg #[.int .i64 act, .int .i64 trial, .int .u32 (flo : Int), .int .u32 (gen : Int), .int .u32 (v0 : Int), .int .i64 l0, .slice A0 n0 c0, .int .u32 (v1 : Int), .int .i64 l1, .slice A1 n1 c1, .bool on, .int .u32 (s : Int), .int .u32 (v : Int), .int .i64 l, .int .i64 z, .int .i64 p, .slice A n c]] w fun e w' => e = .returned (.bool (mayB2 act trial v0 l0 h0 v1 l1 h1 on s v l z p h)) ∧ Below w.heap.size w w' := by
  have HR : Hid (mayB2 act trial v0 l0 h0 v1 l1 h1 on s v l z p h = false) := by
    show _ = _
    have : ¬ (act = 0 ∨ act = 1) := by omega
    simp [mayB2, this]
  have b0 : (act != 0) = true := by simp; omega
  have b1 : (act != 1) = true := by simp; omega
  have b2 : (act == 0) = false := by simp; omega
  have b3 : (act == 1) = false := by simp; omega
  go_enter Try.func9, Try.ntmps9
  go_wp2_with fail
  all_goals (go_ret; exact ⟨by rw [HR.out]; rfl, (Below.refl _ _).alloc (Nat.le_refl _) _⟩)
set_option maxRecDepth 100000 in
set_option maxHeartbeats 400000 in
theorem may_low (act trial : Int) (flo gen v0 : Nat) (l0 : Int) (A0 : Option Addr) (n0 c0 : Nat) (v1 : Nat) (l1 : Int) (A1 : Option Addr) (n1 c1 : Nat) (on : Bool) (s v : Nat) (l z p : Int) (A : Option Addr) (n c : Nat) (h0 h1 h : List UInt8) (w : World) (hbad : trial < 0) :
    Calls Try.prog 9 #[.agg #[.int .i64 act, .int .i64 trial, .int .u32 (flo : Int), .int .u32 (gen : Int), .int .u32 (v0 : Int), .int .i64 l0, .slice A0 n0 c0, .int .u32 (v1 : Int), .int .i64 l1, .slice A1 n1 c1, .bool on, .int .u32 (s : Int), .int .u32 (v : Int), .int .i64 l, .int .i64 z, .int .i64 p, .slice A n c]] w fun e w' => e = .returned (.bool (mayB2 act trial v0 l0 h0 v1 l1 h1 on s v l z p h)) ∧ Below w.heap.size w w' := by
  have HR : Hid (mayB2 act trial v0 l0 h0 v1 l1 h1 on s v l z p h = false) := by
    show _ = _
    have : ¬ (0 ≤ trial) := by omega
    simp [mayB2, this]
  go_enter Try.func9, Try.ntmps9
  go_wp2_with fail
  all_goals (go_ret; exact ⟨by rw [HR.out]; rfl, (Below.refl _ _).alloc (Nat.le_refl _) _⟩)
set_option maxRecDepth 100000 in
set_option maxHeartbeats 400000 in
theorem may_high (act trial : Int) (flo gen v0 : Nat) (l0 : Int) (A0 : Option Addr) (n0 c0 : Nat) (v1 : Nat) (l1 : Int) (A1 : Option Addr) (n1 c1 : Nat) (on : Bool) (s v : Nat) (l z p : Int) (A : Option Addr) (n c : Nat) (h0 h1 h : List UInt8) (w : World) (hbad : 3 < trial) :
    Calls Try.prog 9 #[.agg #[.int .i64 act, .int .i64 trial, .int .u32 (flo : Int), .int .u32 (gen : Int), .int .u32 (v0 : Int), .int .i64 l0, .slice A0 n0 c0, .int .u32 (v1 : Int), .int .i64 l1, .slice A1 n1 c1, .bool on, .int .u32 (s : Int), .int .u32 (v : Int), .int .i64 l, .int .i64 z, .int .i64 p, .slice A n c]] w fun e w' => e = .returned (.bool (mayB2 act trial v0 l0 h0 v1 l1 h1 on s v l z p h)) ∧ Below w.heap.size w w' := by
  have HR : Hid (mayB2 act trial v0 l0 h0 v1 l1 h1 on s v l z p h = false) := by
    show _ = _
    have : ¬ (trial ≤ 3) := by omega
    simp [mayB2, this]
  go_enter Try.func9, Try.ntmps9
  go_wp2_with fail
  all_goals (go_ret; exact ⟨by rw [HR.out]; rfl, (Below.refl _ _).alloc (Nat.le_refl _) _⟩)
theorem may_any (act trial : Int) (flo gen v0 : Nat) (l0 : Int) (A0 : Option Addr) (n0 c0 : Nat) (v1 : Nat) (l1 : Int) (A1 : Option Addr) (n1 c1 : Nat) (on : Bool) (s v : Nat) (l z p : Int) (A : Option Addr) (n c B : Nat) (h0 h1 h : List UInt8) (w : World) (hl0 : Row w B A0 n0 (bv h0)) (hl1 : Row w B A1 n1 (bv h1)) (hl : Row w B A n (bv h)) (hB : B ≤ w.heap.size) :
    Calls Try.prog 9 #[.agg #[.int .i64 act, .int .i64 trial, .int .u32 (flo : Int), .int .u32 (gen : Int), .int .u32 (v0 : Int), .int .i64 l0, .slice A0 n0 c0, .int .u32 (v1 : Int), .int .i64 l1, .slice A1 n1 c1, .bool on, .int .u32 (s : Int), .int .u32 (v : Int), .int .i64 l, .int .i64 z, .int .i64 p, .slice A n c]] w fun e w' => e = .returned (.bool (mayB2 act trial v0 l0 h0 v1 l1 h1 on s v l z p h)) ∧ Below w.heap.size w w' := by
  by_cases ha : act ≠ 0 ∧ act ≠ 1
  · exact may_act act trial flo gen v0 l0 A0 n0 c0 v1 l1 A1 n1 c1 on s v l z p A n c h0 h1 h w ha
  by_cases h3 : 3 < trial
  · exact may_high act trial flo gen v0 l0 A0 n0 c0 v1 l1 A1 n1 c1 on s v l z p A n c h0 h1 h w h3
  by_cases h4 : trial < 0
  · exact may_low act trial flo gen v0 l0 A0 n0 c0 v1 l1 A1 n1 c1 on s v l z p A n c h0 h1 h w h4
  rcases (by omega : act = 0 ∨ act = 1) with rfl | rfl <;> cases on
  · exact may_0f trial flo gen v0 l0 A0 n0 c0 v1 l1 A1 n1 c1 s v l z p A n c B h0 h1 h w hl0 hl1 hl hB (by omega) (by omega)
  · exact may_0t trial flo gen v0 l0 A0 n0 c0 v1 l1 A1 n1 c1 s v l z p A n c B h0 h1 h w hl0 hl1 hl hB (by omega) (by omega)
  · exact may_1f trial flo gen v0 l0 A0 n0 c0 v1 l1 A1 n1 c1 s v l z p A n c B h0 h1 h w hl0 hl1 hl hB (by omega) (by omega)
  · exact may_1t trial flo gen v0 l0 A0 n0 c0 v1 l1 A1 n1 c1 s v l z p A n c B h0 h1 h w hl0 hl1 hl hB (by omega) (by omega)
end Go.Proofs.Ytdipccjgpkedhaa
