/- state.Same: by contract, of states as data. -/
import Derived.Test.YtdipccjgpkedhaaSesMath
namespace Go.Proofs.Ytdipccjgpkedhaa
open Go.RowKit
def LSt.eqb (L K : LSt) : Bool := decide (L.act = K.act ∧ L.trial = K.trial ∧ L.flo = K.flo ∧ L.gen = K.gen ∧ (L.v0 = K.v0 ∧ L.l0 = K.l0 ∧ L.h0 = K.h0) ∧ (L.v1 = K.v1 ∧ L.l1 = K.l1 ∧ L.h1 = K.h1) ∧ L.on = K.on ∧ (L.m.s = K.m.s ∧ L.m.v = K.m.v ∧ L.m.l = K.m.l ∧ L.m.z = K.m.z ∧ L.m.p = K.m.p ∧ L.m.h = K.m.h))
theorem eqb_refl (L : LSt) : L.eqb L = true := by simp [LSt.eqb]
def SameOk (b : Bool) (w : World) (e : Ending) (w' : World) : Prop := e = .returned (.bool b) ∧ Below w.heap.size w w'
set_option maxRecDepth 100000 in
set_option maxHeartbeats 3200000 in
theorem sameS {w : World} {P Q : Nat → Prop} {cs ds : Array Value} {L K : LSt} (hl : IsSt w P cs L) (hk : IsSt w Q ds K) :
    Calls Try.prog 11 #[.agg cs, .agg ds] w (SameOk (L.eqb K) w) := by
  obtain ⟨LA0, Lc0, LA1, Lc1, LA, Lc, rfl, l0, l1, l2⟩ := hl
  obtain ⟨KA0, Kc0, KA1, Kc1, KA, Kc, rfl, k0, k1, k2⟩ := hk
  have hx := heap_alloc2_old w (.cells (L.cells LA0 Lc0 LA1 Lc1 LA Lc) 30) (.cells (K.cells KA0 Kc0 KA1 Kc1 KA Kc) 30)
  have hy := heap_alloc2_new w (.cells (L.cells LA0 Lc0 LA1 Lc1 LA Lc) 30) (.cells (K.cells KA0 Kc0 KA1 Kc1 KA Kc) 30)
  have hb : Below w.heap.size w ((w.alloc (.cells (L.cells LA0 Lc0 LA1 Lc1 LA Lc) 30)).alloc (.cells (K.cells KA0 Kc0 KA1 Kc1 KA Kc) 30)) := ((Below.refl _ _).alloc (Nat.le_refl _) _).alloc (by simp) _
  have HL := Lib.hid (And.intro (Array.getElem?_eq_some_iff.1 hx).1 hx)
  have HK := Lib.hid (And.intro (Array.getElem?_eq_some_iff.1 hy).1 hy)
  have HB := Lib.hid hb
  have L0 := Lib.hid l0
  have L1 := Lib.hid l1
  have L2 := Lib.hid l2
  have K0 := Lib.hid k0
  have K1 := Lib.hid k1
  have K2 := Lib.hid k2
  clear hx hy hb l0 l1 l2 k0 k1 k2
  obtain ⟨B, hB⟩ : ∃ B, L.eqb K = B := ⟨_, rfl⟩
  rw [hB]
  have HE := Lib.hid hB
  clear hB
  unfold LSt.eqb at HE
  go_enter Try.func11, Try.ntmps11
  go_upto_region 1 with fail
  generalize ((w.alloc (.cells (L.cells LA0 Lc0 LA1 Lc1 LA Lc) 30)).alloc (.cells (K.cells KA0 Kc0 KA1 Kc1 KA Kc) 30)) = w1 at *
  have xL := ((Below.refl w1.heap.size w1).block w.heap.size HL.out.1).trans HL.out.2
  have cL0 : w1.cell? ⟨w.heap.size, 0, none⟩ = some (.int .i64 L.act) := by rw [cell_of_row w1 _ 0 _ _ (0, 0) xL]; rfl
  have cL1 : w1.cell? ⟨w.heap.size, 1, none⟩ = some (.int .i64 L.trial) := by rw [cell_of_row w1 _ 1 _ _ (0, 0) xL]; rfl
  have cL2 : w1.cell? ⟨w.heap.size, 2, none⟩ = some (.int .u32 (L.flo : Int)) := by rw [cell_of_row w1 _ 2 _ _ (0, 0) xL]; rfl
  have cL3 : w1.cell? ⟨w.heap.size, 3, none⟩ = some (.int .u32 (L.gen : Int)) := by rw [cell_of_row w1 _ 3 _ _ (0, 0) xL]; rfl
  have cL4 : w1.cell? ⟨w.heap.size, 4, none⟩ = some (.int .u32 (L.v0 : Int)) := by rw [cell_of_row w1 _ 4 _ _ (0, 0) xL]; rfl
  have cL5 : w1.cell? ⟨w.heap.size, 5, none⟩ = some (.int .i64 L.l0) := by rw [cell_of_row w1 _ 5 _ _ (0, 0) xL]; rfl
  have cL6 : w1.cell? ⟨w.heap.size, 6, none⟩ = some (.slice LA0 L.h0.length Lc0) := by rw [cell_of_row w1 _ 6 _ _ (0, 0) xL]; rfl
  clear xL
  have xK := ((Below.refl w1.heap.size w1).block (w.heap.size + 1) HK.out.1).trans HK.out.2
  have cK0 : w1.cell? ⟨(w.heap.size + 1), 0, none⟩ = some (.int .i64 K.act) := by rw [cell_of_row w1 _ 0 _ _ (0, 0) xK]; rfl
  have cK1 : w1.cell? ⟨(w.heap.size + 1), 1, none⟩ = some (.int .i64 K.trial) := by rw [cell_of_row w1 _ 1 _ _ (0, 0) xK]; rfl
  have cK2 : w1.cell? ⟨(w.heap.size + 1), 2, none⟩ = some (.int .u32 (K.flo : Int)) := by rw [cell_of_row w1 _ 2 _ _ (0, 0) xK]; rfl
  have cK3 : w1.cell? ⟨(w.heap.size + 1), 3, none⟩ = some (.int .u32 (K.gen : Int)) := by rw [cell_of_row w1 _ 3 _ _ (0, 0) xK]; rfl
  have cK4 : w1.cell? ⟨(w.heap.size + 1), 4, none⟩ = some (.int .u32 (K.v0 : Int)) := by rw [cell_of_row w1 _ 4 _ _ (0, 0) xK]; rfl
  have cK5 : w1.cell? ⟨(w.heap.size + 1), 5, none⟩ = some (.int .i64 K.l0) := by rw [cell_of_row w1 _ 5 _ _ (0, 0) xK]; rfl
  have cK6 : w1.cell? ⟨(w.heap.size + 1), 6, none⟩ = some (.slice KA0 K.h0.length Kc0) := by rw [cell_of_row w1 _ 6 _ _ (0, 0) xK]; rfl
  clear xK
  by_cases e0 : L.act = K.act
  case neg =>
    have q0 : ((L.act : Int) == (K.act : Int)) = false := by simp; omega
    have hbf : B = false := by rw [← HE.out]; simp [e0]
    subst hbf
    go_wp2_with fail
    go_ret
    exact ⟨rfl, HB.out⟩
  have q0 : ((L.act : Int) == (K.act : Int)) = true := by simp; omega
  by_cases e1 : L.trial = K.trial
  case neg =>
    have q1 : ((L.trial : Int) == (K.trial : Int)) = false := by simp; omega
    have hbf : B = false := by rw [← HE.out]; simp [e1]
    subst hbf
    go_wp2_with fail
    go_ret
    exact ⟨rfl, HB.out⟩
  have q1 : ((L.trial : Int) == (K.trial : Int)) = true := by simp; omega
  by_cases e2 : L.flo = K.flo
  case neg =>
    have q2 : ((L.flo : Int) == (K.flo : Int)) = false := by simp; omega
    have hbf : B = false := by rw [← HE.out]; simp [e2]
    subst hbf
    go_wp2_with fail
    go_ret
    exact ⟨rfl, HB.out⟩
  have q2 : ((L.flo : Int) == (K.flo : Int)) = true := by simp; omega
  by_cases e3 : L.gen = K.gen
  case neg =>
    have q3 : ((L.gen : Int) == (K.gen : Int)) = false := by simp; omega
    have hbf : B = false := by rw [← HE.out]; simp [e3]
    subst hbf
    go_wp2_with fail
    go_ret
    exact ⟨rfl, HB.out⟩
  have q3 : ((L.gen : Int) == (K.gen : Int)) = true := by simp; omega
  go_wp2_with fail
  refine (slotSame_any L.v0 K.v0 L.l0 K.l0 w1.heap.size L.h0.length Lc0 K.h0.length Kc0 LA0 KA0 L.h0 K.h0 w1 ((L0.out.row.below HB.out).more HB.out.size) ((K0.out.row.below HB.out).more HB.out.size) (Nat.le_refl _)).mono ?_
  rintro e w2 ⟨b, rfl, hbb, hb2⟩
  have HB2 := Lib.hid (HB.out.trans (hb2.mono HB.out.size))
  have H12 := Lib.hid hb2
  have HBB := Lib.hid hbb.out
  clear cL0 cL1 cL2 cL3 cL4 cL5 cL6 cK0 cK1 cK2 cK3 cK4 cK5 cK6
  clear hbb hb2
  have xL := (H12.out.block w.heap.size HL.out.1).trans HL.out.2
  have cL7 : w2.cell? ⟨w.heap.size, 7, none⟩ = some (.int .u32 (L.v1 : Int)) := by rw [cell_of_row w2 _ 7 _ _ (0, 0) xL]; rfl
  have cL8 : w2.cell? ⟨w.heap.size, 8, none⟩ = some (.int .i64 L.l1) := by rw [cell_of_row w2 _ 8 _ _ (0, 0) xL]; rfl
  have cL9 : w2.cell? ⟨w.heap.size, 9, none⟩ = some (.slice LA1 L.h1.length Lc1) := by rw [cell_of_row w2 _ 9 _ _ (0, 0) xL]; rfl
  clear xL
  have xK := (H12.out.block (w.heap.size + 1) HK.out.1).trans HK.out.2
  have cK7 : w2.cell? ⟨(w.heap.size + 1), 7, none⟩ = some (.int .u32 (K.v1 : Int)) := by rw [cell_of_row w2 _ 7 _ _ (0, 0) xK]; rfl
  have cK8 : w2.cell? ⟨(w.heap.size + 1), 8, none⟩ = some (.int .i64 K.l1) := by rw [cell_of_row w2 _ 8 _ _ (0, 0) xK]; rfl
  have cK9 : w2.cell? ⟨(w.heap.size + 1), 9, none⟩ = some (.slice KA1 K.h1.length Kc1) := by rw [cell_of_row w2 _ 9 _ _ (0, 0) xK]; rfl
  clear xK
  cases b with
  | false =>
    have hbf : B = false := by
      rw [← HE.out, decide_eq_false_iff_not]
      intro h
      exact absurd HBB.out (by rw [decide_eq_true h.2.2.2.2.1]; decide)
    subst hbf
    go_wp2_with fail
    go_ret
    exact ⟨rfl, HB2.out⟩
  | true =>
    have E4 := Lib.hid (of_decide_eq_true HBB.out.symm)
    clear HBB
    go_wp2_with fail
    refine (slotSame_any L.v1 K.v1 L.l1 K.l1 w2.heap.size L.h1.length Lc1 K.h1.length Kc1 LA1 KA1 L.h1 K.h1 w2 ((L1.out.row.below HB2.out).more HB2.out.size) ((K1.out.row.below HB2.out).more HB2.out.size) (Nat.le_refl _)).mono ?_
    rintro e w3 ⟨b, rfl, hbb, hb3⟩
    have HB3 := Lib.hid (HB2.out.trans (hb3.mono HB2.out.size))
    have H13 := Lib.hid (H12.out.trans (hb3.mono H12.out.size))
    have HBB := Lib.hid hbb.out
    clear cL7 cL8 cL9 cK7 cK8 cK9
    clear hbb hb3
    have xL := (H13.out.block w.heap.size HL.out.1).trans HL.out.2
    have cL10 : w3.cell? ⟨w.heap.size, 10, none⟩ = some (.bool L.on) := by rw [cell_of_row w3 _ 10 _ _ (0, 0) xL]; rfl
    have cL11 : w3.cell? ⟨w.heap.size, 11, none⟩ = some (.int .u32 (L.m.s : Int)) := by rw [cell_of_row w3 _ 11 _ _ (0, 0) xL]; rfl
    have cL12 : w3.cell? ⟨w.heap.size, 12, none⟩ = some (.int .u32 (L.m.v : Int)) := by rw [cell_of_row w3 _ 12 _ _ (0, 0) xL]; rfl
    have cL13 : w3.cell? ⟨w.heap.size, 13, none⟩ = some (.int .i64 L.m.l) := by rw [cell_of_row w3 _ 13 _ _ (0, 0) xL]; rfl
    have cL14 : w3.cell? ⟨w.heap.size, 14, none⟩ = some (.int .i64 L.m.z) := by rw [cell_of_row w3 _ 14 _ _ (0, 0) xL]; rfl
    have cL15 : w3.cell? ⟨w.heap.size, 15, none⟩ = some (.int .i64 L.m.p) := by rw [cell_of_row w3 _ 15 _ _ (0, 0) xL]; rfl
    have cL16 : w3.cell? ⟨w.heap.size, 16, none⟩ = some (.slice LA L.m.h.length Lc) := by rw [cell_of_row w3 _ 16 _ _ (0, 0) xL]; rfl
    clear xL
    have xK := (H13.out.block (w.heap.size + 1) HK.out.1).trans HK.out.2
    have cK10 : w3.cell? ⟨(w.heap.size + 1), 10, none⟩ = some (.bool K.on) := by rw [cell_of_row w3 _ 10 _ _ (0, 0) xK]; rfl
    have cK11 : w3.cell? ⟨(w.heap.size + 1), 11, none⟩ = some (.int .u32 (K.m.s : Int)) := by rw [cell_of_row w3 _ 11 _ _ (0, 0) xK]; rfl
    have cK12 : w3.cell? ⟨(w.heap.size + 1), 12, none⟩ = some (.int .u32 (K.m.v : Int)) := by rw [cell_of_row w3 _ 12 _ _ (0, 0) xK]; rfl
    have cK13 : w3.cell? ⟨(w.heap.size + 1), 13, none⟩ = some (.int .i64 K.m.l) := by rw [cell_of_row w3 _ 13 _ _ (0, 0) xK]; rfl
    have cK14 : w3.cell? ⟨(w.heap.size + 1), 14, none⟩ = some (.int .i64 K.m.z) := by rw [cell_of_row w3 _ 14 _ _ (0, 0) xK]; rfl
    have cK15 : w3.cell? ⟨(w.heap.size + 1), 15, none⟩ = some (.int .i64 K.m.p) := by rw [cell_of_row w3 _ 15 _ _ (0, 0) xK]; rfl
    have cK16 : w3.cell? ⟨(w.heap.size + 1), 16, none⟩ = some (.slice KA K.m.h.length Kc) := by rw [cell_of_row w3 _ 16 _ _ (0, 0) xK]; rfl
    clear xK
    cases b with
    | false =>
      have hbf : B = false := by
        rw [← HE.out, decide_eq_false_iff_not]
        intro h
        exact absurd HBB.out (by rw [decide_eq_true h.2.2.2.2.2.1]; decide)
      subst hbf
      go_wp2_with fail
      go_ret
      exact ⟨rfl, HB3.out⟩
    | true =>
      have E5 := Lib.hid (of_decide_eq_true HBB.out.symm)
      clear HBB
      by_cases e6 : L.on = K.on
      case neg =>
        have q6 : (L.on == K.on) = false := by simpa using e6
        have hbf : B = false := by
          rw [← HE.out, decide_eq_false_iff_not]
          intro h
          exact e6 h.2.2.2.2.2.2.1
        subst hbf
        go_wp2_with fail
        go_ret
        exact ⟨rfl, HB3.out⟩
      have q6 : (L.on == K.on) = true := by simpa using e6
      go_wp2_with fail
      refine (manSame_any L.m.s L.m.v K.m.s K.m.v L.m.l L.m.z L.m.p K.m.l K.m.z K.m.p w3.heap.size L.m.h.length Lc K.m.h.length Kc LA KA L.m.h K.m.h w3 ((L2.out.row.below HB3.out).more HB3.out.size) ((K2.out.row.below HB3.out).more HB3.out.size) (Nat.le_refl _)).mono ?_
      rintro e w4 ⟨b, rfl, hbb, hb4⟩
      have HB4 := Lib.hid (HB3.out.trans (hb4.mono HB3.out.size))
      have hbf : b = B := by
        rw [← HE.out, hbb.out]
        apply Bool.eq_iff_iff.2
        rw [decide_eq_true_eq, decide_eq_true_eq]
        exact ⟨fun h => ⟨e0, e1, e2, e3, E4.out, E5.out, e6, h⟩, fun h => h.2.2.2.2.2.2.2⟩
      subst hbf
      clear hbb hb4
      clear cL10 cL11 cL12 cL13 cL14 cL15 cL16 cK10 cK11 cK12 cK13 cK14 cK15 cK16
      go_wp2_with fail
      go_ret
      exact ⟨rfl, HB4.out⟩
end Go.Proofs.Ytdipccjgpkedhaa
