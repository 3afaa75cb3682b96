/- elim: reduced, of a row without data, by contract. -/
import Derived.Test.YtgeodhffgbhmaaaDoorElRowN
namespace Go.Proofs.YtgeodhffgbhmaaaDoor.El
open Go.RowKit
open VecM Vc
/-- the row that is being reduced, in its box; it has no data -/
structure RedNAt (w : World) (g h n : Nat) (Z : Nat) (wr : World) : Prop where
  v : VecAt wr g h n Z
  bx : wr.heap[w.heap.size]? = some (.cells #[.pointer (some ⟨g, 0, none⟩), .slice none 0 0] 73 (0, 0))
  by_ : wr.heap[w.heap.size + 1]? = some (.cells #[.pointer none, .slice none 0 0] 73 (0, 0))
  b : Below w.heap.size w wr
theorem RedNAt.below {w wr w' : World} {g h n Z : Nat} (r : RedNAt w g h n Z wr) (hb : Below wr.heap.size wr w') : RedNAt w g h n Z w' :=
  ⟨r.v.below hb, (hb.block _ (Array.getElem?_eq_some_iff.1 r.bx).1).trans r.bx, (hb.block _ (Array.getElem?_eq_some_iff.1 r.by_).1).trans r.by_, r.b.trans (hb.mono r.b.size)⟩
theorem RedNAt.change {w wr w' : World} {g h n Z Z' : Nat} (r : RedNAt w g h n Z wr) (hg : w.heap.size + 2 ≤ g ∧ w.heap.size + 2 ≤ h) (hv : VecAt w' g h n Z') (hf : Fr wr w' (fun b => b = h)) : RedNAt w g h n Z' w' :=
  ⟨hv, (hf.block _ (Array.getElem?_eq_some_iff.1 r.bx).1 (by omega)).trans r.bx, (hf.block _ (Array.getElem?_eq_some_iff.1 r.by_).1 (by omega)).trans r.by_, r.b.trans (hf.below (fun b hb => by omega) r.b.size)⟩
set_option maxRecDepth 100000 in
set_option maxHeartbeats 1600000 in
theorem reducedN_any (F : Nat → Prop) (gm gr n z : Nat) (rs : List (Option ER)) (g0 h0 X : Nat) (w : World) (m : MatAt w F gm gr n z rs) (v : VecAt w g0 h0 n X) :
    Calls Tryd.prog 29 #[.pointer (some ⟨gm, 0, none⟩), .agg #[.pointer (some ⟨g0, 0, none⟩), .slice none 0 0]] w (OwnNOk n (redM (absM rs) X [] n).1 w) := by
  have hx := heap_alloc2_old w (.cells #[.pointer (some ⟨g0, 0, none⟩), .slice none 0 0] 73) (.cells #[.pointer none, .slice none 0 0] 73)
  have hy := heap_alloc2_new w (.cells #[.pointer (some ⟨g0, 0, none⟩), .slice none 0 0] 73) (.cells #[.pointer none, .slice none 0 0] 73)
  have hb : Below w.heap.size w ((w.alloc (.cells #[.pointer (some ⟨g0, 0, none⟩), .slice none 0 0] 73)).alloc (.cells #[.pointer none, .slice none 0 0] 73)) := ((Below.refl _ _).alloc (Nat.le_refl _) _).alloc (by simp) _
  have HSZ : Hid (((w.alloc (.cells #[.pointer (some ⟨g0, 0, none⟩), .slice none 0 0] 73)).alloc (.cells #[.pointer none, .slice none 0 0] 73)).heap.size = w.heap.size + 2) := Lib.hid (by simp)
  have HM := Lib.hid m
  have HV := Lib.hid (v.below hb)
  have HX := Lib.hid hx
  have HY := Lib.hid hy
  have HB := Lib.hid hb
  have HC := Lib.hid (fun W (hW : Below w.heap.size w W) => (m.below hW).cells)
  have hn2 : (n : Int) ≤ 256 := by have := m.n2; omega
  clear m v hx hy hb
  go_enter Tryd.func29, Tryd.ntmps29
  go_upto_region 1 with fail
  generalize ((w.alloc (.cells #[.pointer (some ⟨g0, 0, none⟩), .slice none 0 0] 73)).alloc (.cells #[.pointer none, .slice none 0 0] 73)) = wb at *
  have c1 : wb.cell? ⟨w.heap.size, 0, none⟩ = some (.pointer (some ⟨g0, 0, none⟩)) := by rw [cell_of_row wb _ 0 _ _ (0, 0) HX.out]; rfl
  have c2 : wb.cell? ⟨w.heap.size, 1, none⟩ = some (.slice none 0 0) := by rw [cell_of_row wb _ 1 _ _ (0, 0) HX.out]; rfl
  go_wp2_with fail
  refine (ownN_any g0 h0 n X wb HV.out).mono ?_
  rintro e w1 ⟨g, h, rfl, hg, hh, V, hb1⟩
  have x1 := (hb1.out.block w.heap.size (by rw [HSZ.out]; omega)).trans HX.out
  have y1 := (hb1.out.block (w.heap.size + 1) (by rw [HSZ.out]; omega)).trans HY.out
  rw [HSZ.out] at hg hh
  clear c1 c2
  have c1 : w1.cell? ⟨w.heap.size, 0, none⟩ = some (.pointer (some ⟨g0, 0, none⟩)) := by rw [cell_of_row w1 _ 0 _ _ (0, 0) x1]; rfl
  have c2 : w1.cell? ⟨w.heap.size, 1, none⟩ = some (.slice none 0 0) := by rw [cell_of_row w1 _ 1 _ _ (0, 0) x1]; rfl
  have f1 := frozen_of_row w1 w.heap.size 0 _ _ x1
  have f2 := frozen_of_row w1 w.heap.size 1 _ _ x1
  have HX1 := Lib.hid x1
  have HY1 := Lib.hid y1
  have HB1 := Lib.hid (HB.out.trans (hb1.out.mono HB.out.size))
  have HG := Lib.hid (And.intro hg hh)
  clear x1 y1 hb1 HX HY HV hg hh HB HSZ
  go_upto_region 2 with fail
  have hz2 : w.heap.size + 2 ≤ w1.heap.size := by have := V.out.lt; have := HG.out; omega
  have HR2 : Hid (RedNAt w g h n (redM (absM rs) X [] 0).1 ((w1.setCell ⟨w.heap.size, 0, none⟩ (.pointer (some ⟨g, 0, none⟩))).setCell ⟨w.heap.size, 1, none⟩ (.slice none 0 0))) := Lib.hid
    ⟨V.out.keep (set2o _ (by have := HG.out; omega) _ _) (set2o _ (by have := HG.out; omega) _ _), set2c HX1.out _ _, (set2o _ (by omega) _ _).trans HY1.out, (HB1.out.setCell (Nat.le_refl _) _).setCell (Nat.le_refl _) _⟩
  generalize ((w1.setCell ⟨w.heap.size, 0, none⟩ (.pointer (some ⟨g, 0, none⟩))).setCell ⟨w.heap.size, 1, none⟩ (.slice none 0 0)) = w2 at *
  clear V c1 c2 f1 f2 HX1 HY1 HB1 hz2
  obtain ⟨_, _, m2, _⟩ := HC.out w2 HR2.out.b
  go_wp2_with fail
  clear m2
  go_loopw [14] (fun x wr => ∃ k : Nat, k ≤ n ∧ x = .int .i64 k ∧ Hid (RedNAt w g h n (redM (absM rs) X [] k).1 wr)) (fun x _ => n - (intOf x).toNat)
  case atStart => exact ⟨0, by omega, rfl, HR2⟩
  case round =>
    obtain ⟨k, hk, rfl, hred⟩ := hrel
    by_cases hlt : k < n
    · have hki : (k : Int) < (n : Int) := by omega
      obtain ⟨r1, r2⟩ := (HM.out.below hred.out.b).row hlt
      have hgr : gr < wr.heap.size := (HM.out.below hred.out.b).lt.2
      cases hro : rs.getD k none with
      | none =>
        rw [hro] at r1 r2
        unfold ptrOf at r1
        unfold slcOf at r2
        simp only at r1 r2
        go_wp2_with fail
        go_roundw
        case rel => exact ⟨k + 1, by omega, by go_num, by rw [redM_none (by rw [absM_getD, hro]; rfl)]; exact Lib.hid (hred.out.below ((Below.refl _ _).alloc (Nat.le_refl _) _))⟩
        case measure => simp [intOf]; omega
      | some r =>
        rw [hro] at r1 r2
        obtain ⟨e1, e2, e3, e4, e5, e6⟩ := HM.out.at_ k r (getD_get hro)
        unfold ptrOf at r1
        unfold slcOf at r2
        simp only [e3] at r1 r2
        have HRO := Lib.hid hro
        have HE := Lib.hid (And.intro e1 (And.intro e2 e3))
        clear hro e1 e2 e3 e4 e5 e6
        go_upto_region 5 with fail
        have hra := hred.out.below (w' := wr.alloc (.cells #[.pointer (some ⟨r.g, 0, none⟩), .slice (some ⟨r.d, 0, none⟩) z r.c] 73)) ((Below.refl _ _).alloc (Nat.le_refl _) _)
        have hxa := heap_alloc_new wr (.cells #[.pointer (some ⟨r.g, 0, none⟩), .slice (some ⟨r.d, 0, none⟩) z r.c] 73)
        have HRA := Lib.hid hra
        have HXA := Lib.hid hxa
        generalize wr.alloc (.cells #[.pointer (some ⟨r.g, 0, none⟩), .slice (some ⟨r.d, 0, none⟩) z r.c] 73) = wa at *
        clear hra hxa r1 r2 hgr
        have c1 : wa.cell? ⟨w.heap.size, 0, none⟩ = some (.pointer (some ⟨g, 0, none⟩)) := by rw [cell_of_row wa _ 0 _ _ (0, 0) HRA.out.bx]; rfl
        have c2 : wa.cell? ⟨w.heap.size, 1, none⟩ = some (.slice none 0 0) := by rw [cell_of_row wa _ 1 _ _ (0, 0) HRA.out.bx]; rfl
        have c3 : wa.cell? ⟨wr.heap.size, 0, none⟩ = some (.pointer (some ⟨r.g, 0, none⟩)) := by rw [cell_of_row wa _ 0 _ _ (0, 0) HXA.out]; rfl
        have c4 : wa.cell? ⟨wr.heap.size, 1, none⟩ = some (.slice (some ⟨r.d, 0, none⟩) z r.c) := by rw [cell_of_row wa _ 1 _ _ (0, 0) HXA.out]; rfl
        have HM2 := Lib.hid (redM_some (M := absM rs) (X := X) (l := []) (k := k) (r := (r.X, r.l)) (by rw [absM_getD, HRO.out]; rfl))
        obtain ⟨⟨Z, q⟩, hZ⟩ : ∃ Z, redM (absM rs) X [] k = Z := ⟨_, rfl⟩
        rw [hZ] at HM2 HRA
        simp only at HM2 HRA
        clear hZ hred
        go_wp2_with fail
        refine (has_in g h n Z k wa HRA.out.v hlt).mono ?_
        rintro e w3 ⟨rfl, rfl⟩
        cases hbit : Z.testBit k with
        | false =>
          have HN : Hid (redM (absM rs) X [] (k + 1) = (Z, q)) := Lib.hid (by rw [HM2.out, hbit]; rfl)
          go_wp2_with fail
          go_roundw
          case rel => exact ⟨k + 1, by omega, by go_num, by rw [HN.out]; exact HRA⟩
          case measure => simp [intOf]; omega
        | true =>
          have HN : Hid (redM (absM rs) X [] (k + 1) = (Z ^^^ r.X, xorL q r.l)) := Lib.hid (by rw [HM2.out, hbit]; rfl)
          go_wp2_with fail
          have hfar : w.heap.size + 2 ≤ g ∧ w.heap.size + 2 ≤ h := HG.out
          have hb0 := HRA.out.b
          refine (changeN_any g h n Z r.g r.h r.X r.d r.c z wa HRA.out.v (HE.out.1.below hb0) (by have := HE.out.1.lt; omega)).mono ?_
          rintro e w5 ⟨rfl, hv5, hf5⟩
          have HF : Hid (RedNAt w g h n (Z ^^^ r.X) w5) := Lib.hid (HRA.out.change hfar hv5.out hf5.out)
          clear hfar hb0 hv5 hf5 c1 c2 c3 c4
          go_wp2_with fail
          go_roundw
          case rel => exact ⟨k + 1, by omega, by go_num, by rw [HN.out]; exact HF⟩
          case measure => simp [intOf]; omega
    · obtain rfl : n = k := by omega
      have HF := hred
      generalize (redM (absM rs) X [] n).1 = Z at *
      have c1 : wr.cell? ⟨w.heap.size, 0, none⟩ = some (.pointer (some ⟨g, 0, none⟩)) := by rw [cell_of_row wr _ 0 _ _ (0, 0) HF.out.bx]; rfl
      have c2 : wr.cell? ⟨w.heap.size, 1, none⟩ = some (.slice none 0 0) := by rw [cell_of_row wr _ 1 _ _ (0, 0) HF.out.bx]; rfl
      go_wp2_with ((with_reducible show wpList _ _ _ _ _ _); refine wpList_store_row rfl _ (.tmp 4) (.tmp 32) rfl (w.heap.size + 1) #[.pointer (some ⟨g, 0, none⟩), .slice none 0 0] rfl rfl _ _ HF.out.by_ (by kernel_rfl) (by rfl) (by simp [Value.oneCell']) ?_)
      have hrow := setRow_heap _ _ _ #[.pointer (some ⟨g, 0, none⟩), .slice none 0 0] _ _ HF.out.by_
      refine bodyPost_ret (results_cell_row rfl _ _ (w.heap.size + 1) _ _ (0, 0) _ rfl hrow Tryd.underlying73 rfl (by kernel_rfl)) rfl ?_
      have hg := HG.out
      refine ⟨g, h, rfl, by omega, by omega, Lib.hid (HF.out.v.keep (setRow_other _ _ _ _ (by omega)) (setRow_other _ _ _ _ (by omega))), Lib.hid (below_setRowB HF.out.b (Nat.le_succ _) _)⟩
end Go.Proofs.YtgeodhffgbhmaaaDoor.El
