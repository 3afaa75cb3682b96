/- elim: reduced by contract. -/
import Derived.Test.YtgeodhffgbhmaaaDoorElChange
namespace Go.Proofs.YtgeodhffgbhmaaaDoor.El
open Go.RowKit
open VecM Vc
/-- rows as data -/
abbrev Mx := List (Option (Nat × List UInt8))
def absM (rs : List (Option ER)) : Mx := rs.map (Option.map fun r => (r.X, r.l))
/-- X and l, less what the first k rows say of it -/
def redM (M : Mx) (X : Nat) (l : List UInt8) : Nat → Nat × List UInt8
  | 0 => (X, l)
  | k + 1 => match M.getD k none with
    | none => redM M X l k
    | some r => if (redM M X l k).1.testBit k then ((redM M X l k).1 ^^^ r.1, xorL (redM M X l k).2 r.2) else redM M X l k
theorem absM_getD (rs : List (Option ER)) (k : Nat) : (absM rs).getD k none = (rs.getD k none).map fun r => (r.X, r.l) := by
  unfold absM
  rw [List.getD_eq_getElem?_getD, List.getD_eq_getElem?_getD, List.getElem?_map]
  cases rs[k]? <;> rfl
theorem redM_len (M : Mx) (X : Nat) (l : List UInt8) (k : Nat) : (redM M X l k).2.length = l.length := by
  induction k with
  | zero => rfl
  | succ k ih =>
    unfold redM
    split
    · exact ih
    · split
      · show (xorL _ _).length = _; rw [xorL_length]; exact ih
      · exact ih
theorem redM_none {M : Mx} {X : Nat} {l : List UInt8} {k : Nat} (h : M.getD k none = none) : redM M X l (k + 1) = redM M X l k := by
  rw [redM, h]
theorem redM_some {M : Mx} {X : Nat} {l : List UInt8} {k : Nat} {r : Nat × List UInt8} (h : M.getD k none = some r) : redM M X l (k + 1) = if (redM M X l k).1.testBit k then ((redM M X l k).1 ^^^ r.1, xorL (redM M X l k).2 r.2) else redM M X l k := by
  rw [redM, h]
theorem getD_get {rs : List (Option ER)} {k : Nat} {r : ER} (h : rs.getD k none = some r) : rs[k]? = some (some r) := by
  rw [List.getD_eq_getElem?_getD] at h
  cases hk : rs[k]? with
  | none => rw [hk] at h; cases h
  | some x => rw [hk] at h; exact congrArg some h
theorem set2c {w : World} {g : Nat} {t : TypeId} {a b : Value} (h : w.heap[g]? = some (.cells #[a, b] t (0, 0))) (u v : Value) : ((w.setCell ⟨g, 0, none⟩ u).setCell ⟨g, 1, none⟩ v).heap[g]? = some (.cells #[u, v] t (0, 0)) := by
  have h0 : (w.setCell ⟨g, 0, none⟩ u).heap[g]? = some (.cells #[u, b] t (0, 0)) := heap_setCell_same _ g 0 _ t u h
  exact heap_setCell_same _ g 1 _ t v h0
theorem set2o (w : World) {g b : Nat} (h : b ≠ g) (u v : Value) : ((w.setCell ⟨g, 0, none⟩ u).setCell ⟨g, 1, none⟩ v).heap[b]? = w.heap[b]? := by
  rw [heap_setCell_other _ _ _ _ h, heap_setCell_other _ _ _ _ h]
/-- the row that is being reduced, in its box -/
structure RedAt (w : World) (g h d c n z : Nat) (Z : Nat) (k : List UInt8) (wr : World) : Prop where
  v : VecAt wr g h n Z
  dat : DatAt wr (some ⟨d, 0, none⟩) c k
  len : k.length = z
  bx : wr.heap[w.heap.size]? = some (.cells #[.pointer (some ⟨g, 0, none⟩), .slice (some ⟨d, 0, none⟩) z c] 73 (0, 0))
  by_ : wr.heap[w.heap.size + 1]? = some (.cells #[.pointer none, .slice none 0 0] 73 (0, 0))
  b : Below w.heap.size w wr
theorem RedAt.below {w wr w' : World} {g h d c n z Z : Nat} {k : List UInt8} (r : RedAt w g h d c n z Z k wr) (hb : Below wr.heap.size wr w') : RedAt w g h d c n z Z k w' :=
  ⟨r.v.below hb, r.dat.keep fun b he => hb.block b (r.dat.lt he), r.len, (hb.block _ (Array.getElem?_eq_some_iff.1 r.bx).1).trans r.bx, (hb.block _ (Array.getElem?_eq_some_iff.1 r.by_).1).trans r.by_, r.b.trans (hb.mono r.b.size)⟩
theorem RedAt.change {w wr w' : World} {g h d c n z Z Z' : Nat} {k k' : List UInt8} (r : RedAt w g h d c n z Z k wr) (hg : w.heap.size + 2 ≤ g ∧ w.heap.size + 2 ≤ h ∧ w.heap.size + 2 ≤ d) (hv : VecAt w' g h n Z') (hd : DatAt w' (some ⟨d, 0, none⟩) c k') (hl : k'.length = z) (hf : Fr wr w' (fun b => b = h ∨ b = d)) : RedAt w g h d c n z Z' k' w' :=
  ⟨hv, hd, hl, (hf.block _ (Array.getElem?_eq_some_iff.1 r.bx).1 (by omega)).trans r.bx, (hf.block _ (Array.getElem?_eq_some_iff.1 r.by_).1 (by omega)).trans r.by_, r.b.trans (hf.below (fun b hb => by omega) r.b.size)⟩
set_option maxRecDepth 100000 in
set_option maxHeartbeats 1600000 in
theorem reduced_any (F : Nat → Prop) (gm gr n z : Nat) (rs : List (Option ER)) (g0 h0 X c0 : Nat) (A : Option Addr) (l : List UInt8) (w : World) (m : MatAt w F gm gr n z rs) (v : VecAt w g0 h0 n X) (hr : Row w w.heap.size A l.length (bv l)) (hl : l.length = z) :
    Calls Tryd.prog 29 #[.pointer (some ⟨gm, 0, none⟩), .agg #[.pointer (some ⟨g0, 0, none⟩), .slice A z c0]] w (OwnOk n (redM (absM rs) X l n).1 (redM (absM rs) X l n).2 w) := by
  have hx := heap_alloc2_old w (.cells #[.pointer (some ⟨g0, 0, none⟩), .slice A z c0] 73) (.cells #[.pointer none, .slice none 0 0] 73)
  have hy := heap_alloc2_new w (.cells #[.pointer (some ⟨g0, 0, none⟩), .slice A z c0] 73) (.cells #[.pointer none, .slice none 0 0] 73)
  have hb : Below w.heap.size w ((w.alloc (.cells #[.pointer (some ⟨g0, 0, none⟩), .slice A z c0] 73)).alloc (.cells #[.pointer none, .slice none 0 0] 73)) := ((Below.refl _ _).alloc (Nat.le_refl _) _).alloc (by simp) _
  have HSZ : Hid (((w.alloc (.cells #[.pointer (some ⟨g0, 0, none⟩), .slice A z c0] 73)).alloc (.cells #[.pointer none, .slice none 0 0] 73)).heap.size = w.heap.size + 2) := Lib.hid (by simp)
  have hz1 := m.z1
  have hz2 := m.z2
  have HM := Lib.hid m
  have HV := Lib.hid (v.below hb)
  have hr2 := hr.below hb
  have HL := Lib.hid hl
  have HX := Lib.hid hx
  have HY := Lib.hid hy
  have HB := Lib.hid hb
  have HZ := Lib.hid (And.intro hz1 hz2)
  have HC := Lib.hid (fun W (hW : Below w.heap.size w W) => (m.below hW).cells)
  have hn2 : (n : Int) ≤ 256 := by have := m.n2; omega
  clear m v hr hl hx hy hb hz1 hz2
  go_enter Tryd.func29, Tryd.ntmps29
  go_upto_region 1 with fail
  generalize ((w.alloc (.cells #[.pointer (some ⟨g0, 0, none⟩), .slice A z c0] 73)).alloc (.cells #[.pointer none, .slice none 0 0] 73)) = wb at *
  have c1 : wb.cell? ⟨w.heap.size, 0, none⟩ = some (.pointer (some ⟨g0, 0, none⟩)) := by rw [cell_of_row wb _ 0 _ _ (0, 0) HX.out]; rfl
  have c2 : wb.cell? ⟨w.heap.size, 1, none⟩ = some (.slice A z c0) := by rw [cell_of_row wb _ 1 _ _ (0, 0) HX.out]; rfl
  have HR := Lib.hid hr2
  clear hr2
  go_wp2_with fail
  have hown := ownR_any g0 h0 n X c0 A l wb HV.out (HR.out.more (by rw [HSZ.out]; omega)) (by have := HZ.out; rw [HL.out]; omega) (by have := HZ.out; rw [HL.out]; omega)
  rw [HL.out] at hown
  refine hown.mono ?_
  clear hown
  rintro e w1 ⟨g, h, d, c, rfl, hg, hh, hd, V, D, hb1⟩
  rw [HL.out]
  have x1 := (hb1.out.block w.heap.size (by rw [HSZ.out]; omega)).trans HX.out
  have y1 := (hb1.out.block (w.heap.size + 1) (by rw [HSZ.out]; omega)).trans HY.out
  rw [HSZ.out] at hg hh hd
  clear c1 c2
  have c1 : w1.cell? ⟨w.heap.size, 0, none⟩ = some (.pointer (some ⟨g0, 0, none⟩)) := by rw [cell_of_row w1 _ 0 _ _ (0, 0) x1]; rfl
  have c2 : w1.cell? ⟨w.heap.size, 1, none⟩ = some (.slice A z c0) := by rw [cell_of_row w1 _ 1 _ _ (0, 0) x1]; rfl
  have f1 := frozen_of_row w1 w.heap.size 0 _ _ x1
  have f2 := frozen_of_row w1 w.heap.size 1 _ _ x1
  have HX1 := Lib.hid x1
  have HY1 := Lib.hid y1
  have HB1 := Lib.hid (HB.out.trans (hb1.out.mono HB.out.size))
  have HG := Lib.hid (And.intro hg (And.intro hh hd))
  clear x1 y1 hb1 HX HY HV HR hg hh hd HB HSZ
  go_upto_region 2 with fail
  have hz2 : w.heap.size + 2 ≤ w1.heap.size := by have := D.out.lt (d := d) rfl; have := HG.out; omega
  have HR2 : Hid (RedAt w g h d c n z (redM (absM rs) X l 0).1 (redM (absM rs) X l 0).2 ((w1.setCell ⟨w.heap.size, 0, none⟩ (.pointer (some ⟨g, 0, none⟩))).setCell ⟨w.heap.size, 1, none⟩ (.slice (some ⟨d, 0, none⟩) z c))) := Lib.hid
    ⟨V.out.keep (set2o _ (by have := HG.out; omega) _ _) (set2o _ (by have := HG.out; omega) _ _), D.out.keep fun b he => by
      have he : d = b := Option.some.inj he
      exact set2o _ (by have := HG.out; omega) _ _, HL.out, set2c HX1.out _ _, (set2o _ (by omega) _ _).trans HY1.out, (HB1.out.setCell (Nat.le_refl _) _).setCell (Nat.le_refl _) _⟩
  generalize ((w1.setCell ⟨w.heap.size, 0, none⟩ (.pointer (some ⟨g, 0, none⟩))).setCell ⟨w.heap.size, 1, none⟩ (.slice (some ⟨d, 0, none⟩) z c)) = w2 at *
  clear V D c1 c2 f1 f2 HX1 HY1 HB1 hz2
  obtain ⟨_, _, m2, _⟩ := HC.out w2 HR2.out.b
  go_wp2_with fail
  clear m2
  go_loopw [14] (fun x wr => ∃ k : Nat, k ≤ n ∧ x = .int .i64 k ∧ Hid (RedAt w g h d c n z (redM (absM rs) X l k).1 (redM (absM rs) X l k).2 wr)) (fun x _ => n - (intOf x).toNat)
  case atStart => exact ⟨0, by omega, rfl, HR2⟩
  case round =>
    obtain ⟨k, hk, rfl, hred⟩ := hrel
    by_cases hlt : k < n
    · have hki : (k : Int) < (n : Int) := by omega
      obtain ⟨r1, r2⟩ := (HM.out.below hred.out.b).row hlt
      have hgr : gr < wr.heap.size := (HM.out.below hred.out.b).lt.2
      cases hro : rs.getD k none with
      | none =>
        rw [hro] at r1 r2
        unfold ptrOf at r1
        unfold slcOf at r2
        simp only at r1 r2
        go_wp2_with fail
        go_roundw
        case rel => exact ⟨k + 1, by omega, by go_num, by rw [redM_none (by rw [absM_getD, hro]; rfl)]; exact Lib.hid (hred.out.below ((Below.refl _ _).alloc (Nat.le_refl _) _))⟩
        case measure => simp [intOf]; omega
      | some r =>
        rw [hro] at r1 r2
        obtain ⟨e1, e2, e3, e4, e5, e6⟩ := HM.out.at_ k r (getD_get hro)
        unfold ptrOf at r1
        unfold slcOf at r2
        simp only [e3] at r1 r2
        have HRO := Lib.hid hro
        have HE := Lib.hid (And.intro e1 (And.intro e2 e3))
        clear hro e1 e2 e3 e4 e5 e6
        go_upto_region 5 with fail
        have hra := hred.out.below (w' := wr.alloc (.cells #[.pointer (some ⟨r.g, 0, none⟩), .slice (some ⟨r.d, 0, none⟩) z r.c] 73)) ((Below.refl _ _).alloc (Nat.le_refl _) _)
        have hxa := heap_alloc_new wr (.cells #[.pointer (some ⟨r.g, 0, none⟩), .slice (some ⟨r.d, 0, none⟩) z r.c] 73)
        have HRA := Lib.hid hra
        have HXA := Lib.hid hxa
        generalize wr.alloc (.cells #[.pointer (some ⟨r.g, 0, none⟩), .slice (some ⟨r.d, 0, none⟩) z r.c] 73) = wa at *
        clear hra hxa r1 r2 hgr
        have c1 : wa.cell? ⟨w.heap.size, 0, none⟩ = some (.pointer (some ⟨g, 0, none⟩)) := by rw [cell_of_row wa _ 0 _ _ (0, 0) HRA.out.bx]; rfl
        have c2 : wa.cell? ⟨w.heap.size, 1, none⟩ = some (.slice (some ⟨d, 0, none⟩) z c) := by rw [cell_of_row wa _ 1 _ _ (0, 0) HRA.out.bx]; rfl
        have c3 : wa.cell? ⟨wr.heap.size, 0, none⟩ = some (.pointer (some ⟨r.g, 0, none⟩)) := by rw [cell_of_row wa _ 0 _ _ (0, 0) HXA.out]; rfl
        have c4 : wa.cell? ⟨wr.heap.size, 1, none⟩ = some (.slice (some ⟨r.d, 0, none⟩) z r.c) := by rw [cell_of_row wa _ 1 _ _ (0, 0) HXA.out]; rfl
        have HM2 := Lib.hid (redM_some (M := absM rs) (X := X) (l := l) (k := k) (r := (r.X, r.l)) (by rw [absM_getD, HRO.out]; rfl))
        have hlq := redM_len (absM rs) X l k
        obtain ⟨⟨Z, q⟩, hZ⟩ : ∃ Z, redM (absM rs) X l k = Z := ⟨_, rfl⟩
        rw [hZ] at HM2 HRA hlq
        have HQ : Hid (q.length = z) := Lib.hid (hlq.trans HL.out)
        simp only at HM2 HRA
        clear hZ hred hlq
        go_wp2_with fail
        refine (has_in g h n Z k wa HRA.out.v hlt).mono ?_
        rintro e w3 ⟨rfl, rfl⟩
        cases hbit : Z.testBit k with
        | false =>
          have HN : Hid (redM (absM rs) X l (k + 1) = (Z, q)) := Lib.hid (by rw [HM2.out, hbit]; rfl)
          go_wp2_with fail
          go_roundw
          case rel => exact ⟨k + 1, by omega, by go_num, by rw [HN.out]; exact HRA⟩
          case measure => simp [intOf]; omega
        | true =>
          have HN : Hid (redM (absM rs) X l (k + 1) = (Z ^^^ r.X, xorL q r.l)) := Lib.hid (by rw [HM2.out, hbit]; rfl)
          go_wp2_with fail
          have hfar : w.heap.size + 2 ≤ g ∧ w.heap.size + 2 ≤ h ∧ w.heap.size + 2 ≤ d := HG.out
          have hb0 := HRA.out.b
          refine (change_any g h n Z d c z r.g r.h r.X r.d r.c q r.l wa HRA.out.v HRA.out.dat (HE.out.1.below hb0) (HE.out.2.1.keep fun b he => hb0.block b (HE.out.2.1.lt he)) (by have := HE.out.1.lt; omega) (by have := HE.out.2.1.lt (d := r.d) rfl; omega) HQ.out HE.out.2.2 (by have := HZ.out; omega)).mono ?_
          rintro e w5 ⟨rfl, hv5, hd5, hf5⟩
          have HF : Hid (RedAt w g h d c n z (Z ^^^ r.X) (xorL q r.l) w5) := Lib.hid (HRA.out.change hfar hv5.out hd5.out (by rw [xorL_length]; exact HQ.out) hf5.out)
          clear hfar hb0 hv5 hd5 hf5 c1 c2 c3 c4
          go_wp2_with fail
          go_roundw
          case rel => exact ⟨k + 1, by omega, by go_num, by rw [HN.out]; exact HF⟩
          case measure => simp [intOf]; omega
    · obtain rfl : n = k := by omega
      have HF := hred
      generalize redM (absM rs) X l n = Z at *
      obtain ⟨Z, q⟩ := Z
      simp only at HF ⊢
      have c1 : wr.cell? ⟨w.heap.size, 0, none⟩ = some (.pointer (some ⟨g, 0, none⟩)) := by rw [cell_of_row wr _ 0 _ _ (0, 0) HF.out.bx]; rfl
      have c2 : wr.cell? ⟨w.heap.size, 1, none⟩ = some (.slice (some ⟨d, 0, none⟩) z c) := by rw [cell_of_row wr _ 1 _ _ (0, 0) HF.out.bx]; rfl
      have HLZ : Hid (z = q.length) := Lib.hid HF.out.len.symm
      go_wp2_with ((with_reducible show wpList _ _ _ _ _ _); refine wpList_store_row rfl _ (.tmp 4) (.tmp 32) rfl (w.heap.size + 1) #[.pointer (some ⟨g, 0, none⟩), .slice (some ⟨d, 0, none⟩) z c] rfl rfl _ _ HF.out.by_ (by kernel_rfl) (by rfl) (by simp [Value.oneCell']) ?_)
      have hrow := setRow_heap _ _ _ #[.pointer (some ⟨g, 0, none⟩), .slice (some ⟨d, 0, none⟩) z c] _ _ HF.out.by_
      refine bodyPost_ret (results_cell_row rfl _ _ (w.heap.size + 1) _ _ (0, 0) _ rfl hrow Tryd.underlying73 rfl (by kernel_rfl)) rfl ?_
      have hg := HG.out
      refine ⟨g, h, d, c, by rw [HLZ.out], by omega, by omega, by omega, Lib.hid (HF.out.v.keep (setRow_other _ _ _ _ (by omega)) (setRow_other _ _ _ _ (by omega))), Lib.hid (HF.out.dat.keep fun b he => by
        have he : d = b := Option.some.inj he
        exact setRow_other _ _ _ _ (by omega)), Lib.hid (below_setRowB HF.out.b (Nat.le_succ _) _)⟩
end Go.Proofs.YtgeodhffgbhmaaaDoor.El
