/- layer 9's laws: first, awake. -/
import Derived.Test.YtibleaaghhhjkaaDoorPcPcs
namespace Go.Proofs.YtibleaaghhhjkaaDoor.Pc
open Go.RowKit
open VecM RdM Vc Sp
set_option maxRecDepth 100000 in
set_option maxHeartbeats 1600000 in
theorem awake9_any (w : World) : Calls Tryd.prog 16 #[] w fun e w' => e = .returned (.bool true) ∧ Hid (Below w.heap.size w w') := by
  have HX0 := Lib.hid (heap_alloc_new w (.cells #[.int .u32 1, .int .i64 2, .int .i64 3, .int .i64 1] 24))
  have HB0 : Hid (Below w.heap.size w (w.alloc (.cells #[.int .u32 1, .int .i64 2, .int .i64 3, .int .i64 1] 24))) := (Below.refl _ _).alloc (Nat.le_refl _) _
  have hz : (w.alloc (.cells #[.int .u32 1, .int .i64 2, .int .i64 3, .int .i64 1] 24)).heap.size = w.heap.size + 1 := by simp
  go_enter Tryd.func16, Tryd.ntmps16
  go_upto_region 2 with fail
  generalize (w.alloc (.cells #[.int .u32 1, .int .i64 2, .int .i64 3, .int .i64 1] 24)) = w0 at *
  have HZ0 := Lib.hid hz
  clear hz
  obtain ⟨c0, c1, c2, c3⟩ := box4 HX0.out
  have r5 : Row (w0.alloc (.cells #[.int .u8 5] 5)) (w0.heap.size + 1) (some ⟨w0.heap.size, 0, none⟩) 1 (bv [5]) := row_new w0 #[.int .u8 5] 5 (0, 0)
  have r9 : Row ((w0.alloc (.cells #[.int .u8 5] 5)).alloc (.cells #[.int .u8 9] 5)) (w0.heap.size + 1 + 1) (some ⟨w0.heap.size + 1, 0, none⟩) 1 (bv [9]) := by
    have := row_new (w0.alloc (.cells #[.int .u8 5] 5)) #[.int .u8 9] 5 (0, 0)
    show Row _ _ _ _ [.int .u8 9]
    simpa using this
  have rS : Row (((w0.alloc (.cells #[.int .u8 5] 5)).alloc (.cells #[.int .u8 9] 5)).alloc (.cells #[.slice (some ⟨w0.heap.size, 0, none⟩) 1 1, .slice (some ⟨w0.heap.size + 1, 0, none⟩) 1 1] 65)) (w0.heap.size + 1 + 1 + 1) (some ⟨w0.heap.size + 1 + 1, 0, none⟩) 2 [.slice (some ⟨w0.heap.size, 0, none⟩) 1 1, .slice (some ⟨w0.heap.size + 1, 0, none⟩) 1 1] := by
    have := row_new ((w0.alloc (.cells #[.int .u8 5] 5)).alloc (.cells #[.int .u8 9] 5)) #[.slice (some ⟨w0.heap.size, 0, none⟩) 1 1, .slice (some ⟨w0.heap.size + 1, 0, none⟩) 1 1] 65 (0, 0)
    simpa using this
  have hb : Below w0.heap.size w0 (((w0.alloc (.cells #[.int .u8 5] 5)).alloc (.cells #[.int .u8 9] 5)).alloc (.cells #[.slice (some ⟨w0.heap.size, 0, none⟩) 1 1, .slice (some ⟨w0.heap.size + 1, 0, none⟩) 1 1] 65)) := (((Below.refl _ _).alloc (Nat.le_refl _) _).alloc (by simp) _).alloc (by simp; omega) _
  have hsz : (((w0.alloc (.cells #[.int .u8 5] 5)).alloc (.cells #[.int .u8 9] 5)).alloc (.cells #[.slice (some ⟨w0.heap.size, 0, none⟩) 1 1, .slice (some ⟨w0.heap.size + 1, 0, none⟩) 1 1] 65)).heap.size = w0.heap.size + 1 + 1 + 1 := by simp
  have hrows : Rows2 (((w0.alloc (.cells #[.int .u8 5] 5)).alloc (.cells #[.int .u8 9] 5)).alloc (.cells #[.slice (some ⟨w0.heap.size, 0, none⟩) 1 1, .slice (some ⟨w0.heap.size + 1, 0, none⟩) 1 1] 65)) (w0.heap.size + 1 + 1 + 1) (some ⟨w0.heap.size + 1 + 1, 0, none⟩) 2 [⟨some ⟨w0.heap.size, 0, none⟩, 1, 1, [5]⟩, ⟨some ⟨w0.heap.size + 1, 0, none⟩, 1, 1, [9]⟩] := by
    refine ⟨rS, fun r hr => ?_⟩
    have h5 := ((r5.alloc (by simp) (.cells #[.int .u8 9] 5)).alloc (by simp) (.cells #[.slice (some ⟨w0.heap.size, 0, none⟩) 1 1, .slice (some ⟨w0.heap.size + 1, 0, none⟩) 1 1] 65)).more (B' := w0.heap.size + 1 + 1 + 1) (by omega)
    have h9 := (r9.alloc (by simp) (.cells #[.slice (some ⟨w0.heap.size, 0, none⟩) 1 1, .slice (some ⟨w0.heap.size + 1, 0, none⟩) 1 1] 65)).more (B' := w0.heap.size + 1 + 1 + 1) (by omega)
    rcases List.mem_cons.1 hr with rfl | hr
    · exact h5
    · rcases List.mem_cons.1 hr with rfl | hr
      · exact h9
      · cases hr
  have HPC := Lib.hid (pieces_yes 1 2 3 1 2 _ _ _ _ (by omega) (by omega) (by omega) (by omega) hrows (by simp) (by rw [hsz]; exact Nat.le_refl _))
  have HRW := Lib.hid (fun W => rows_any 1 2 3 1 W (by omega) (by omega) (by omega) (by omega))
  have HBW := Lib.hid hb
  clear r5 r9 rS hb hrows hsz
  unfold parV at HPC HRW
  have HA : Hid (allP 1 2 1 [[5], [9]] 3 = [[5], [9]] ++ ((List.range 3).map fun i => sumR (parJ 1 2 i) 1 [[5], [9]] 2)) := Lib.hid rfl
  go_wp2_with fail
  refine HPC.out.mono ?_
  rintro e w2 ⟨v, rfl, hpw, hb2⟩
  obtain ⟨Av, cv, fs, hv, hfs, hrows, _⟩ := hpw.out.rows
  rw [show (allP 1 2 1 (List.map (fun x => x.l) [(⟨some ⟨w0.heap.size, 0, none⟩, 1, 1, [5]⟩ : BRow), ⟨some ⟨w0.heap.size + 1, 0, none⟩, 1, 1, [9]⟩]) 3).length = 5 by rw [allP_length]; rfl] at hv hrows
  subst hv
  obtain ⟨b, o, rfl, r, hr, hcell, hrow⟩ := hrows.at_ (k := 1) (by omega)
  have hr1 : r.l = [9] := by
    have h1 := congrArg (fun l : List (List UInt8) => l[1]?) hfs
    simp [allP, hr] at h1
    exact h1
  have hrn : r.n = 1 := by have := hrow.blen; rw [hr1] at this; simpa using this.symm
  obtain ⟨rA, rn, rc, rl⟩ := r
  simp only at hr1 hrn hcell hrow
  subst hr1 hrn
  obtain ⟨b2, o2, rfl, hb2lt, hl2, hc20⟩ := hrow.byteAt (k := 0) (by omega)
  have hc2 : w2.cell? ⟨b2, o2 + 0, none⟩ = some (.int .u8 9) := hc20
  clear hc20
  have HC1 := Lib.hid (fun W (hW : Below w2.heap.size w2 W) => (hW.cell (p := ⟨b, o + 1, none⟩) (by
    obtain ⟨b', o', e, hbl, _⟩ := hrows.1.cellAt (k := 1) (by omega) (u := BRow.val ⟨some ⟨b2, o2, none⟩, 1, rc, [9]⟩) (by simp [hr])
    injection e with e
    injection e with e1 e2
    subst e1
    exact hbl)).trans hcell)
  have HC2 := Lib.hid (fun W (hW : Below w2.heap.size w2 W) => (hW.cell (p := ⟨b2, o2 + 0, none⟩) hb2lt).trans hc2)
  have HB2 := Lib.hid (HBW.out.trans (hb2.out.mono HBW.out.size))
  have hx2 := ((HB2.out.block w.heap.size (by have := HZ0.out; omega)).trans HX0.out)
  clear c0 c1 c2 c3 hpw hb2 hfs hrows hr hcell hrow hl2 hc2 hb2lt HPC
  obtain ⟨c0, c1, c2, c3⟩ := box4 hx2
  clear hx2
  go_wp2_with fail
  refine (HRW.out _).mono ?_
  rintro e w3 ⟨gA, gs, hs, rfl, _, _, hb3⟩
  have hc1 := HC1.out w3 hb3.out
  have hc2 := HC2.out w3 hb3.out
  have HB3 := Lib.hid (HB0.out.trans ((HB2.out.trans (hb3.out.mono HB2.out.size)).mono HB0.out.size))
  rw [Nat.add_zero] at hc2
  clear c0 c1 c2 c3 hb3 HC1 HC2 HB2 HRW
  go_wp2_with fail
  go_ret
  exact ⟨rfl, HB3⟩
end Go.Proofs.YtibleaaghhhjkaaDoor.Pc
