/- precode.Rows: by contract. -/
import Derived.Test.YtibleaaghhhjkaaDoorPcPar
import Derived.Deep.LoopGhost
namespace Go.Proofs.YtibleaaghhhjkaaDoor.Pc
open Go.RowKit
open VecM RdM Vc Sp
def parJ (s K j : Nat) : Nat := parX (seed (s : Int) (2147483648 + (j : Int))) (K + j) K
theorem infoPtr : (Tryd.prog.info? 26).map (fun i => (i.zero, i.size, i.bytes)) = some (some (.pointer none), 1, 8) := by kernel_rfl
theorem madePtr (m : Nat) (hm : m ≤ 1000000) : ∀ w : World, (Instr.makeSlice 41 (.int .i64 (m : Int)) (.int .i64 (m : Int))).run Tryd.prog w = .ok (.slice (some ⟨w.heap.size, 0, none⟩) m m) (w.alloc (.cells (Array.replicate m (.pointer none)) 26)) := by
  obtain ⟨i0, hi, hz0, hz1, hz2⟩ := info_parts infoPtr
  intro w
  have h := run_make (P := Tryd.prog) w 41 26 i0 (.pointer none) Tryd.underlying41 hi hz0 .i64 .i64 (m : Int) (m : Int) (by omega) (by omega) (by rw [hz2]; omega) (by omega)
  rw [hz1] at h
  have e : madeCells (Value.pointer none).cells m = Array.replicate m (.pointer none) := by
    apply Array.toList_inj.1
    show (madeCells #[Value.pointer none] m).toList = _
    rw [toList_madeCells_one]; simp
  simpa [e] using h
def pvk (gs : Nat → Nat) (P k : Nat) : List Value := (List.range P).map fun j => if j < k then .pointer (some ⟨gs j, 0, none⟩) else .pointer none
theorem pvk_length (gs : Nat → Nat) (P k : Nat) : (pvk gs P k).length = P := by simp [pvk]
theorem pvk_get (gs : Nat → Nat) (P k j : Nat) (h : j < P) : (pvk gs P k)[j]? = some (if j < k then .pointer (some ⟨gs j, 0, none⟩) else .pointer none) := by simp [pvk, h]
theorem pvk_zero (gs : Nat → Nat) (P : Nat) : pvk gs P 0 = List.replicate P (.pointer none) := by
  apply List.ext_getElem?
  intro j
  by_cases h : j < P
  · rw [pvk_get _ _ _ _ h]; simp [h]
  · rw [List.getElem?_eq_none (by rw [pvk_length]; omega), List.getElem?_eq_none (by simp; omega)]
theorem pvk_set (gs : Nat → Nat) (P k g : Nat) (h : k < P) : (pvk gs P k).set k (.pointer (some ⟨g, 0, none⟩)) = pvk (fun j => if j = k then g else gs j) P (k + 1) := by
  apply List.ext_getElem?
  intro j
  rw [List.getElem?_set]
  by_cases hj : j < P
  · rw [pvk_get (fun j => if j = k then g else gs j) P (k + 1) j hj]
    by_cases e : k = j
    · subst e; simp [pvk_length, h]
    · rw [if_neg e, pvk_get gs P k j hj]
      have e2 : ¬ j = k := fun h => e h.symm
      by_cases h1 : j < k
      · rw [if_pos h1, if_pos (by omega), if_neg e2]
      · rw [if_neg h1, if_neg (by omega)]
  · rw [List.getElem?_eq_none (l := pvk _ _ _) (by rw [pvk_length]; omega)]
    rw [List.getElem?_eq_none (l := pvk _ _ _) (by rw [pvk_length]; omega)]
    split
    · split
      · rename_i h3; rw [pvk_length] at h3; omega
      · rfl
    · rfl
/-- k rows of parity, all of them made since world w, behind block gA -/
def VRows (s K P k gA : Nat) (gs hs : Nat → Nat) (W : World) : Prop := ∀ j, j < k → gA < gs j ∧ gA < hs j ∧ VecAt W (gs j) (hs j) (K + P) (parJ s K j)
def RowsOk (s K P : Nat) (w : World) (e : Ending) (w' : World) : Prop :=
  ∃ gA gs hs, e = .returned (.slice (some ⟨gA, 0, none⟩) P P) ∧ Hid (w.heap.size ≤ gA ∧ VRows s K P P gA gs hs w') ∧ Hid (w'.ownsRow w.heap.size 26 1 (.slice (some ⟨gA, 0, none⟩) P P) P (pvk gs P P)) ∧ Hid (Below w.heap.size w w')
set_option maxRecDepth 100000 in
set_option maxHeartbeats 1600000 in
theorem rows_any (s K P Z : Nat) (w : World) (hs : s < 4294967296) (hK : 1 ≤ K ∧ K ≤ 64) (hP : P ≤ 16) (hZ : 1 ≤ Z ∧ Z ≤ 16) : Calls Tryd.prog 17 #[parV s K P Z] w (RowsOk s K P w) := by
  have HX0 := Lib.hid (heap_alloc_new w (.cells #[.int .u32 (s : Int), .int .i64 (K : Int), .int .i64 (P : Int), .int .i64 (Z : Int)] 24))
  have HB0 : Hid (Below w.heap.size w (w.alloc (.cells #[.int .u32 (s : Int), .int .i64 (K : Int), .int .i64 (P : Int), .int .i64 (Z : Int)] 24))) := (Below.refl _ _).alloc (Nat.le_refl _) _
  have hz : (w.alloc (.cells #[.int .u32 (s : Int), .int .i64 (K : Int), .int .i64 (P : Int), .int .i64 (Z : Int)] 24)).heap.size = w.heap.size + 1 := by simp
  have HZ0 := Lib.hid hz
  have hM := fun W => may_any s (K : Int) (P : Int) (Z : Int) W
  rw [show mayB (K : Int) (P : Int) (Z : Int) = true from (mayB_iff _ _ _).2 (by omega)] at hM
  have hPA := fun W (j : Nat) (hj : j < P) => parity_any s K P Z j W hs hK hP hZ hj
  unfold parV at hM hPA ⊢
  have HM := Lib.hid hM
  have HPA := Lib.hid hPA
  have hmk := madePtr P (by omega)
  have HPB := Lib.hid hP
  have hp16 : (P : Int) ≤ 16 := by omega
  clear hM hPA hs hK hP hZ hz
  go_enter Tryd.func17, Tryd.ntmps17
  go_wp2_with fail
  refine (HM.out _).mono ?_
  rintro e w1 ⟨rfl, hb1⟩
  have hs1 : w.heap.size + 1 ≤ w1.heap.size := by have := hb1.out.size; have := HZ0.out; omega
  have HX1 := Lib.hid ((hb1.out.block w.heap.size (by have := HZ0.out; omega)).trans HX0.out)
  have HB1 := Lib.hid (HB0.out.trans (hb1.out.mono HB0.out.size))
  have HS1 := Lib.hid hs1
  obtain ⟨c0, c1, c2, c3⟩ := box4 HX1.out
  clear hb1 hs1 HX0 HB0 HZ0 HM
  go_wp2_with fail
  clear c0 c1 c2 c3 hmk
  have HOW : Hid ((w1.alloc (.cells (Array.replicate P (.pointer none)) 26)).ownsRow w1.heap.size 26 1 (.slice (some ⟨w1.heap.size, 0, none⟩) P P) P (pvk (fun _ => 0) P 0)) := by
    show World.ownsRow _ _ _ _ _ _ _
    rw [pvk_zero]
    have := own_lit (w := w1) (base := w1.heap.size) (g := w1.heap.size) (n := P) (e := 26) (Array.replicate P (.pointer none)) rfl (Nat.le_refl _) (by simp) (by have := HPB.out; unfold maxLen; omega)
    simpa using this
  have HAL : Hid (Below w1.heap.size w1 (w1.alloc (.cells (Array.replicate P (.pointer none)) 26))) := (Below.refl _ _).alloc (Nat.le_refl _) _
  generalize (w1.alloc (.cells (Array.replicate P (.pointer none)) 26)) = w2 at *
  obtain ⟨gA, hgA⟩ : ∃ gA, w1.heap.size = gA := ⟨_, rfl⟩
  rw [hgA] at HOW ⊢
  have HGA := Lib.hid hgA
  clear hgA
  go_loopw [13] (fun i wr => ∃ (k : Nat) (gs hs : Nat → Nat), k ≤ P ∧ i = .int .i64 k ∧ Hid (VRows s K P k gA gs hs wr) ∧ Hid (wr.ownsRow gA 26 1 (.slice (some ⟨gA, 0, none⟩) P P) P (pvk gs P k)) ∧ Hid (Below w1.heap.size w1 wr)) (fun i _ => P - (intOf i).toNat)
  case atStart => exact ⟨0, fun _ => 0, fun _ => 0, by omega, rfl, Lib.hid (fun j hj => by omega), HOW, HAL⟩
  case round =>
    obtain ⟨k, gs, hs, hk, rfl, hvr, hown, hbk⟩ := hrel
    by_cases hlt : k < P
    · obtain ⟨c0, c1, c2, c3⟩ := box4 ((hbk.out.block w.heap.size (by have := HS1.out; omega)).trans HX1.out)
      have hcp := Lib.hid (HPA.out wr k hlt)
      clear HOW HAL
      go_wp2_with fail
      refine hcp.out.mono ?_
      rintro e w4 ⟨g, h, rfl, hg, hh, hv, hb4⟩
      have hlo := (hown.out.lt gA rfl).2
      have ho4 := own_below hown.out hb4.out
      have hfz := ho4.frozenAt k
      have hcs := (ho4.cellAt k (by omega)).trans (pvk_get gs P k k hlt)
      have hst := Lib.hid ((ho4.stored k (.pointer (some ⟨g, 0, none⟩))).1)
      rw [pvk_set gs P k g hlt] at hst
      have hvr2 : Hid (VRows s K P (k + 1) gA (fun j => if j = k then g else gs j) (fun j => if j = k then h else hs j) (w4.setCell ⟨gA, k, none⟩ (.pointer (some ⟨g, 0, none⟩)))) := Lib.hid (fun j hj => by
        by_cases e : j = k
        · subst e
          simp only [if_pos]
          exact ⟨by omega, by omega, hv.out.grown (grown_set1 w4 gA j _) (by omega) (by omega)⟩
        · simp only [if_neg e]
          obtain ⟨a, b, c⟩ := hvr.out j (by omega)
          exact ⟨a, b, (c.below hb4.out).grown (grown_set1 w4 gA k _) (by omega) (by omega)⟩)
      have hbk2 := Lib.hid ((hbk.out.trans (hb4.out.mono hbk.out.size)).setCell (p := ⟨gA, k, none⟩) (by have := HGA.out; show _ ≤ gA; omega) (.pointer (some ⟨g, 0, none⟩)))
      clear hcp hvr hown hbk ho4 hlo hg hh hv hb4
      go_wp2_with fail
      go_roundw
      case rel => exact ⟨k + 1, _, _, by omega, by go_num, hvr2, hst, hbk2⟩
      case measure => simp [intOf]; omega
    · obtain rfl : P = k := by omega
      clear hlt HOW HAL
      have hba := Lib.hid (HB1.out.trans (hbk.out.mono HB1.out.size))
      have hob := Lib.hid (own_base hown.out (base' := w.heap.size) (by have := HS1.out; have := HGA.out; omega))
      have hge : Hid (w.heap.size ≤ gA) := Lib.hid (by have := HS1.out; have := HGA.out; omega)
      go_wp2_with fail
      go_ret
      exact ⟨gA, gs, hs, rfl, Lib.hid ⟨hge.out, hvr.out⟩, hob, hba⟩
end Go.Proofs.YtibleaaghhhjkaaDoor.Pc
