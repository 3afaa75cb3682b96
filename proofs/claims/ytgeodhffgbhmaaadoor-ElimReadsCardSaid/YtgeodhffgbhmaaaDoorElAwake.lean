/- law6.awake; a matrix that there isn't: by contracts. -/
import Derived.Test.YtgeodhffgbhmaaaDoorElInv
namespace Go.Proofs.YtgeodhffgbhmaaaDoor.El
open Go.RowKit
open VecM Vc
set_option maxRecDepth 100000 in
theorem row_nil (i : Int) (w : World) : Calls Tryd.prog 45 #[.pointer none, .int .i64 i] w fun e w' => e = .returned (.tuple #[.pointer none, .slice none 0 0, .bool false]) ∧ w = w' := by
  go_enter Tryd.func45, Tryd.ntmps45
  go_wp2_with fail
  refine (empty_nil w).mono ?_
  rintro e w1 ⟨rfl, rfl⟩
  go_wp2_with fail
  refine bodyPost_ret (v := .tuple #[.pointer none, .slice none 0 0, .bool false]) (by simp [results, Tryd.results45, go_sem]) rfl ⟨rfl, rfl⟩
set_option maxRecDepth 100000 in
theorem bytes_nilm (w : World) : Calls Tryd.prog 22 #[.pointer none] w fun e w' => e = .returned (.slice none 0 0) ∧ w = w' := by
  go_enter Tryd.func22, Tryd.ntmps22
  go_wp2_with fail
  refine (empty_nil w).mono ?_
  rintro e w1 ⟨rfl, rfl⟩
  go_wp2_with fail
  go_ret
  exact ⟨rfl, rfl⟩
theorem aw_of1 : ofL 2 [0, 1] = 3 := by decide +kernel
theorem aw_of2 : ofL 2 [1] = 2 := by decide +kernel
theorem aw_1 : addMx 2 (List.replicate 2 none) 3 [3] = ([some (3, [3]), none], true) := by decide +kernel
theorem aw_2 : addMx 2 [some (3, [3]), none] 2 [1] = ([some (1, [2]), some (2, [1])], true) := by decide +kernel
theorem aw_inv : Inv 2 1 [some (3, [3]), none] := by
  have := addMx_inv (Inv.start 2 1) (by omega) (X := 3) (l := [3]) (by decide) rfl
  rw [aw_1] at this
  exact this
set_option maxRecDepth 100000 in
set_option maxHeartbeats 1600000 in
theorem awake6_any (w : World) (ht : DTab w) : Calls Tryd.prog 7 #[] w fun e w' => e = .returned (.bool true) ∧ Hid (Below w.heap.size w w') := by
  have HT := Lib.hid ht
  clear ht
  go_enter Tryd.func7, Tryd.ntmps7
  go_wp2_with fail
  refine (newI 2 1 w (by omega) (by omega)).mono ?_
  rintro e w1 ⟨gm, rfl, hm, hb⟩
  have r1 := row_new w1 #[.int .i64 0, .int .i64 1] 3 (0, 0)
  have hba : Below w1.heap.size w1 (w1.alloc (.cells #[.int .i64 0, .int .i64 1] 3)) := (Below.refl _ _).alloc (Nat.le_refl _) _
  have HO := Lib.hid (of_any 2 _ 2 2 _ [0, 1] _ r1 (by simp) (by omega) (by omega))
  have HM := Lib.hid (hm.out.below hba)
  have HB := Lib.hid (hb.out.trans (hba.mono hb.out.size))
  have HFT : Hid (¬ (w.heap.size ≤ 0 ∧ 0 < w1.heap.size)) := Lib.hid (fun h => by have := HT.out.1; omega)
  clear r1 hba hm hb
  go_wp2_with fail
  refine HO.out.mono ?_
  rw [aw_of1]
  rintro e w2 ⟨g1, h1, rfl, hg1, hh1, hv, hb2⟩
  clear HO
  have hbb : Below w2.heap.size w2 (w2.alloc (.cells #[.int .u8 3] 5)) := (Below.refl _ _).alloc (Nat.le_refl _) _
  have HM2 := Lib.hid ((HM.out.below hb2.out).below hbb)
  have HV2 := Lib.hid (hv.out.below hbb)
  have HB2 := Lib.hid (HB.out.trans ((hb2.out.trans (hbb.mono hb2.out.size)).mono HB.out.size))
  have HR2 : Hid (Row (w2.alloc (.cells #[.int .u8 3] 5)) (w2.alloc (.cells #[.int .u8 3] 5)).heap.size (some ⟨w2.heap.size, 0, none⟩) 1 (bv [3])) := Lib.hid ((row_new w2 #[.int .u8 3] 5 (0, 0)).more (by simp))
  clear hg1 hh1 hv hb2 hbb HM HB
  go_wp2_with fail
  generalize w2.alloc (.cells #[.int .u8 3] 5) = w3 at *
  refine (addI HM2.out (Inv.start 2 1) HV2.out HR2.out rfl (HT.out.grow (HB2.out))).mono ?_
  rw [aw_1]
  rintro e w4 ⟨rfl, hm4, hf4⟩
  have hlo : ∀ b, (w.heap.size ≤ b ∧ b < w1.heap.size) → w.heap.size ≤ b := fun b h => h.1
  have HB4 := Lib.hid (HB2.out.trans (hf4.out.below hlo HB2.out.size))
  have HM4 := Lib.hid hm4.out
  clear HM2 HV2 HR2 hm4 hf4 hlo
  have r4 := row_new w4 #[.int .i64 1] 3 (0, 0)
  have hba : Below w4.heap.size w4 (w4.alloc (.cells #[.int .i64 1] 3)) := (Below.refl _ _).alloc (Nat.le_refl _) _
  have HO := Lib.hid (of_any 2 _ 1 1 _ [1] _ r4 (by simp) (by omega) (by omega))
  have HM5 := Lib.hid (HM4.out.below hba)
  have HB5 := Lib.hid (HB4.out.trans (hba.mono HB4.out.size))
  clear r4 hba HM4
  go_wp2_with fail
  refine HO.out.mono ?_
  rw [aw_of2]
  rintro e w5 ⟨g5, h5, rfl, hg5, hh5, hv, hb5⟩
  clear HO
  have hbb : Below w5.heap.size w5 (w5.alloc (.cells #[.int .u8 1] 5)) := (Below.refl _ _).alloc (Nat.le_refl _) _
  have HM6 := Lib.hid ((HM5.out.below hb5.out).below hbb)
  have HV6 := Lib.hid (hv.out.below hbb)
  have HB6 := Lib.hid (HB5.out.trans ((hb5.out.trans (hbb.mono hb5.out.size)).mono HB5.out.size))
  have HR6 : Hid (Row (w5.alloc (.cells #[.int .u8 1] 5)) (w5.alloc (.cells #[.int .u8 1] 5)).heap.size (some ⟨w5.heap.size, 0, none⟩) 1 (bv [1])) := Lib.hid ((row_new w5 #[.int .u8 1] 5 (0, 0)).more (by simp))
  clear hg5 hh5 hv hb5 hbb HM5 HB5
  go_wp2_with fail
  generalize w5.alloc (.cells #[.int .u8 1] 5) = w6 at *
  refine (addI HM6.out aw_inv HV6.out HR6.out rfl (HT.out.grow (HB6.out))).mono ?_
  rw [aw_2]
  rintro e w7 ⟨rfl, hm7, hf7⟩
  have HB7 := Lib.hid (HB6.out.trans (hf7.out.below (fun b h => by have := HB4.out.size; have := HB2.out.size; omega) HB6.out.size))
  have HM7 := Lib.hid hm7.out
  clear HM6 HV6 HR6 hm7 hf7 HB4 HB6 HFT HB2
  go_wp2_with fail
  refine (solveI HM7.out (by decide)).mono ?_
  rintro e w8 ⟨gl, es, rfl, hes, hs⟩
  have HS := Lib.hid hs.out
  have HM8 := Lib.hid (HM7.out.below hs.out.b)
  have HB8 := Lib.hid (HB7.out.trans (hs.out.b.mono HB7.out.size))
  have HES := Lib.hid hes
  clear hs hes HM7 HB7
  go_wp2_with fail
  refine (fullI HM8.out).mono ?_
  rw [show decide (rankM ([some (1, [2]), some (2, [1])] : Mx) = 2) = true from by decide]
  rintro e w9 ⟨rfl, hb9⟩
  have HB9 := Lib.hid (HB8.out.trans (hb9.out.mono HB8.out.size))
  have hs9 := HS.out.below hb9.out
  obtain ⟨cs, k1, k2, k3⟩ := hs9.row
  have h0 : ∃ a t, es = a :: t ∧ a.l = [2] := by
    have e := HES.out
    cases es with
    | nil => cases e
    | cons a t => exact ⟨a, t, rfl, by injection e⟩
  obtain ⟨a, t, rfl, hal⟩ := h0
  obtain ⟨a1, a2, d, a3, _⟩ := hs9.at_ a (.head _)
  have q0 : w9.cell? ⟨gl, 0, none⟩ = some (.slice (some ⟨d, 0, none⟩) 1 a.c) := by
    rw [cell_of_row w9 gl 0 cs _ (0, 0) k1, k3 0 a rfl]
    unfold BRow.val
    rw [a1, a3, hal]
    rfl
  have q1 : w9.cell? ⟨d, 0, none⟩ = some (.int .u8 2) := by
    have hrow := a2.row
    rw [hal] at hrow
    obtain ⟨b, o, e, _, hc⟩ := hrow.cellAt (k := 0) (u := .int .u8 2) (by decide) rfl
    rw [a3] at e
    injection e with e
    injection e with e1 e2
    subst e1 e2
    exact hc
  clear hs9 k1 k2 k3 hal a1 a2 a3 hb9 HS HM8 HB8 HES
  go_wp2_with fail
  go_ret
  exact ⟨rfl, HB9⟩
end Go.Proofs.YtgeodhffgbhmaaaDoor.El
