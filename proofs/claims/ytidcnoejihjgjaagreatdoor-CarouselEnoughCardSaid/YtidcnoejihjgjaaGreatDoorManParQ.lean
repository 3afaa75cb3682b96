/- manifest.Bytes, Parse: by contracts. -/
import Derived.Test.YtidcnoejihjgjaaGreatDoorManTagQ
import Derived.Test.YtidcnoejihjgjaaGreatDoorZRQ
import Derived.Test.YtidcnoejihjgjaaGreatDoorZSQ
namespace Go.Proofs.YtidcnoejihjgjaaGreatDoor
open Go.RowKit
open Sh
def LMan.w32 (M : LMan) : Prop := M.s < 4294967296 ∧ M.v < 4294967296
theorem plainM_yes {cs : Array Value} {M : LMan} {w : World} {P : Nat → Prop} (h : IsMan w P cs M) (hm : M.may = true) (hw : M.w32) :
    Calls Tryz.prog 71 #[.agg cs] w (PlainOk M.bytes w) := by
  obtain ⟨A, c, rfl, r⟩ := h
  obtain ⟨s, v, l, z, p, h⟩ := M
  obtain ⟨L, Z, Q, rfl, rfl, rfl, h1, h2, h3, h4, h5, h6⟩ := man_bounds hm
  simp only at h6
  have e : plainB s v L Z Q h = (⟨s, v, (L : Int), (Z : Int), (Q : Int), h⟩ : LMan).bytes := by unfold LMan.bytes; simp
  rw [← e]
  unfold LMan.cells
  have hm2 : manB (L : Int) (Z : Int) (Q : Int) 32 = true := by have := hm; unfold LMan.may at this; rw [h6] at this; exact this
  have r2 := r.row
  simp only [h6] at r2 ⊢
  exact plain_yes s v L Z Q A c w.heap.size h w hw.1 hw.2 h2 h4 h5 hm2 r2 (Nat.le_refl _)
def MBytesOk (l : List UInt8) (w : World) (e : Ending) (w' : World) : Prop := ∃ A c, e = .returned (.tuple #[.slice A 76 c, .int .i64 0]) ∧ Hid (w'.ownsRow w.heap.size 5 1 (.slice A 76 c) 76 (bv l)) ∧ Hid (Below w.heap.size w w')
set_option maxRecDepth 100000 in
set_option maxHeartbeats 800000 in
theorem manBytes_yes {cs : Array Value} {M : LMan} {w : World} {P : Nat → Prop} (A : Option Addr) (n c : Nat) (key : List UInt8) (ht : Tab w) (hk : Row w w.heap.size A n (bv key)) (hn : n ≤ 1000000) (h : IsMan w P cs M) (hm : M.may = true) (hw : M.w32) :
    Calls Tryz.prog 47 #[.slice A n c, .agg cs] w (MBytesOk (M.bytes ++ tagOf key M.bytes) w) := by
  have hb0 : Below w.heap.size w (w.alloc (.cells cs 32)) := (Below.refl _ _).alloc (Nat.le_refl _) _
  have H0 := Lib.hid (h.below hb0)
  have B0 := Lib.hid hb0
  have BX := Lib.hid (heap_alloc_new w (.cells cs 32))
  have HM := Lib.hid hm
  have HW := Lib.hid hw
  have HT := Lib.hid ht
  have HK := Lib.hid hk
  have I := Lib.hid h.inf
  clear h hb0 hm hw ht hk
  go_enter Tryz.func47, Tryz.ntmps47
  go_wp2_with ((with_reducible show wpList _ _ _ _ _ _); refine wpList_load_row (o := ⟨some 9, _, _, _, _, _⟩) rfl _ (.tmp 3) rfl w.heap.size rfl _ _ _ _ BX.out Tryz.underlying32 rfl I.out ?_)
  refine (plainM_yes H0.out HM.out HW.out).mono ?_
  rintro e w1 ⟨A1, c1, rfl, O1, hb1⟩
  have B1 := Lib.hid (B0.out.trans (hb1.out.mono B0.out.size))
  have R1 := Lib.hid (Row.of_own O1.out)
  have K1 := Lib.hid ((HK.out.below B1.out).more B1.out.size)
  have T1 := Lib.hid (HT.out.below B1.out HT.out.1)
  clear hb1 O1 B0 H0 BX HK HT
  go_wp2_with fail
  refine (tag_any w1.heap.size n c A key w1.heap.size 44 c1 A1 M.bytes w1 T1.out K1.out (Nat.le_refl _) R1.out (Nat.le_refl _) (by omega) (by omega)).mono ?_
  rintro e w2 ⟨A2, c2, rfl, O2, hb2⟩
  have ba : Below w2.heap.size w2 (w2.alloc (.cells #[.slice A1 44 c1, .slice A2 32 c2] 22)) := (Below.refl _ _).alloc (Nat.le_refl _) _
  have B3 := Lib.hid ((B1.out.trans (hb2.out.mono B1.out.size)).trans (ba.mono (Nat.le_trans B1.out.size hb2.out.size)))
  have R13 := Lib.hid ((R1.out.below (hb2.out.trans (ba.mono hb2.out.size))).more (hb2.out.trans (ba.mono hb2.out.size)).size)
  have R23 := Lib.hid (((Row.of_own O2.out).below ba).more ba.size)
  have X3 := Lib.hid (heap_alloc_new w2 (.cells #[.slice A1 44 c1, .slice A2 32 c2] 22))
  clear O2 hb2 ba K1 T1 R1
  go_wp2_with fail
  generalize w2.alloc (.cells #[.slice A1 44 c1, .slice A2 32 c2] 22) = w3 at *
  refine (concat2 w2.heap.size 44 c1 32 c2 A1 A2 M.bytes (tagOf key M.bytes) w3 X3.out R13.out R23.out (by omega) (by omega)).mono ?_
  rintro e w4 ⟨A4, c4, rfl, O4, hb4⟩
  have B4 := Lib.hid (B3.out.trans (hb4.out.mono B3.out.size))
  have O5 := Lib.hid (own_base O4.out B3.out.size)
  clear O4 hb4
  go_wp2_with fail
  go_ret2
  exact ⟨A4, c4, rfl, O5, B4⟩
end Go.Proofs.YtidcnoejihjgjaaGreatDoor
