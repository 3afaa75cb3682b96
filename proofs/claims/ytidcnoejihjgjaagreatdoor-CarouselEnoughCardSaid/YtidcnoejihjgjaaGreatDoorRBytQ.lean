/- The reference's ManifestBytes: by contracts. -/
import Derived.Test.YtidcnoejihjgjaaGreatDoorRPlainQ
import Derived.Test.YtidcnoejihjgjaaGreatDoorRTagQ
import Derived.Test.YtidcnoejihjgjaaGreatDoorManParQ
namespace Go.Proofs.YtidcnoejihjgjaaGreatDoor
open Go.RowKit Sh
set_option maxRecDepth 100000 in
set_option maxHeartbeats 1600000 in
theorem rbytes_yes {cs : Array Value} {M : LMan} {w : World} {P : Nat → Prop} (A : Option Addr) (n c : Nat) (key : List UInt8) (hk : Row w w.heap.size A n (bv key)) (hn : n ≤ 100000) (h : IsMan w P cs M) (hm : M.may = true) (hw : M.w32) :
    Calls Tryz.prog 10 #[.slice A n c, .agg cs] w (RPlainOk (M.bytes ++ tagOf key M.bytes) w) := by
  have X0 := Lib.hid (heap_alloc_new w (.cells cs 32))
  have B0 : Hid (Below w.heap.size w (w.alloc (.cells cs 32))) := Lib.hid ((Below.refl _ _).alloc (Nat.le_refl _) _)
  have I := Lib.hid h.inf
  have HM := Lib.hid (h.below ((Below.refl w.heap.size w).alloc (Nat.le_refl _) (.cells cs 32)))
  have HK := Lib.hid (RowP.of_row ((hk.below B0.out).more B0.out.size))
  have HF := Lib.hid hm
  have HW := Lib.hid hw
  have HN := Lib.hid hn
  have HL : Hid (M.bytes.length = 44) := Lib.hid (by rw [bytes_len, may_32 hm])
  clear h hm hk hw hn
  go_enter Tryz.func10, Tryz.ntmps10
  go_wp2_with ((with_reducible show wpList _ _ _ _ _ _); refine wpList_load_row (o := ⟨some 9, _, _, _, _, _⟩) rfl _ (.tmp 3) rfl (w.heap.size) rfl _ _ _ _ X0.out Tryz.underlying32 rfl I.out ?_)
  generalize w.alloc (.cells cs 32) = w0 at *
  refine (rplainS_yes HM.out HF.out HW.out.1 HW.out.2).mono ?_
  rintro e w1 ⟨A1, n1, c1, rfl, hn1, ho1, hb1⟩
  have B1 := Lib.hid (B0.out.trans (hb1.out.mono B0.out.size))
  have R1 := Lib.hid (RowP.of_row (Row.of_own ho1.out))
  have K1 := Lib.hid (HK.out.below hb1.out)
  have N1 : Hid (n1 = 44) := Lib.hid (by rw [hn1.out, HL.out])
  clear hn1 ho1 hb1 X0 B0
  go_wp2_with fail
  refine (rtag_any n c A key n1 c1 A1 M.bytes w1 K1.out.row R1.out.row HN.out (by have := N1.out; omega)).mono ?_
  rintro e w2 ⟨A2, c2, rfl, ho2, hb2⟩
  have B2 := Lib.hid (B1.out.trans (hb2.out.mono B1.out.size))
  have R2 := Lib.hid (RowP.of_row (Row.of_own ho2.out))
  have R1b := Lib.hid (R1.out.below hb2.out)
  clear ho2 hb2
  have X2 := Lib.hid (heap_alloc_new w2 (.cells #[.slice A1 n1 c1, .slice A2 32 c2] 22))
  have ba : Below w2.heap.size w2 (w2.alloc (.cells #[.slice A1 n1 c1, .slice A2 32 c2] 22)) := (Below.refl _ _).alloc (Nat.le_refl _) _
  have B3 := Lib.hid (B2.out.trans (ba.mono B2.out.size))
  have R3 := Lib.hid (R2.out.below ba)
  have R1c := Lib.hid (R1b.out.below ba)
  clear ba
  have TL : Hid ((tagOf key M.bytes).length = 32) := Lib.hid (by have := R2.out.1; rwa [bv_length] at this)
  go_wp2_with fail
  generalize w2.alloc (.cells #[.slice A1 n1 c1, .slice A2 32 c2] 22) = w3 at *
  refine (join_box [⟨A1, n1, c1, M.bytes⟩, ⟨A2, 32, c2, tagOf key M.bytes⟩] 2 rfl rfl X2.out (by
    intro r hr
    simp only [List.mem_cons, List.not_mem_nil, or_false] at hr
    rcases hr with rfl | rfl
    · exact R1c.out
    · exact R3.out) (by simp) (by have h1 := HL.out; have h2 := TL.out; simp [flat, h1, h2]) (l := M.bytes ++ tagOf key M.bytes) (by simp [flat])).mono ?_
  rintro e w4 ⟨A4, n4, c4, rfl, hn4, ho4, hb4⟩
  have hend := B3.out.trans (hb4.mono B3.out.size)
  have hown := own_base ho4 B3.out.size
  clear hb4
  go_wp2_with fail
  go_ret2
  exact ⟨_, _, _, rfl, hn4, Lib.hid hown, Lib.hid hend⟩
end Go.Proofs.YtidcnoejihjgjaaGreatDoor
