/- session.Admit, what it refuses: by contract. -/
import Derived.Test.YtmncpgfdpcckpaaGreatDoorZMAQN
set_option maxRecDepth 100000
namespace Go.Proofs.YtmncpgfdpcckpaaGreatDoor
open Go.RowKit
set_option maxHeartbeats 1600000 in
theorem admit_a (act trial : Int) (flo gen v0 : Nat) (l0 : Int) (A0 : Option Addr) (n0 c0 : Nat) (v1 : Nat) (l1 : Int) (A1 : Option Addr) (n1 c1 : Nat) (on : Bool) (s v : Nat) (l z p : Int) (A : Option Addr) (n c B : Nat) (h0 h1 h : List UInt8) (ms mv : Nat) (ml mz mp : Int) (MA : Option Addr) (mn mc : Nat) (mh : List UInt8) (w : World) (hmay : mayB2 act trial v0 l0 h0 v1 l1 h1 on s v l z p h = false) (hl0 : Row w B A0 n0 (bv h0)) (hl1 : Row w B A1 n1 (bv h1)) (hl : Row w B A n (bv h)) (hlm : Row w B MA mn (bv mh)) (hB : B ≤ w.heap.size) :
  Calls Tryz.prog 41 #[.agg #[.int .i64 act, .int .i64 trial, .int .u32 (flo : Int), .int .u32 (gen : Int), .int .u32 (v0 : Int), .int .i64 l0, .slice A0 n0 c0, .int .u32 (v1 : Int), .int .i64 l1, .slice A1 n1 c1, .bool on, .int .u32 (s : Int), .int .u32 (v : Int), .int .i64 l, .int .i64 z, .int .i64 p, .slice A n c], .agg #[.int .u32 (ms : Int), .int .u32 (mv : Int), .int .i64 ml, .int .i64 mz, .int .i64 mp, .slice MA mn mc]] w (AdmitNo 1 w) := by
 have HMAY := Lib.hid hmay
 have HB : Hid (Below w.heap.size w (((w.alloc (.cells #[.int .i64 act, .int .i64 trial, .int .u32 (flo : Int), .int .u32 (gen : Int), .int .u32 (v0 : Int), .int .i64 l0, .slice A0 n0 c0, .int .u32 (v1 : Int), .int .i64 l1, .slice A1 n1 c1, .bool on, .int .u32 (s : Int), .int .u32 (v : Int), .int .i64 l, .int .i64 z, .int .i64 p, .slice A n c] 39)).alloc (.cells #[.int .u32 (ms : Int), .int .u32 (mv : Int), .int .i64 ml, .int .i64 mz, .int .i64 mp, .slice MA mn mc] 37)).alloc (.cells zState 39))) := (((Below.refl _ _).alloc (Nat.le_refl _) _).alloc (by simp) _).alloc (by simp; omega) _
 have CM := Lib.hid (may_any act trial flo gen v0 l0 A0 n0 c0 v1 l1 A1 n1 c1 on s v l z p A n c B h0 h1 h _ (hl0.below (HB.out.mono hB)) (hl1.below (HB.out.mono hB)) (hl.below (HB.out.mono hB)) (Nat.le_trans hB HB.out.size))
 obtain ⟨x0, x1, x2⟩ := alloc3 w (.cells #[.int .i64 act, .int .i64 trial, .int .u32 (flo : Int), .int .u32 (gen : Int), .int .u32 (v0 : Int), .int .i64 l0, .slice A0 n0 c0, .int .u32 (v1 : Int), .int .i64 l1, .slice A1 n1 c1, .bool on, .int .u32 (s : Int), .int .u32 (v : Int), .int .i64 l, .int .i64 z, .int .i64 p, .slice A n c] 39) (.cells #[.int .u32 (ms : Int), .int .u32 (mv : Int), .int .i64 ml, .int .i64 mz, .int .i64 mp, .slice MA mn mc] 37) (.cells zState 39)
 have X0 := Lib.hid x0
 have X1 := Lib.hid x1
 have X2 := Lib.hid x2
 have HL0 := Lib.hid hl0
 have HL1 := Lib.hid hl1
 have HL := Lib.hid hl
 have HLM := Lib.hid hlm
 have HBB := Lib.hid hB
 clear hl0 hl1 hl hlm hB x0 x1 x2 hmay
 go_enter Tryz.func41, Tryz.ntmps41
 go_wp2_with fail
 refine CM.out.mono ?_
 rintro e w1 ⟨rfl, hb1⟩
 rw [HMAY.out]
 have HB1 : Hid (Below w.heap.size w w1) := HB.out.trans (hb1.mono HB.out.size)
 have Y0 := Lib.hid ((hb1.block w.heap.size (by simp <;> omega)).trans X0.out)
 have Y1 := Lib.hid ((hb1.block (w.heap.size + 1) (by simp <;> omega)).trans X1.out)
 have Y2 := Lib.hid ((hb1.block (w.heap.size + 2) (by simp <;> omega)).trans X2.out)
 clear hb1 X0 X1 X2 CM HMAY HB
 go_wp2_with ((with_reducible show wpList _ _ _ _ _ _); refine wpList_store_row rfl _ (.tmp 4) (.tmp 16) rfl (w.heap.size + 1 + 1) zState rfl rfl _ _ Y2.out (by kernel_rfl) (by rfl) (by kernel_rfl) ?_)
 have hrow : (w1.setRow (w.heap.size + 1 + 1) zState).heap[w.heap.size + 1 + 1]? = some (.cells zState 39 (0, 0)) := setRow_heap _ _ _ _ _ _ Y2.out
 refine bodyPost_ret (results_cell_tmp_row rfl _ _ (w.heap.size + 1 + 1) _ _ (0, 0) _ rfl hrow Tryz.underlying39 rfl (by kernel_rfl)) rfl ?_
 exact ⟨rfl, below_setRow2 HB1.out (by omega) _⟩
set_option maxHeartbeats 1600000 in
theorem admit_b (act trial : Int) (flo gen v0 : Nat) (l0 : Int) (A0 : Option Addr) (n0 c0 : Nat) (v1 : Nat) (l1 : Int) (A1 : Option Addr) (n1 c1 : Nat) (on : Bool) (s v : Nat) (l z p : Int) (A : Option Addr) (n c B : Nat) (h0 h1 h : List UInt8) (ms mv : Nat) (ml mz mp : Int) (MA : Option Addr) (mn mc : Nat) (mh : List UInt8) (w : World) (hmay : mayB2 act trial v0 l0 h0 v1 l1 h1 on s v l z p h = true) (hmm : manB ml mz mp mn = false) (hl0 : Row w B A0 n0 (bv h0)) (hl1 : Row w B A1 n1 (bv h1)) (hl : Row w B A n (bv h)) (hlm : Row w B MA mn (bv mh)) (hB : B ≤ w.heap.size) :
  Calls Tryz.prog 41 #[.agg #[.int .i64 act, .int .i64 trial, .int .u32 (flo : Int), .int .u32 (gen : Int), .int .u32 (v0 : Int), .int .i64 l0, .slice A0 n0 c0, .int .u32 (v1 : Int), .int .i64 l1, .slice A1 n1 c1, .bool on, .int .u32 (s : Int), .int .u32 (v : Int), .int .i64 l, .int .i64 z, .int .i64 p, .slice A n c], .agg #[.int .u32 (ms : Int), .int .u32 (mv : Int), .int .i64 ml, .int .i64 mz, .int .i64 mp, .slice MA mn mc]] w (AdmitNo 1 w) := by
 have HMAY := Lib.hid hmay
 have HMM := Lib.hid hmm
 clear hmm
 have HB : Hid (Below w.heap.size w (((w.alloc (.cells #[.int .i64 act, .int .i64 trial, .int .u32 (flo : Int), .int .u32 (gen : Int), .int .u32 (v0 : Int), .int .i64 l0, .slice A0 n0 c0, .int .u32 (v1 : Int), .int .i64 l1, .slice A1 n1 c1, .bool on, .int .u32 (s : Int), .int .u32 (v : Int), .int .i64 l, .int .i64 z, .int .i64 p, .slice A n c] 39)).alloc (.cells #[.int .u32 (ms : Int), .int .u32 (mv : Int), .int .i64 ml, .int .i64 mz, .int .i64 mp, .slice MA mn mc] 37)).alloc (.cells zState 39))) := (((Below.refl _ _).alloc (Nat.le_refl _) _).alloc (by simp) _).alloc (by simp; omega) _
 have CM := Lib.hid (may_any act trial flo gen v0 l0 A0 n0 c0 v1 l1 A1 n1 c1 on s v l z p A n c B h0 h1 h _ (hl0.below (HB.out.mono hB)) (hl1.below (HB.out.mono hB)) (hl.below (HB.out.mono hB)) (Nat.le_trans hB HB.out.size))
 obtain ⟨x0, x1, x2⟩ := alloc3 w (.cells #[.int .i64 act, .int .i64 trial, .int .u32 (flo : Int), .int .u32 (gen : Int), .int .u32 (v0 : Int), .int .i64 l0, .slice A0 n0 c0, .int .u32 (v1 : Int), .int .i64 l1, .slice A1 n1 c1, .bool on, .int .u32 (s : Int), .int .u32 (v : Int), .int .i64 l, .int .i64 z, .int .i64 p, .slice A n c] 39) (.cells #[.int .u32 (ms : Int), .int .u32 (mv : Int), .int .i64 ml, .int .i64 mz, .int .i64 mp, .slice MA mn mc] 37) (.cells zState 39)
 have X0 := Lib.hid x0
 have X1 := Lib.hid x1
 have X2 := Lib.hid x2
 have HL0 := Lib.hid hl0
 have HL1 := Lib.hid hl1
 have HL := Lib.hid hl
 have HLM := Lib.hid hlm
 have HBB := Lib.hid hB
 clear hl0 hl1 hl hlm hB x0 x1 x2 hmay
 go_enter Tryz.func41, Tryz.ntmps41
 go_wp2_with fail
 refine CM.out.mono ?_
 rintro e w1 ⟨rfl, hb1⟩
 rw [HMAY.out]
 have HB1 : Hid (Below w.heap.size w w1) := HB.out.trans (hb1.mono HB.out.size)
 have Y0 := Lib.hid ((hb1.block w.heap.size (by simp <;> omega)).trans X0.out)
 have Y1 := Lib.hid ((hb1.block (w.heap.size + 1) (by simp <;> omega)).trans X1.out)
 have Y2 := Lib.hid ((hb1.block (w.heap.size + 2) (by simp <;> omega)).trans X2.out)
 clear hb1 X0 X1 X2 CM HMAY HB
 obtain ⟨y0, y1, y2, y3, y4, y5⟩ := bx6 Y1.out
 go_wp2_with fail
 refine (manMay_any ms mv ml mz mp MA mn mc w1).mono ?_
 rintro e w2 ⟨rfl, hb2⟩
 rw [HMM.out]
 have HB2 : Hid (Below w.heap.size w w2) := HB1.out.trans (hb2.mono HB1.out.size)
 have L1 : Hid (w.heap.size + 2 < w1.heap.size) := (Array.getElem?_eq_some_iff.1 Y2.out).1
 have Z0 := Lib.hid ((hb2.block w.heap.size (by have := L1.out; omega)).trans Y0.out)
 have Z1 := Lib.hid ((hb2.block (w.heap.size + 1) (by have := L1.out; omega)).trans Y1.out)
 have Z2 := Lib.hid ((hb2.block (w.heap.size + 2) L1.out).trans Y2.out)
 clear y0 y1 y2 y3 y4 y5 hb2 Y0 Y1 Y2 HMM L1
 go_wp2_with ((with_reducible show wpList _ _ _ _ _ _); refine wpList_store_row rfl _ (.tmp 4) (.tmp 16) rfl (w.heap.size + 1 + 1) zState rfl rfl _ _ Z2.out (by kernel_rfl) (by rfl) (by kernel_rfl) ?_)
 have hrow : (w2.setRow (w.heap.size + 1 + 1) zState).heap[w.heap.size + 1 + 1]? = some (.cells zState 39 (0, 0)) := setRow_heap _ _ _ _ _ _ Z2.out
 refine bodyPost_ret (results_cell_tmp_row rfl _ _ (w.heap.size + 1 + 1) _ _ (0, 0) _ rfl hrow Tryz.underlying39 rfl (by kernel_rfl)) rfl ?_
 exact ⟨rfl, below_setRow2 HB2.out (by omega) _⟩
set_option maxHeartbeats 1600000 in
theorem admit_c (act trial : Int) (flo gen v0 : Nat) (l0 : Int) (A0 : Option Addr) (n0 c0 : Nat) (v1 : Nat) (l1 : Int) (A1 : Option Addr) (n1 c1 : Nat) (on : Bool) (s v : Nat) (l z p : Int) (A : Option Addr) (n c B : Nat) (h0 h1 h : List UInt8) (ms mv : Nat) (ml mz mp : Int) (MA : Option Addr) (mn mc : Nat) (mh : List UInt8) (w : World) (hmay : mayB2 act trial v0 l0 h0 v1 l1 h1 on s v l z p h = true) (hmm : manB ml mz mp mn = true) (htr : trial ≠ 0) (hl0 : Row w B A0 n0 (bv h0)) (hl1 : Row w B A1 n1 (bv h1)) (hl : Row w B A n (bv h)) (hlm : Row w B MA mn (bv mh)) (hB : B ≤ w.heap.size) :
  Calls Tryz.prog 41 #[.agg #[.int .i64 act, .int .i64 trial, .int .u32 (flo : Int), .int .u32 (gen : Int), .int .u32 (v0 : Int), .int .i64 l0, .slice A0 n0 c0, .int .u32 (v1 : Int), .int .i64 l1, .slice A1 n1 c1, .bool on, .int .u32 (s : Int), .int .u32 (v : Int), .int .i64 l, .int .i64 z, .int .i64 p, .slice A n c], .agg #[.int .u32 (ms : Int), .int .u32 (mv : Int), .int .i64 ml, .int .i64 mz, .int .i64 mp, .slice MA mn mc]] w (AdmitNo 12 w) := by
 have HMAY := Lib.hid hmay
 have HMM := Lib.hid hmm
 clear hmm
 have HB : Hid (Below w.heap.size w (((w.alloc (.cells #[.int .i64 act, .int .i64 trial, .int .u32 (flo : Int), .int .u32 (gen : Int), .int .u32 (v0 : Int), .int .i64 l0, .slice A0 n0 c0, .int .u32 (v1 : Int), .int .i64 l1, .slice A1 n1 c1, .bool on, .int .u32 (s : Int), .int .u32 (v : Int), .int .i64 l, .int .i64 z, .int .i64 p, .slice A n c] 39)).alloc (.cells #[.int .u32 (ms : Int), .int .u32 (mv : Int), .int .i64 ml, .int .i64 mz, .int .i64 mp, .slice MA mn mc] 37)).alloc (.cells zState 39))) := (((Below.refl _ _).alloc (Nat.le_refl _) _).alloc (by simp) _).alloc (by simp; omega) _
 have CM := Lib.hid (may_any act trial flo gen v0 l0 A0 n0 c0 v1 l1 A1 n1 c1 on s v l z p A n c B h0 h1 h _ (hl0.below (HB.out.mono hB)) (hl1.below (HB.out.mono hB)) (hl.below (HB.out.mono hB)) (Nat.le_trans hB HB.out.size))
 obtain ⟨x0, x1, x2⟩ := alloc3 w (.cells #[.int .i64 act, .int .i64 trial, .int .u32 (flo : Int), .int .u32 (gen : Int), .int .u32 (v0 : Int), .int .i64 l0, .slice A0 n0 c0, .int .u32 (v1 : Int), .int .i64 l1, .slice A1 n1 c1, .bool on, .int .u32 (s : Int), .int .u32 (v : Int), .int .i64 l, .int .i64 z, .int .i64 p, .slice A n c] 39) (.cells #[.int .u32 (ms : Int), .int .u32 (mv : Int), .int .i64 ml, .int .i64 mz, .int .i64 mp, .slice MA mn mc] 37) (.cells zState 39)
 have X0 := Lib.hid x0
 have X1 := Lib.hid x1
 have X2 := Lib.hid x2
 have HL0 := Lib.hid hl0
 have HL1 := Lib.hid hl1
 have HL := Lib.hid hl
 have HLM := Lib.hid hlm
 have HBB := Lib.hid hB
 clear hl0 hl1 hl hlm hB x0 x1 x2 hmay
 go_enter Tryz.func41, Tryz.ntmps41
 go_wp2_with fail
 refine CM.out.mono ?_
 rintro e w1 ⟨rfl, hb1⟩
 rw [HMAY.out]
 have HB1 : Hid (Below w.heap.size w w1) := HB.out.trans (hb1.mono HB.out.size)
 have Y0 := Lib.hid ((hb1.block w.heap.size (by simp <;> omega)).trans X0.out)
 have Y1 := Lib.hid ((hb1.block (w.heap.size + 1) (by simp <;> omega)).trans X1.out)
 have Y2 := Lib.hid ((hb1.block (w.heap.size + 2) (by simp <;> omega)).trans X2.out)
 clear hb1 X0 X1 X2 CM HMAY HB
 obtain ⟨y0, y1, y2, y3, y4, y5⟩ := bx6 Y1.out
 go_wp2_with fail
 refine (manMay_any ms mv ml mz mp MA mn mc w1).mono ?_
 rintro e w2 ⟨rfl, hb2⟩
 rw [HMM.out]
 have HB2 : Hid (Below w.heap.size w w2) := HB1.out.trans (hb2.mono HB1.out.size)
 have L1 : Hid (w.heap.size + 2 < w1.heap.size) := (Array.getElem?_eq_some_iff.1 Y2.out).1
 have Z0 := Lib.hid ((hb2.block w.heap.size (by have := L1.out; omega)).trans Y0.out)
 have Z1 := Lib.hid ((hb2.block (w.heap.size + 1) (by have := L1.out; omega)).trans Y1.out)
 have Z2 := Lib.hid ((hb2.block (w.heap.size + 2) L1.out).trans Y2.out)
 clear y0 y1 y2 y3 y4 y5 hb2 Y0 Y1 Y2 HMM L1
 obtain ⟨c0x, c1x, -, -, -, -, -, -, c10x⟩ := bx17 Z0.out
 have hne : (trial != 0) = true := by simpa using htr
 have hne2 : (trial == 0) = false := by simpa using htr
 clear htr
 go_wp2_with ((with_reducible show wpList _ _ _ _ _ _); refine wpList_store_row rfl _ (.tmp 4) (.tmp 21) rfl (w.heap.size + 1 + 1) zState rfl rfl _ _ Z2.out (by kernel_rfl) (by rfl) (by kernel_rfl) ?_)
 have hrow : (w2.setRow (w.heap.size + 1 + 1) zState).heap[w.heap.size + 1 + 1]? = some (.cells zState 39 (0, 0)) := setRow_heap _ _ _ _ _ _ Z2.out
 refine bodyPost_ret (results_cell_tmp_row rfl _ _ (w.heap.size + 1 + 1) _ _ (0, 0) _ rfl hrow Tryz.underlying39 rfl (by kernel_rfl)) rfl ?_
 exact ⟨rfl, below_setRow2 HB2.out (by omega) _⟩
end Go.Proofs.YtmncpgfdpcckpaaGreatDoor
namespace Go.Proofs.YtmncpgfdpcckpaaGreatDoor
open Go.RowKit
set_option maxHeartbeats 1600000 in
theorem admit_d (act : Int) (flo gen v0 : Nat) (l0 : Int) (A0 : Option Addr) (n0 c0 : Nat) (v1 : Nat) (l1 : Int) (A1 : Option Addr) (n1 c1 : Nat) (s v : Nat) (l z p : Int) (A : Option Addr) (n c B : Nat) (h0 h1 h : List UInt8) (ms mv : Nat) (ml mz mp : Int) (MA : Option Addr) (mn mc : Nat) (mh : List UInt8) (w : World) (hmay : mayB2 act 0 v0 l0 h0 v1 l1 h1 true s v l z p h = true) (hmm : manB ml mz mp mn = true) (hs : decide (s = ms ∧ v = mv ∧ l = ml ∧ z = mz ∧ p = mp ∧ h = mh) = true) (hl0 : Row w B A0 n0 (bv h0)) (hl1 : Row w B A1 n1 (bv h1)) (hl : Row w B A n (bv h)) (hlm : Row w B MA mn (bv mh)) (hB : B ≤ w.heap.size) :
  Calls Tryz.prog 41 #[.agg #[.int .i64 act, .int .i64 0, .int .u32 (flo : Int), .int .u32 (gen : Int), .int .u32 (v0 : Int), .int .i64 l0, .slice A0 n0 c0, .int .u32 (v1 : Int), .int .i64 l1, .slice A1 n1 c1, .bool true, .int .u32 (s : Int), .int .u32 (v : Int), .int .i64 l, .int .i64 z, .int .i64 p, .slice A n c], .agg #[.int .u32 (ms : Int), .int .u32 (mv : Int), .int .i64 ml, .int .i64 mz, .int .i64 mp, .slice MA mn mc]] w (AdmitNo 8 w) := by
 have HMAY := Lib.hid hmay
 have HS := Lib.hid hs
 clear hs
 have HMM := Lib.hid hmm
 clear hmm
 have HB : Hid (Below w.heap.size w (((w.alloc (.cells #[.int .i64 act, .int .i64 0, .int .u32 (flo : Int), .int .u32 (gen : Int), .int .u32 (v0 : Int), .int .i64 l0, .slice A0 n0 c0, .int .u32 (v1 : Int), .int .i64 l1, .slice A1 n1 c1, .bool true, .int .u32 (s : Int), .int .u32 (v : Int), .int .i64 l, .int .i64 z, .int .i64 p, .slice A n c] 39)).alloc (.cells #[.int .u32 (ms : Int), .int .u32 (mv : Int), .int .i64 ml, .int .i64 mz, .int .i64 mp, .slice MA mn mc] 37)).alloc (.cells zState 39))) := (((Below.refl _ _).alloc (Nat.le_refl _) _).alloc (by simp) _).alloc (by simp; omega) _
 have CM := Lib.hid (may_any act 0 flo gen v0 l0 A0 n0 c0 v1 l1 A1 n1 c1 true s v l z p A n c B h0 h1 h _ (hl0.below (HB.out.mono hB)) (hl1.below (HB.out.mono hB)) (hl.below (HB.out.mono hB)) (Nat.le_trans hB HB.out.size))
 obtain ⟨x0, x1, x2⟩ := alloc3 w (.cells #[.int .i64 act, .int .i64 0, .int .u32 (flo : Int), .int .u32 (gen : Int), .int .u32 (v0 : Int), .int .i64 l0, .slice A0 n0 c0, .int .u32 (v1 : Int), .int .i64 l1, .slice A1 n1 c1, .bool true, .int .u32 (s : Int), .int .u32 (v : Int), .int .i64 l, .int .i64 z, .int .i64 p, .slice A n c] 39) (.cells #[.int .u32 (ms : Int), .int .u32 (mv : Int), .int .i64 ml, .int .i64 mz, .int .i64 mp, .slice MA mn mc] 37) (.cells zState 39)
 have X0 := Lib.hid x0
 have X1 := Lib.hid x1
 have X2 := Lib.hid x2
 have HL0 := Lib.hid hl0
 have HL1 := Lib.hid hl1
 have HL := Lib.hid hl
 have HLM := Lib.hid hlm
 have HBB := Lib.hid hB
 clear hl0 hl1 hl hlm hB x0 x1 x2 hmay
 go_enter Tryz.func41, Tryz.ntmps41
 go_wp2_with fail
 refine CM.out.mono ?_
 rintro e w1 ⟨rfl, hb1⟩
 rw [HMAY.out]
 have HB1 : Hid (Below w.heap.size w w1) := HB.out.trans (hb1.mono HB.out.size)
 have Y0 := Lib.hid ((hb1.block w.heap.size (by simp <;> omega)).trans X0.out)
 have Y1 := Lib.hid ((hb1.block (w.heap.size + 1) (by simp <;> omega)).trans X1.out)
 have Y2 := Lib.hid ((hb1.block (w.heap.size + 2) (by simp <;> omega)).trans X2.out)
 clear hb1 X0 X1 X2 CM HMAY HB
 obtain ⟨y0, y1, y2, y3, y4, y5⟩ := bx6 Y1.out
 go_wp2_with fail
 refine (manMay_any ms mv ml mz mp MA mn mc w1).mono ?_
 rintro e w2 ⟨rfl, hb2⟩
 rw [HMM.out]
 have HB2 : Hid (Below w.heap.size w w2) := HB1.out.trans (hb2.mono HB1.out.size)
 have L1 : Hid (w.heap.size + 2 < w1.heap.size) := (Array.getElem?_eq_some_iff.1 Y2.out).1
 have Z0 := Lib.hid ((hb2.block w.heap.size (by have := L1.out; omega)).trans Y0.out)
 have Z1 := Lib.hid ((hb2.block (w.heap.size + 1) (by have := L1.out; omega)).trans Y1.out)
 have Z2 := Lib.hid ((hb2.block (w.heap.size + 2) L1.out).trans Y2.out)
 clear y0 y1 y2 y3 y4 y5 hb2 Y0 Y1 Y2 HMM L1
 obtain ⟨-, c1x, -, -, -, -, -, -, c10x⟩ := bx17 Z0.out
 obtain ⟨d0, d1, d2, d3, d4, d5⟩ := bx6n Z0.out
 obtain ⟨y0, y1, y2, y3, y4, y5⟩ := bx6 Z1.out
 go_wp2_with fail
 refine (manSame_any s v ms mv l z p ml mz mp B n c mn mc A MA h mh w2 (HL.out.below (HB2.out.mono HBB.out)) (HLM.out.below (HB2.out.mono HBB.out)) (Nat.le_trans HBB.out HB2.out.size)).mono ?_
 rintro e w3 ⟨q, rfl, hq, hb3⟩
 have hq2 := hq.out
 rw [HS.out] at hq2
 subst hq2
 have HB3 : Hid (Below w.heap.size w w3) := HB2.out.trans (hb3.mono HB2.out.size)
 have L1 : Hid (w.heap.size + 2 < w2.heap.size) := (Array.getElem?_eq_some_iff.1 Z2.out).1
 have V0 := Lib.hid ((hb3.block w.heap.size (by have := L1.out; omega)).trans Z0.out)
 have V1 := Lib.hid ((hb3.block (w.heap.size + 1) (by have := L1.out; omega)).trans Z1.out)
 have V2 := Lib.hid ((hb3.block (w.heap.size + 2) L1.out).trans Z2.out)
 clear hb3 hq Z0 Z1 Z2 L1 c1x c10x d0 d1 d2 d3 d4 d5 y0 y1 y2 y3 y4 y5
 go_wp2_with ((with_reducible show wpList _ _ _ _ _ _); refine wpList_store_row rfl _ (.tmp 4) (.tmp 31) rfl (w.heap.size + 1 + 1) zState rfl rfl _ _ V2.out (by kernel_rfl) (by rfl) (by kernel_rfl) ?_)
 have hrow : (w3.setRow (w.heap.size + 1 + 1) zState).heap[w.heap.size + 1 + 1]? = some (.cells zState 39 (0, 0)) := setRow_heap _ _ _ _ _ _ V2.out
 refine bodyPost_ret (results_cell_tmp_row rfl _ _ (w.heap.size + 1 + 1) _ _ (0, 0) _ rfl hrow Tryz.underlying39 rfl (by kernel_rfl)) rfl ?_
 exact ⟨rfl, below_setRow2 HB3.out (by omega) _⟩
end Go.Proofs.YtmncpgfdpcckpaaGreatDoor
namespace Go.Proofs.YtmncpgfdpcckpaaGreatDoor
open Go.RowKit
set_option maxHeartbeats 1600000 in
theorem admit_et (act : Int) (flo gen v0 : Nat) (l0 : Int) (A0 : Option Addr) (n0 c0 : Nat) (v1 : Nat) (l1 : Int) (A1 : Option Addr) (n1 c1 : Nat) (s v : Nat) (l z p : Int) (A : Option Addr) (n c B : Nat) (h0 h1 h : List UInt8) (ms mv : Nat) (ml mz mp : Int) (MA : Option Addr) (mn mc : Nat) (mh : List UInt8) (w : World) (hmay : mayB2 act 0 v0 l0 h0 v1 l1 h1 true s v l z p h = true) (hmm : manB ml mz mp mn = true) (hs : decide (s = ms ∧ v = mv ∧ l = ml ∧ z = mz ∧ p = mp ∧ h = mh) = false) (hnw : newB (mayB2 act 0 v0 l0 h0 v1 l1 h1 true s v l z p h) act flo v0 v1 true v mv = false) (hl0 : Row w B A0 n0 (bv h0)) (hl1 : Row w B A1 n1 (bv h1)) (hl : Row w B A n (bv h)) (hlm : Row w B MA mn (bv mh)) (hB : B ≤ w.heap.size) :
  Calls Tryz.prog 41 #[.agg #[.int .i64 act, .int .i64 0, .int .u32 (flo : Int), .int .u32 (gen : Int), .int .u32 (v0 : Int), .int .i64 l0, .slice A0 n0 c0, .int .u32 (v1 : Int), .int .i64 l1, .slice A1 n1 c1, .bool true, .int .u32 (s : Int), .int .u32 (v : Int), .int .i64 l, .int .i64 z, .int .i64 p, .slice A n c], .agg #[.int .u32 (ms : Int), .int .u32 (mv : Int), .int .i64 ml, .int .i64 mz, .int .i64 mp, .slice MA mn mc]] w (AdmitNo 6 w) := by
 have HMAY := Lib.hid hmay
 have HNW := Lib.hid hnw
 clear hnw
 have HS := Lib.hid hs
 clear hs
 have HMM := Lib.hid hmm
 clear hmm
 have HB : Hid (Below w.heap.size w (((w.alloc (.cells #[.int .i64 act, .int .i64 0, .int .u32 (flo : Int), .int .u32 (gen : Int), .int .u32 (v0 : Int), .int .i64 l0, .slice A0 n0 c0, .int .u32 (v1 : Int), .int .i64 l1, .slice A1 n1 c1, .bool true, .int .u32 (s : Int), .int .u32 (v : Int), .int .i64 l, .int .i64 z, .int .i64 p, .slice A n c] 39)).alloc (.cells #[.int .u32 (ms : Int), .int .u32 (mv : Int), .int .i64 ml, .int .i64 mz, .int .i64 mp, .slice MA mn mc] 37)).alloc (.cells zState 39))) := (((Below.refl _ _).alloc (Nat.le_refl _) _).alloc (by simp) _).alloc (by simp; omega) _
 have CM := Lib.hid (may_any act 0 flo gen v0 l0 A0 n0 c0 v1 l1 A1 n1 c1 true s v l z p A n c B h0 h1 h _ (hl0.below (HB.out.mono hB)) (hl1.below (HB.out.mono hB)) (hl.below (HB.out.mono hB)) (Nat.le_trans hB HB.out.size))
 obtain ⟨x0, x1, x2⟩ := alloc3 w (.cells #[.int .i64 act, .int .i64 0, .int .u32 (flo : Int), .int .u32 (gen : Int), .int .u32 (v0 : Int), .int .i64 l0, .slice A0 n0 c0, .int .u32 (v1 : Int), .int .i64 l1, .slice A1 n1 c1, .bool true, .int .u32 (s : Int), .int .u32 (v : Int), .int .i64 l, .int .i64 z, .int .i64 p, .slice A n c] 39) (.cells #[.int .u32 (ms : Int), .int .u32 (mv : Int), .int .i64 ml, .int .i64 mz, .int .i64 mp, .slice MA mn mc] 37) (.cells zState 39)
 have X0 := Lib.hid x0
 have X1 := Lib.hid x1
 have X2 := Lib.hid x2
 have HL0 := Lib.hid hl0
 have HL1 := Lib.hid hl1
 have HL := Lib.hid hl
 have HLM := Lib.hid hlm
 have HBB := Lib.hid hB
 clear hl0 hl1 hl hlm hB x0 x1 x2 hmay
 go_enter Tryz.func41, Tryz.ntmps41
 go_wp2_with fail
 refine CM.out.mono ?_
 rintro e w1 ⟨rfl, hb1⟩
 rw [HMAY.out]
 have HB1 : Hid (Below w.heap.size w w1) := HB.out.trans (hb1.mono HB.out.size)
 have Y0 := Lib.hid ((hb1.block w.heap.size (by simp <;> omega)).trans X0.out)
 have Y1 := Lib.hid ((hb1.block (w.heap.size + 1) (by simp <;> omega)).trans X1.out)
 have Y2 := Lib.hid ((hb1.block (w.heap.size + 2) (by simp <;> omega)).trans X2.out)
 clear hb1 X0 X1 X2 CM HMAY HB
 obtain ⟨y0, y1, y2, y3, y4, y5⟩ := bx6 Y1.out
 go_wp2_with fail
 refine (manMay_any ms mv ml mz mp MA mn mc w1).mono ?_
 rintro e w2 ⟨rfl, hb2⟩
 rw [HMM.out]
 have HB2 : Hid (Below w.heap.size w w2) := HB1.out.trans (hb2.mono HB1.out.size)
 have L1 : Hid (w.heap.size + 2 < w1.heap.size) := (Array.getElem?_eq_some_iff.1 Y2.out).1
 have Z0 := Lib.hid ((hb2.block w.heap.size (by have := L1.out; omega)).trans Y0.out)
 have Z1 := Lib.hid ((hb2.block (w.heap.size + 1) (by have := L1.out; omega)).trans Y1.out)
 have Z2 := Lib.hid ((hb2.block (w.heap.size + 2) L1.out).trans Y2.out)
 clear y0 y1 y2 y3 y4 y5 hb2 Y0 Y1 Y2 HMM L1
 obtain ⟨-, c1x, -, -, -, -, -, -, c10x⟩ := bx17 Z0.out
 obtain ⟨d0, d1, d2, d3, d4, d5⟩ := bx6n Z0.out
 obtain ⟨y0, y1, y2, y3, y4, y5⟩ := bx6 Z1.out
 go_wp2_with fail
 refine (manSame_any s v ms mv l z p ml mz mp B n c mn mc A MA h mh w2 (HL.out.below (HB2.out.mono HBB.out)) (HLM.out.below (HB2.out.mono HBB.out)) (Nat.le_trans HBB.out HB2.out.size)).mono ?_
 rintro e w3 ⟨q, rfl, hq, hb3⟩
 have hq2 := hq.out
 rw [HS.out] at hq2
 subst hq2
 have HB3 : Hid (Below w.heap.size w w3) := HB2.out.trans (hb3.mono HB2.out.size)
 have L1 : Hid (w.heap.size + 2 < w2.heap.size) := (Array.getElem?_eq_some_iff.1 Z2.out).1
 have V0 := Lib.hid ((hb3.block w.heap.size (by have := L1.out; omega)).trans Z0.out)
 have V1 := Lib.hid ((hb3.block (w.heap.size + 1) (by have := L1.out; omega)).trans Z1.out)
 have V2 := Lib.hid ((hb3.block (w.heap.size + 2) L1.out).trans Z2.out)
 clear hb3 hq Z0 Z1 Z2 L1 c1x c10x d0 d1 d2 d3 d4 d5 y0 y1 y2 y3 y4 y5
 obtain ⟨-, k1x, -, -, -, -, -, -, k10x⟩ := bx17 V0.out
 obtain ⟨y0, y1, y2, y3, y4, y5⟩ := bx6 V1.out
 go_wp2_with ((with_reducible show wpList _ _ _ _ _ _); refine wpList_load_row (o := ⟨some 33, _, _, _, _, _⟩) rfl _ (.tmp 2) rfl w.heap.size rfl _ _ _ _ V0.out Tryz.underlying39 rfl (by kernel_rfl) ?_)
 refine (newer_any act 0 flo gen v0 l0 A0 n0 c0 v1 l1 A1 n1 c1 true s v l z p A n c B h0 h1 h mv w3 (HL0.out.below (HB3.out.mono HBB.out)) (HL1.out.below (HB3.out.mono HBB.out)) (HL.out.below (HB3.out.mono HBB.out)) (Nat.le_trans HBB.out HB3.out.size)).mono ?_
 rintro e w9 ⟨rfl, hb9⟩
 rw [HNW.out]
 have HB9 : Hid (Below w.heap.size w w9) := HB3.out.trans (hb9.mono HB3.out.size)
 have L9 : Hid (w.heap.size + 2 < w3.heap.size) := (Array.getElem?_eq_some_iff.1 V2.out).1
 have U0 := Lib.hid ((hb9.block w.heap.size (by have := L9.out; omega)).trans V0.out)
 have U2 := Lib.hid ((hb9.block (w.heap.size + 2) L9.out).trans V2.out)
 clear hb9 L9 k1x k10x y0 y1 y2 y3 y4 y5 HNW
 go_wp2_with ((with_reducible show wpList _ _ _ _ _ _); refine wpList_store_row rfl _ (.tmp 4) (.tmp 38) rfl (w.heap.size + 1 + 1) zState rfl rfl _ _ U2.out (by kernel_rfl) (by rfl) (by kernel_rfl) ?_)
 have hrow : (w9.setRow (w.heap.size + 1 + 1) zState).heap[w.heap.size + 1 + 1]? = some (.cells zState 39 (0, 0)) := setRow_heap _ _ _ _ _ _ U2.out
 refine bodyPost_ret (results_cell_tmp_row rfl _ _ (w.heap.size + 1 + 1) _ _ (0, 0) _ rfl hrow Tryz.underlying39 rfl (by kernel_rfl)) rfl ?_
 exact ⟨rfl, below_setRow2 HB9.out (by omega) _⟩
set_option maxHeartbeats 1600000 in
theorem admit_ef (act : Int) (flo gen v0 : Nat) (l0 : Int) (A0 : Option Addr) (n0 c0 : Nat) (v1 : Nat) (l1 : Int) (A1 : Option Addr) (n1 c1 : Nat) (s v : Nat) (l z p : Int) (A : Option Addr) (n c B : Nat) (h0 h1 h : List UInt8) (ms mv : Nat) (ml mz mp : Int) (MA : Option Addr) (mn mc : Nat) (mh : List UInt8) (w : World) (hmay : mayB2 act 0 v0 l0 h0 v1 l1 h1 false s v l z p h = true) (hmm : manB ml mz mp mn = true) (hnw : newB (mayB2 act 0 v0 l0 h0 v1 l1 h1 false s v l z p h) act flo v0 v1 false v mv = false) (hl0 : Row w B A0 n0 (bv h0)) (hl1 : Row w B A1 n1 (bv h1)) (hl : Row w B A n (bv h)) (hlm : Row w B MA mn (bv mh)) (hB : B ≤ w.heap.size) :
  Calls Tryz.prog 41 #[.agg #[.int .i64 act, .int .i64 0, .int .u32 (flo : Int), .int .u32 (gen : Int), .int .u32 (v0 : Int), .int .i64 l0, .slice A0 n0 c0, .int .u32 (v1 : Int), .int .i64 l1, .slice A1 n1 c1, .bool false, .int .u32 (s : Int), .int .u32 (v : Int), .int .i64 l, .int .i64 z, .int .i64 p, .slice A n c], .agg #[.int .u32 (ms : Int), .int .u32 (mv : Int), .int .i64 ml, .int .i64 mz, .int .i64 mp, .slice MA mn mc]] w (AdmitNo 6 w) := by
 have HMAY := Lib.hid hmay
 have HNW := Lib.hid hnw
 clear hnw
 have HMM := Lib.hid hmm
 clear hmm
 have HB : Hid (Below w.heap.size w (((w.alloc (.cells #[.int .i64 act, .int .i64 0, .int .u32 (flo : Int), .int .u32 (gen : Int), .int .u32 (v0 : Int), .int .i64 l0, .slice A0 n0 c0, .int .u32 (v1 : Int), .int .i64 l1, .slice A1 n1 c1, .bool false, .int .u32 (s : Int), .int .u32 (v : Int), .int .i64 l, .int .i64 z, .int .i64 p, .slice A n c] 39)).alloc (.cells #[.int .u32 (ms : Int), .int .u32 (mv : Int), .int .i64 ml, .int .i64 mz, .int .i64 mp, .slice MA mn mc] 37)).alloc (.cells zState 39))) := (((Below.refl _ _).alloc (Nat.le_refl _) _).alloc (by simp) _).alloc (by simp; omega) _
 have CM := Lib.hid (may_any act 0 flo gen v0 l0 A0 n0 c0 v1 l1 A1 n1 c1 false s v l z p A n c B h0 h1 h _ (hl0.below (HB.out.mono hB)) (hl1.below (HB.out.mono hB)) (hl.below (HB.out.mono hB)) (Nat.le_trans hB HB.out.size))
 obtain ⟨x0, x1, x2⟩ := alloc3 w (.cells #[.int .i64 act, .int .i64 0, .int .u32 (flo : Int), .int .u32 (gen : Int), .int .u32 (v0 : Int), .int .i64 l0, .slice A0 n0 c0, .int .u32 (v1 : Int), .int .i64 l1, .slice A1 n1 c1, .bool false, .int .u32 (s : Int), .int .u32 (v : Int), .int .i64 l, .int .i64 z, .int .i64 p, .slice A n c] 39) (.cells #[.int .u32 (ms : Int), .int .u32 (mv : Int), .int .i64 ml, .int .i64 mz, .int .i64 mp, .slice MA mn mc] 37) (.cells zState 39)
 have X0 := Lib.hid x0
 have X1 := Lib.hid x1
 have X2 := Lib.hid x2
 have HL0 := Lib.hid hl0
 have HL1 := Lib.hid hl1
 have HL := Lib.hid hl
 have HLM := Lib.hid hlm
 have HBB := Lib.hid hB
 clear hl0 hl1 hl hlm hB x0 x1 x2 hmay
 go_enter Tryz.func41, Tryz.ntmps41
 go_wp2_with fail
 refine CM.out.mono ?_
 rintro e w1 ⟨rfl, hb1⟩
 rw [HMAY.out]
 have HB1 : Hid (Below w.heap.size w w1) := HB.out.trans (hb1.mono HB.out.size)
 have Y0 := Lib.hid ((hb1.block w.heap.size (by simp <;> omega)).trans X0.out)
 have Y1 := Lib.hid ((hb1.block (w.heap.size + 1) (by simp <;> omega)).trans X1.out)
 have Y2 := Lib.hid ((hb1.block (w.heap.size + 2) (by simp <;> omega)).trans X2.out)
 clear hb1 X0 X1 X2 CM HMAY HB
 obtain ⟨y0, y1, y2, y3, y4, y5⟩ := bx6 Y1.out
 go_wp2_with fail
 refine (manMay_any ms mv ml mz mp MA mn mc w1).mono ?_
 rintro e w2 ⟨rfl, hb2⟩
 rw [HMM.out]
 have HB2 : Hid (Below w.heap.size w w2) := HB1.out.trans (hb2.mono HB1.out.size)
 have L1 : Hid (w.heap.size + 2 < w1.heap.size) := (Array.getElem?_eq_some_iff.1 Y2.out).1
 have Z0 := Lib.hid ((hb2.block w.heap.size (by have := L1.out; omega)).trans Y0.out)
 have Z1 := Lib.hid ((hb2.block (w.heap.size + 1) (by have := L1.out; omega)).trans Y1.out)
 have Z2 := Lib.hid ((hb2.block (w.heap.size + 2) L1.out).trans Y2.out)
 clear y0 y1 y2 y3 y4 y5 hb2 Y0 Y1 Y2 HMM L1
 obtain ⟨-, k1x, -, -, -, -, -, -, k10x⟩ := bx17 Z0.out
 obtain ⟨y0, y1, y2, y3, y4, y5⟩ := bx6 Z1.out
 go_wp2_with ((with_reducible show wpList _ _ _ _ _ _); refine wpList_load_row (o := ⟨some 33, _, _, _, _, _⟩) rfl _ (.tmp 2) rfl w.heap.size rfl _ _ _ _ Z0.out Tryz.underlying39 rfl (by kernel_rfl) ?_)
 refine (newer_any act 0 flo gen v0 l0 A0 n0 c0 v1 l1 A1 n1 c1 false s v l z p A n c B h0 h1 h mv w2 (HL0.out.below (HB2.out.mono HBB.out)) (HL1.out.below (HB2.out.mono HBB.out)) (HL.out.below (HB2.out.mono HBB.out)) (Nat.le_trans HBB.out HB2.out.size)).mono ?_
 rintro e w9 ⟨rfl, hb9⟩
 rw [HNW.out]
 have HB9 : Hid (Below w.heap.size w w9) := HB2.out.trans (hb9.mono HB2.out.size)
 have L9 : Hid (w.heap.size + 2 < w2.heap.size) := (Array.getElem?_eq_some_iff.1 Z2.out).1
 have U0 := Lib.hid ((hb9.block w.heap.size (by have := L9.out; omega)).trans Z0.out)
 have U2 := Lib.hid ((hb9.block (w.heap.size + 2) L9.out).trans Z2.out)
 clear hb9 L9 k1x k10x y0 y1 y2 y3 y4 y5 HNW
 go_wp2_with ((with_reducible show wpList _ _ _ _ _ _); refine wpList_store_row rfl _ (.tmp 4) (.tmp 38) rfl (w.heap.size + 1 + 1) zState rfl rfl _ _ U2.out (by kernel_rfl) (by rfl) (by kernel_rfl) ?_)
 have hrow : (w9.setRow (w.heap.size + 1 + 1) zState).heap[w.heap.size + 1 + 1]? = some (.cells zState 39 (0, 0)) := setRow_heap _ _ _ _ _ _ U2.out
 refine bodyPost_ret (results_cell_tmp_row rfl _ _ (w.heap.size + 1 + 1) _ _ (0, 0) _ rfl hrow Tryz.underlying39 rfl (by kernel_rfl)) rfl ?_
 exact ⟨rfl, below_setRow2 HB9.out (by omega) _⟩
end Go.Proofs.YtmncpgfdpcckpaaGreatDoor
namespace Go.Proofs.YtmncpgfdpcckpaaGreatDoor
open Go.RowKit
set_option maxHeartbeats 1600000 in
theorem admit_ft (act : Int) (flo gen v0 : Nat) (l0 : Int) (A0 : Option Addr) (n0 c0 : Nat) (v1 : Nat) (l1 : Int) (A1 : Option Addr) (n1 c1 : Nat) (s v : Nat) (l z p : Int) (A : Option Addr) (n c B : Nat) (h0 h1 h : List UInt8) (ms mv : Nat) (ml mz mp : Int) (MA : Option Addr) (mn mc : Nat) (mh : List UInt8) (w : World) (hmay : mayB2 act 0 v0 l0 h0 v1 l1 h1 true s v l z p h = true) (hmm : manB ml mz mp mn = true) (hs : decide (s = ms ∧ v = mv ∧ l = ml ∧ z = mz ∧ p = mp ∧ h = mh) = false) (hnw : newB (mayB2 act 0 v0 l0 h0 v1 l1 h1 true s v l z p h) act flo v0 v1 true v mv = true) (hge : 4294967294 ≤ gen) (hl0 : Row w B A0 n0 (bv h0)) (hl1 : Row w B A1 n1 (bv h1)) (hl : Row w B A n (bv h)) (hlm : Row w B MA mn (bv mh)) (hB : B ≤ w.heap.size) :
  Calls Tryz.prog 41 #[.agg #[.int .i64 act, .int .i64 0, .int .u32 (flo : Int), .int .u32 (gen : Int), .int .u32 (v0 : Int), .int .i64 l0, .slice A0 n0 c0, .int .u32 (v1 : Int), .int .i64 l1, .slice A1 n1 c1, .bool true, .int .u32 (s : Int), .int .u32 (v : Int), .int .i64 l, .int .i64 z, .int .i64 p, .slice A n c], .agg #[.int .u32 (ms : Int), .int .u32 (mv : Int), .int .i64 ml, .int .i64 mz, .int .i64 mp, .slice MA mn mc]] w (AdmitNo 9 w) := by
 have HMAY := Lib.hid hmay
 have HGE := Lib.hid hge
 clear hge
 have HNW := Lib.hid hnw
 clear hnw
 have HS := Lib.hid hs
 clear hs
 have HMM := Lib.hid hmm
 clear hmm
 have HB : Hid (Below w.heap.size w (((w.alloc (.cells #[.int .i64 act, .int .i64 0, .int .u32 (flo : Int), .int .u32 (gen : Int), .int .u32 (v0 : Int), .int .i64 l0, .slice A0 n0 c0, .int .u32 (v1 : Int), .int .i64 l1, .slice A1 n1 c1, .bool true, .int .u32 (s : Int), .int .u32 (v : Int), .int .i64 l, .int .i64 z, .int .i64 p, .slice A n c] 39)).alloc (.cells #[.int .u32 (ms : Int), .int .u32 (mv : Int), .int .i64 ml, .int .i64 mz, .int .i64 mp, .slice MA mn mc] 37)).alloc (.cells zState 39))) := (((Below.refl _ _).alloc (Nat.le_refl _) _).alloc (by simp) _).alloc (by simp; omega) _
 have CM := Lib.hid (may_any act 0 flo gen v0 l0 A0 n0 c0 v1 l1 A1 n1 c1 true s v l z p A n c B h0 h1 h _ (hl0.below (HB.out.mono hB)) (hl1.below (HB.out.mono hB)) (hl.below (HB.out.mono hB)) (Nat.le_trans hB HB.out.size))
 obtain ⟨x0, x1, x2⟩ := alloc3 w (.cells #[.int .i64 act, .int .i64 0, .int .u32 (flo : Int), .int .u32 (gen : Int), .int .u32 (v0 : Int), .int .i64 l0, .slice A0 n0 c0, .int .u32 (v1 : Int), .int .i64 l1, .slice A1 n1 c1, .bool true, .int .u32 (s : Int), .int .u32 (v : Int), .int .i64 l, .int .i64 z, .int .i64 p, .slice A n c] 39) (.cells #[.int .u32 (ms : Int), .int .u32 (mv : Int), .int .i64 ml, .int .i64 mz, .int .i64 mp, .slice MA mn mc] 37) (.cells zState 39)
 have X0 := Lib.hid x0
 have X1 := Lib.hid x1
 have X2 := Lib.hid x2
 have HL0 := Lib.hid hl0
 have HL1 := Lib.hid hl1
 have HL := Lib.hid hl
 have HLM := Lib.hid hlm
 have HBB := Lib.hid hB
 clear hl0 hl1 hl hlm hB x0 x1 x2 hmay
 go_enter Tryz.func41, Tryz.ntmps41
 go_wp2_with fail
 refine CM.out.mono ?_
 rintro e w1 ⟨rfl, hb1⟩
 rw [HMAY.out]
 have HB1 : Hid (Below w.heap.size w w1) := HB.out.trans (hb1.mono HB.out.size)
 have Y0 := Lib.hid ((hb1.block w.heap.size (by simp <;> omega)).trans X0.out)
 have Y1 := Lib.hid ((hb1.block (w.heap.size + 1) (by simp <;> omega)).trans X1.out)
 have Y2 := Lib.hid ((hb1.block (w.heap.size + 2) (by simp <;> omega)).trans X2.out)
 clear hb1 X0 X1 X2 CM HMAY HB
 obtain ⟨y0, y1, y2, y3, y4, y5⟩ := bx6 Y1.out
 go_wp2_with fail
 refine (manMay_any ms mv ml mz mp MA mn mc w1).mono ?_
 rintro e w2 ⟨rfl, hb2⟩
 rw [HMM.out]
 have HB2 : Hid (Below w.heap.size w w2) := HB1.out.trans (hb2.mono HB1.out.size)
 have L1 : Hid (w.heap.size + 2 < w1.heap.size) := (Array.getElem?_eq_some_iff.1 Y2.out).1
 have Z0 := Lib.hid ((hb2.block w.heap.size (by have := L1.out; omega)).trans Y0.out)
 have Z1 := Lib.hid ((hb2.block (w.heap.size + 1) (by have := L1.out; omega)).trans Y1.out)
 have Z2 := Lib.hid ((hb2.block (w.heap.size + 2) L1.out).trans Y2.out)
 clear y0 y1 y2 y3 y4 y5 hb2 Y0 Y1 Y2 HMM L1
 obtain ⟨-, c1x, -, -, -, -, -, -, c10x⟩ := bx17 Z0.out
 obtain ⟨d0, d1, d2, d3, d4, d5⟩ := bx6n Z0.out
 obtain ⟨y0, y1, y2, y3, y4, y5⟩ := bx6 Z1.out
 go_wp2_with fail
 refine (manSame_any s v ms mv l z p ml mz mp B n c mn mc A MA h mh w2 (HL.out.below (HB2.out.mono HBB.out)) (HLM.out.below (HB2.out.mono HBB.out)) (Nat.le_trans HBB.out HB2.out.size)).mono ?_
 rintro e w3 ⟨q, rfl, hq, hb3⟩
 have hq2 := hq.out
 rw [HS.out] at hq2
 subst hq2
 have HB3 : Hid (Below w.heap.size w w3) := HB2.out.trans (hb3.mono HB2.out.size)
 have L1 : Hid (w.heap.size + 2 < w2.heap.size) := (Array.getElem?_eq_some_iff.1 Z2.out).1
 have V0 := Lib.hid ((hb3.block w.heap.size (by have := L1.out; omega)).trans Z0.out)
 have V1 := Lib.hid ((hb3.block (w.heap.size + 1) (by have := L1.out; omega)).trans Z1.out)
 have V2 := Lib.hid ((hb3.block (w.heap.size + 2) L1.out).trans Z2.out)
 clear hb3 hq Z0 Z1 Z2 L1 c1x c10x d0 d1 d2 d3 d4 d5 y0 y1 y2 y3 y4 y5
 obtain ⟨-, k1x, -, -, -, -, -, -, k10x⟩ := bx17 V0.out
 obtain ⟨y0, y1, y2, y3, y4, y5⟩ := bx6 V1.out
 go_wp2_with ((with_reducible show wpList _ _ _ _ _ _); refine wpList_load_row (o := ⟨some 33, _, _, _, _, _⟩) rfl _ (.tmp 2) rfl w.heap.size rfl _ _ _ _ V0.out Tryz.underlying39 rfl (by kernel_rfl) ?_)
 refine (newer_any act 0 flo gen v0 l0 A0 n0 c0 v1 l1 A1 n1 c1 true s v l z p A n c B h0 h1 h mv w3 (HL0.out.below (HB3.out.mono HBB.out)) (HL1.out.below (HB3.out.mono HBB.out)) (HL.out.below (HB3.out.mono HBB.out)) (Nat.le_trans HBB.out HB3.out.size)).mono ?_
 rintro e w9 ⟨rfl, hb9⟩
 rw [HNW.out]
 have HB9 : Hid (Below w.heap.size w w9) := HB3.out.trans (hb9.mono HB3.out.size)
 have L9 : Hid (w.heap.size + 2 < w3.heap.size) := (Array.getElem?_eq_some_iff.1 V2.out).1
 have U0 := Lib.hid ((hb9.block w.heap.size (by have := L9.out; omega)).trans V0.out)
 have U2 := Lib.hid ((hb9.block (w.heap.size + 2) L9.out).trans V2.out)
 clear hb9 L9 k1x k10x y0 y1 y2 y3 y4 y5 HNW
 have gx := bxg U0.out
 have hge : (4294967294 : Int) ≤ (gen : Int) := by have := HGE.out; omega
 go_wp2_with ((with_reducible show wpList _ _ _ _ _ _); refine wpList_store_row rfl _ (.tmp 4) (.tmp 43) rfl (w.heap.size + 1 + 1) zState rfl rfl _ _ U2.out (by kernel_rfl) (by rfl) (by kernel_rfl) ?_)
 have hrow : (w9.setRow (w.heap.size + 1 + 1) zState).heap[w.heap.size + 1 + 1]? = some (.cells zState 39 (0, 0)) := setRow_heap _ _ _ _ _ _ U2.out
 refine bodyPost_ret (results_cell_tmp_row rfl _ _ (w.heap.size + 1 + 1) _ _ (0, 0) _ rfl hrow Tryz.underlying39 rfl (by kernel_rfl)) rfl ?_
 exact ⟨rfl, below_setRow2 HB9.out (by omega) _⟩
set_option maxHeartbeats 1600000 in
theorem admit_ff (act : Int) (flo gen v0 : Nat) (l0 : Int) (A0 : Option Addr) (n0 c0 : Nat) (v1 : Nat) (l1 : Int) (A1 : Option Addr) (n1 c1 : Nat) (s v : Nat) (l z p : Int) (A : Option Addr) (n c B : Nat) (h0 h1 h : List UInt8) (ms mv : Nat) (ml mz mp : Int) (MA : Option Addr) (mn mc : Nat) (mh : List UInt8) (w : World) (hmay : mayB2 act 0 v0 l0 h0 v1 l1 h1 false s v l z p h = true) (hmm : manB ml mz mp mn = true) (hnw : newB (mayB2 act 0 v0 l0 h0 v1 l1 h1 false s v l z p h) act flo v0 v1 false v mv = true) (hge : 4294967294 ≤ gen) (hl0 : Row w B A0 n0 (bv h0)) (hl1 : Row w B A1 n1 (bv h1)) (hl : Row w B A n (bv h)) (hlm : Row w B MA mn (bv mh)) (hB : B ≤ w.heap.size) :
  Calls Tryz.prog 41 #[.agg #[.int .i64 act, .int .i64 0, .int .u32 (flo : Int), .int .u32 (gen : Int), .int .u32 (v0 : Int), .int .i64 l0, .slice A0 n0 c0, .int .u32 (v1 : Int), .int .i64 l1, .slice A1 n1 c1, .bool false, .int .u32 (s : Int), .int .u32 (v : Int), .int .i64 l, .int .i64 z, .int .i64 p, .slice A n c], .agg #[.int .u32 (ms : Int), .int .u32 (mv : Int), .int .i64 ml, .int .i64 mz, .int .i64 mp, .slice MA mn mc]] w (AdmitNo 9 w) := by
 have HMAY := Lib.hid hmay
 have HGE := Lib.hid hge
 clear hge
 have HNW := Lib.hid hnw
 clear hnw
 have HMM := Lib.hid hmm
 clear hmm
 have HB : Hid (Below w.heap.size w (((w.alloc (.cells #[.int .i64 act, .int .i64 0, .int .u32 (flo : Int), .int .u32 (gen : Int), .int .u32 (v0 : Int), .int .i64 l0, .slice A0 n0 c0, .int .u32 (v1 : Int), .int .i64 l1, .slice A1 n1 c1, .bool false, .int .u32 (s : Int), .int .u32 (v : Int), .int .i64 l, .int .i64 z, .int .i64 p, .slice A n c] 39)).alloc (.cells #[.int .u32 (ms : Int), .int .u32 (mv : Int), .int .i64 ml, .int .i64 mz, .int .i64 mp, .slice MA mn mc] 37)).alloc (.cells zState 39))) := (((Below.refl _ _).alloc (Nat.le_refl _) _).alloc (by simp) _).alloc (by simp; omega) _
 have CM := Lib.hid (may_any act 0 flo gen v0 l0 A0 n0 c0 v1 l1 A1 n1 c1 false s v l z p A n c B h0 h1 h _ (hl0.below (HB.out.mono hB)) (hl1.below (HB.out.mono hB)) (hl.below (HB.out.mono hB)) (Nat.le_trans hB HB.out.size))
 obtain ⟨x0, x1, x2⟩ := alloc3 w (.cells #[.int .i64 act, .int .i64 0, .int .u32 (flo : Int), .int .u32 (gen : Int), .int .u32 (v0 : Int), .int .i64 l0, .slice A0 n0 c0, .int .u32 (v1 : Int), .int .i64 l1, .slice A1 n1 c1, .bool false, .int .u32 (s : Int), .int .u32 (v : Int), .int .i64 l, .int .i64 z, .int .i64 p, .slice A n c] 39) (.cells #[.int .u32 (ms : Int), .int .u32 (mv : Int), .int .i64 ml, .int .i64 mz, .int .i64 mp, .slice MA mn mc] 37) (.cells zState 39)
 have X0 := Lib.hid x0
 have X1 := Lib.hid x1
 have X2 := Lib.hid x2
 have HL0 := Lib.hid hl0
 have HL1 := Lib.hid hl1
 have HL := Lib.hid hl
 have HLM := Lib.hid hlm
 have HBB := Lib.hid hB
 clear hl0 hl1 hl hlm hB x0 x1 x2 hmay
 go_enter Tryz.func41, Tryz.ntmps41
 go_wp2_with fail
 refine CM.out.mono ?_
 rintro e w1 ⟨rfl, hb1⟩
 rw [HMAY.out]
 have HB1 : Hid (Below w.heap.size w w1) := HB.out.trans (hb1.mono HB.out.size)
 have Y0 := Lib.hid ((hb1.block w.heap.size (by simp <;> omega)).trans X0.out)
 have Y1 := Lib.hid ((hb1.block (w.heap.size + 1) (by simp <;> omega)).trans X1.out)
 have Y2 := Lib.hid ((hb1.block (w.heap.size + 2) (by simp <;> omega)).trans X2.out)
 clear hb1 X0 X1 X2 CM HMAY HB
 obtain ⟨y0, y1, y2, y3, y4, y5⟩ := bx6 Y1.out
 go_wp2_with fail
 refine (manMay_any ms mv ml mz mp MA mn mc w1).mono ?_
 rintro e w2 ⟨rfl, hb2⟩
 rw [HMM.out]
 have HB2 : Hid (Below w.heap.size w w2) := HB1.out.trans (hb2.mono HB1.out.size)
 have L1 : Hid (w.heap.size + 2 < w1.heap.size) := (Array.getElem?_eq_some_iff.1 Y2.out).1
 have Z0 := Lib.hid ((hb2.block w.heap.size (by have := L1.out; omega)).trans Y0.out)
 have Z1 := Lib.hid ((hb2.block (w.heap.size + 1) (by have := L1.out; omega)).trans Y1.out)
 have Z2 := Lib.hid ((hb2.block (w.heap.size + 2) L1.out).trans Y2.out)
 clear y0 y1 y2 y3 y4 y5 hb2 Y0 Y1 Y2 HMM L1
 obtain ⟨-, k1x, -, -, -, -, -, -, k10x⟩ := bx17 Z0.out
 obtain ⟨y0, y1, y2, y3, y4, y5⟩ := bx6 Z1.out
 go_wp2_with ((with_reducible show wpList _ _ _ _ _ _); refine wpList_load_row (o := ⟨some 33, _, _, _, _, _⟩) rfl _ (.tmp 2) rfl w.heap.size rfl _ _ _ _ Z0.out Tryz.underlying39 rfl (by kernel_rfl) ?_)
 refine (newer_any act 0 flo gen v0 l0 A0 n0 c0 v1 l1 A1 n1 c1 false s v l z p A n c B h0 h1 h mv w2 (HL0.out.below (HB2.out.mono HBB.out)) (HL1.out.below (HB2.out.mono HBB.out)) (HL.out.below (HB2.out.mono HBB.out)) (Nat.le_trans HBB.out HB2.out.size)).mono ?_
 rintro e w9 ⟨rfl, hb9⟩
 rw [HNW.out]
 have HB9 : Hid (Below w.heap.size w w9) := HB2.out.trans (hb9.mono HB2.out.size)
 have L9 : Hid (w.heap.size + 2 < w2.heap.size) := (Array.getElem?_eq_some_iff.1 Z2.out).1
 have U0 := Lib.hid ((hb9.block w.heap.size (by have := L9.out; omega)).trans Z0.out)
 have U2 := Lib.hid ((hb9.block (w.heap.size + 2) L9.out).trans Z2.out)
 clear hb9 L9 k1x k10x y0 y1 y2 y3 y4 y5 HNW
 have gx := bxg U0.out
 have hge : (4294967294 : Int) ≤ (gen : Int) := by have := HGE.out; omega
 go_wp2_with ((with_reducible show wpList _ _ _ _ _ _); refine wpList_store_row rfl _ (.tmp 4) (.tmp 43) rfl (w.heap.size + 1 + 1) zState rfl rfl _ _ U2.out (by kernel_rfl) (by rfl) (by kernel_rfl) ?_)
 have hrow : (w9.setRow (w.heap.size + 1 + 1) zState).heap[w.heap.size + 1 + 1]? = some (.cells zState 39 (0, 0)) := setRow_heap _ _ _ _ _ _ U2.out
 refine bodyPost_ret (results_cell_tmp_row rfl _ _ (w.heap.size + 1 + 1) _ _ (0, 0) _ rfl hrow Tryz.underlying39 rfl (by kernel_rfl)) rfl ?_
 exact ⟨rfl, below_setRow2 HB9.out (by omega) _⟩
end Go.Proofs.YtmncpgfdpcckpaaGreatDoor
