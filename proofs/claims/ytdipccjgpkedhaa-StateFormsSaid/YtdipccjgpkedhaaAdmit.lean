/- session.Admit, what it refuses: by contract. -/
import Derived.Test.YtdipccjgpkedhaaAdmitB
namespace Go.Proofs.Ytdipccjgpkedhaa
open Go.RowKit
set_option maxRecDepth 100000 in
set_option maxHeartbeats 1600000 in
theorem admit_a (act trial : Int) (flo gen v0 : Nat) (l0 : Int) (A0 : Option Addr) (n0 c0 : Nat) (v1 : Nat) (l1 : Int) (A1 : Option Addr) (n1 c1 : Nat) (on : Bool) (s v : Nat) (l z p : Int) (A : Option Addr) (n c B : Nat) (h0 h1 h : List UInt8) (ms mv : Nat) (ml mz mp : Int) (MA : Option Addr) (mn mc : Nat) (mh : List UInt8) (w : World) (hmay : mayB2 act trial v0 l0 h0 v1 l1 h1 on s v l z p h = false) (hl0 : Row w B A0 n0 (bv h0)) (hl1 : Row w B A1 n1 (bv h1)) (hl : Row w B A n (bv h)) (hlm : Row w B MA mn (bv mh)) (hB : B ≤ w.heap.size) :
    Calls Try.prog 16 #[.agg #[.int .i64 act, .int .i64 trial, .int .u32 (flo : Int), .int .u32 (gen : Int), .int .u32 (v0 : Int), .int .i64 l0, .slice A0 n0 c0, .int .u32 (v1 : Int), .int .i64 l1, .slice A1 n1 c1, .bool on, .int .u32 (s : Int), .int .u32 (v : Int), .int .i64 l, .int .i64 z, .int .i64 p, .slice A n c], .agg #[.int .u32 (ms : Int), .int .u32 (mv : Int), .int .i64 ml, .int .i64 mz, .int .i64 mp, .slice MA mn mc]] w (AdmitNo 1 w) := by
  have HMAY := Lib.hid hmay
  have HB : Hid (Below w.heap.size w (((w.alloc (.cells #[.int .i64 act, .int .i64 trial, .int .u32 (flo : Int), .int .u32 (gen : Int), .int .u32 (v0 : Int), .int .i64 l0, .slice A0 n0 c0, .int .u32 (v1 : Int), .int .i64 l1, .slice A1 n1 c1, .bool on, .int .u32 (s : Int), .int .u32 (v : Int), .int .i64 l, .int .i64 z, .int .i64 p, .slice A n c] 30)).alloc (.cells #[.int .u32 (ms : Int), .int .u32 (mv : Int), .int .i64 ml, .int .i64 mz, .int .i64 mp, .slice MA mn mc] 28)).alloc (.cells zState 30))) := (((Below.refl _ _).alloc (Nat.le_refl _) _).alloc (by simp) _).alloc (by simp; omega) _
  have CM := Lib.hid (may_any act trial flo gen v0 l0 A0 n0 c0 v1 l1 A1 n1 c1 on s v l z p A n c B h0 h1 h _ (hl0.below (HB.out.mono hB)) (hl1.below (HB.out.mono hB)) (hl.below (HB.out.mono hB)) (Nat.le_trans hB HB.out.size))
  obtain ⟨x0, x1, x2⟩ := alloc3 w (.cells #[.int .i64 act, .int .i64 trial, .int .u32 (flo : Int), .int .u32 (gen : Int), .int .u32 (v0 : Int), .int .i64 l0, .slice A0 n0 c0, .int .u32 (v1 : Int), .int .i64 l1, .slice A1 n1 c1, .bool on, .int .u32 (s : Int), .int .u32 (v : Int), .int .i64 l, .int .i64 z, .int .i64 p, .slice A n c] 30) (.cells #[.int .u32 (ms : Int), .int .u32 (mv : Int), .int .i64 ml, .int .i64 mz, .int .i64 mp, .slice MA mn mc] 28) (.cells zState 30)
  have X0 := Lib.hid x0
  have X1 := Lib.hid x1
  have X2 := Lib.hid x2
  have HL0 := Lib.hid hl0
  have HL1 := Lib.hid hl1
  have HL := Lib.hid hl
  have HLM := Lib.hid hlm
  have HBB := Lib.hid hB
  clear hl0 hl1 hl hlm hB x0 x1 x2 hmay
  go_enter Try.func16, Try.ntmps16
  go_wp2_with fail
  refine CM.out.mono ?_
  rintro e w1 ⟨rfl, hb1⟩
  rw [HMAY.out]
  have HB1 : Hid (Below w.heap.size w w1) := HB.out.trans (hb1.mono HB.out.size)
  have Y0 := Lib.hid ((hb1.block w.heap.size (by simp <;> omega)).trans X0.out)
  have Y1 := Lib.hid ((hb1.block (w.heap.size + 1) (by simp <;> omega)).trans X1.out)
  have Y2 := Lib.hid ((hb1.block (w.heap.size + 2) (by simp <;> omega)).trans X2.out)
  clear hb1 X0 X1 X2 CM HMAY HB
  go_wp2_with ((with_reducible show wpList _ _ _ _ _ _); refine wpList_store_row rfl _ (.tmp 4) (.tmp 16) rfl (w.heap.size + 1 + 1) zState rfl rfl _ _ Y2.out (by kernel_rfl) (by rfl) (by kernel_rfl) ?_)
  have hrow : (w1.setRow (w.heap.size + 1 + 1) zState).heap[w.heap.size + 1 + 1]? = some (.cells zState 30 (0, 0)) := setRow_heap _ _ _ _ _ _ Y2.out
  refine bodyPost_ret (results_cell_tmp_row rfl _ _ (w.heap.size + 1 + 1) _ _ (0, 0) _ rfl hrow Try.underlying30 rfl (by kernel_rfl)) rfl ?_
  exact ⟨rfl, below_setRow2 HB1.out (by omega) _⟩
set_option maxRecDepth 100000 in
set_option maxHeartbeats 1600000 in
theorem admit_b (act trial : Int) (flo gen v0 : Nat) (l0 : Int) (A0 : Option Addr) (n0 c0 : Nat) (v1 : Nat) (l1 : Int) (A1 : Option Addr) (n1 c1 : Nat) (on : Bool) (s v : Nat) (l z p : Int) (A : Option Addr) (n c B : Nat) (h0 h1 h : List UInt8) (ms mv : Nat) (ml mz mp : Int) (MA : Option Addr) (mn mc : Nat) (mh : List UInt8) (w : World) (hmay : mayB2 act trial v0 l0 h0 v1 l1 h1 on s v l z p h = true) (hmm : manB ml mz mp mn = false) (hl0 : Row w B A0 n0 (bv h0)) (hl1 : Row w B A1 n1 (bv h1)) (hl : Row w B A n (bv h)) (hlm : Row w B MA mn (bv mh)) (hB : B ≤ w.heap.size) :
    Calls Try.prog 16 #[.agg #[.int .i64 act, .int .i64 trial, .int .u32 (flo : Int), .int .u32 (gen : Int), .int .u32 (v0 : Int), .int .i64 l0, .slice A0 n0 c0, .int .u32 (v1 : Int), .int .i64 l1, .slice A1 n1 c1, .bool on, .int .u32 (s : Int), .int .u32 (v : Int), .int .i64 l, .int .i64 z, .int .i64 p, .slice A n c], .agg #[.int .u32 (ms : Int), .int .u32 (mv : Int), .int .i64 ml, .int .i64 mz, .int .i64 mp, .slice MA mn mc]] w (AdmitNo 1 w) := by
  have HMAY := Lib.hid hmay
  have HMM := Lib.hid hmm
  clear hmm
  have HB : Hid (Below w.heap.size w (((w.alloc (.cells #[.int .i64 act, .int .i64 trial, .int .u32 (flo : Int), .int .u32 (gen : Int), .int .u32 (v0 : Int), .int .i64 l0, .slice A0 n0 c0, .int .u32 (v1 : Int), .int .i64 l1, .slice A1 n1 c1, .bool on, .int .u32 (s : Int), .int .u32 (v : Int), .int .i64 l, .int .i64 z, .int .i64 p, .slice A n c] 30)).alloc (.cells #[.int .u32 (ms : Int), .int .u32 (mv : Int), .int .i64 ml, .int .i64 mz, .int .i64 mp, .slice MA mn mc] 28)).alloc (.cells zState 30))) := (((Below.refl _ _).alloc (Nat.le_refl _) _).alloc (by simp) _).alloc (by simp; omega) _
  have CM := Lib.hid (may_any act trial flo gen v0 l0 A0 n0 c0 v1 l1 A1 n1 c1 on s v l z p A n c B h0 h1 h _ (hl0.below (HB.out.mono hB)) (hl1.below (HB.out.mono hB)) (hl.below (HB.out.mono hB)) (Nat.le_trans hB HB.out.size))
  obtain ⟨x0, x1, x2⟩ := alloc3 w (.cells #[.int .i64 act, .int .i64 trial, .int .u32 (flo : Int), .int .u32 (gen : Int), .int .u32 (v0 : Int), .int .i64 l0, .slice A0 n0 c0, .int .u32 (v1 : Int), .int .i64 l1, .slice A1 n1 c1, .bool on, .int .u32 (s : Int), .int .u32 (v : Int), .int .i64 l, .int .i64 z, .int .i64 p, .slice A n c] 30) (.cells #[.int .u32 (ms : Int), .int .u32 (mv : Int), .int .i64 ml, .int .i64 mz, .int .i64 mp, .slice MA mn mc] 28) (.cells zState 30)
  have X0 := Lib.hid x0
  have X1 := Lib.hid x1
  have X2 := Lib.hid x2
  have HL0 := Lib.hid hl0
  have HL1 := Lib.hid hl1
  have HL := Lib.hid hl
  have HLM := Lib.hid hlm
  have HBB := Lib.hid hB
  clear hl0 hl1 hl hlm hB x0 x1 x2 hmay
  go_enter Try.func16, Try.ntmps16
  go_wp2_with fail
  refine CM.out.mono ?_
  rintro e w1 ⟨rfl, hb1⟩
  rw [HMAY.out]
  have HB1 : Hid (Below w.heap.size w w1) := HB.out.trans (hb1.mono HB.out.size)
  have Y0 := Lib.hid ((hb1.block w.heap.size (by simp <;> omega)).trans X0.out)
  have Y1 := Lib.hid ((hb1.block (w.heap.size + 1) (by simp <;> omega)).trans X1.out)
  have Y2 := Lib.hid ((hb1.block (w.heap.size + 2) (by simp <;> omega)).trans X2.out)
  clear hb1 X0 X1 X2 CM HMAY HB
  obtain ⟨y0, y1, y2, y3, y4, y5⟩ := bx6 Y1.out
  go_wp2_with fail
  refine (manMay_any ms mv ml mz mp MA mn mc w1).mono ?_
  rintro e w2 ⟨rfl, hb2⟩
  rw [HMM.out]
  have HB2 : Hid (Below w.heap.size w w2) := HB1.out.trans (hb2.mono HB1.out.size)
  have L1 : Hid (w.heap.size + 2 < w1.heap.size) := (Array.getElem?_eq_some_iff.1 Y2.out).1
  have Z0 := Lib.hid ((hb2.block w.heap.size (by have := L1.out; omega)).trans Y0.out)
  have Z1 := Lib.hid ((hb2.block (w.heap.size + 1) (by have := L1.out; omega)).trans Y1.out)
  have Z2 := Lib.hid ((hb2.block (w.heap.size + 2) L1.out).trans Y2.out)
  clear y0 y1 y2 y3 y4 y5 hb2 Y0 Y1 Y2 HMM L1
  go_wp2_with ((with_reducible show wpList _ _ _ _ _ _); refine wpList_store_row rfl _ (.tmp 4) (.tmp 16) rfl (w.heap.size + 1 + 1) zState rfl rfl _ _ Z2.out (by kernel_rfl) (by rfl) (by kernel_rfl) ?_)
  have hrow : (w2.setRow (w.heap.size + 1 + 1) zState).heap[w.heap.size + 1 + 1]? = some (.cells zState 30 (0, 0)) := setRow_heap _ _ _ _ _ _ Z2.out
  refine bodyPost_ret (results_cell_tmp_row rfl _ _ (w.heap.size + 1 + 1) _ _ (0, 0) _ rfl hrow Try.underlying30 rfl (by kernel_rfl)) rfl ?_
  exact ⟨rfl, below_setRow2 HB2.out (by omega) _⟩
set_option maxRecDepth 100000 in
set_option maxHeartbeats 1600000 in
theorem admit_c (act trial : Int) (flo gen v0 : Nat) (l0 : Int) (A0 : Option Addr) (n0 c0 : Nat) (v1 : Nat) (l1 : Int) (A1 : Option Addr) (n1 c1 : Nat) (on : Bool) (s v : Nat) (l z p : Int) (A : Option Addr) (n c B : Nat) (h0 h1 h : List UInt8) (ms mv : Nat) (ml mz mp : Int) (MA : Option Addr) (mn mc : Nat) (mh : List UInt8) (w : World) (hmay : mayB2 act trial v0 l0 h0 v1 l1 h1 on s v l z p h = true) (hmm : manB ml mz mp mn = true) (htr : trial ≠ 0) (hl0 : Row w B A0 n0 (bv h0)) (hl1 : Row w B A1 n1 (bv h1)) (hl : Row w B A n (bv h)) (hlm : Row w B MA mn (bv mh)) (hB : B ≤ w.heap.size) :
    Calls Try.prog 16 #[.agg #[.int .i64 act, .int .i64 trial, .int .u32 (flo : Int), .int .u32 (gen : Int), .int .u32 (v0 : Int), .int .i64 l0, .slice A0 n0 c0, .int .u32 (v1 : Int), .int .i64 l1, .slice A1 n1 c1, .bool on, .int .u32 (s : Int), .int .u32 (v : Int), .int .i64 l, .int .i64 z, .int .i64 p, .slice A n c], .agg #[.int .u32 (ms : Int), .int .u32 (mv : Int), .int .i64 ml, .int .i64 mz, .int .i64 mp, .slice MA mn mc]] w (AdmitNo 12 w) := by
  have HMAY := Lib.hid hmay
  have HMM := Lib.hid hmm
  clear hmm
  have HB : Hid (Below w.heap.size w (((w.alloc (.cells #[.int .i64 act, .int .i64 trial, .int .u32 (flo : Int), .int .u32 (gen : Int), .int .u32 (v0 : Int), .int .i64 l0, .slice A0 n0 c0, .int .u32 (v1 : Int), .int .i64 l1, .slice A1 n1 c1, .bool on, .int .u32 (s : Int), .int .u32 (v : Int), .int .i64 l, .int .i64 z, .int .i64 p, .slice A n c] 30)).alloc (.cells #[.int .u32 (ms : Int), .int .u32 (mv : Int), .int .i64 ml, .int .i64 mz, .int .i64 mp, .slice MA mn mc] 28)).alloc (.cells zState 30))) := (((Below.refl _ _).alloc (Nat.le_refl _) _).alloc (by simp) _).alloc (by simp; omega) _
  have CM := Lib.hid (may_any act trial flo gen v0 l0 A0 n0 c0 v1 l1 A1 n1 c1 on s v l z p A n c B h0 h1 h _ (hl0.below (HB.out.mono hB)) (hl1.below (HB.out.mono hB)) (hl.below (HB.out.mono hB)) (Nat.le_trans hB HB.out.size))
  obtain ⟨x0, x1, x2⟩ := alloc3 w (.cells #[.int .i64 act, .int .i64 trial, .int .u32 (flo : Int), .int .u32 (gen : Int), .int .u32 (v0 : Int), .int .i64 l0, .slice A0 n0 c0, .int .u32 (v1 : Int), .int .i64 l1, .slice A1 n1 c1, .bool on, .int .u32 (s : Int), .int .u32 (v : Int), .int .i64 l, .int .i64 z, .int .i64 p, .slice A n c] 30) (.cells #[.int .u32 (ms : Int), .int .u32 (mv : Int), .int .i64 ml, .int .i64 mz, .int .i64 mp, .slice MA mn mc] 28) (.cells zState 30)
  have X0 := Lib.hid x0
  have X1 := Lib.hid x1
  have X2 := Lib.hid x2
  have HL0 := Lib.hid hl0
  have HL1 := Lib.hid hl1
  have HL := Lib.hid hl
  have HLM := Lib.hid hlm
  have HBB := Lib.hid hB
  clear hl0 hl1 hl hlm hB x0 x1 x2 hmay
  go_enter Try.func16, Try.ntmps16
  go_wp2_with fail
  refine CM.out.mono ?_
  rintro e w1 ⟨rfl, hb1⟩
  rw [HMAY.out]
  have HB1 : Hid (Below w.heap.size w w1) := HB.out.trans (hb1.mono HB.out.size)
  have Y0 := Lib.hid ((hb1.block w.heap.size (by simp <;> omega)).trans X0.out)
  have Y1 := Lib.hid ((hb1.block (w.heap.size + 1) (by simp <;> omega)).trans X1.out)
  have Y2 := Lib.hid ((hb1.block (w.heap.size + 2) (by simp <;> omega)).trans X2.out)
  clear hb1 X0 X1 X2 CM HMAY HB
  obtain ⟨y0, y1, y2, y3, y4, y5⟩ := bx6 Y1.out
  go_wp2_with fail
  refine (manMay_any ms mv ml mz mp MA mn mc w1).mono ?_
  rintro e w2 ⟨rfl, hb2⟩
  rw [HMM.out]
  have HB2 : Hid (Below w.heap.size w w2) := HB1.out.trans (hb2.mono HB1.out.size)
  have L1 : Hid (w.heap.size + 2 < w1.heap.size) := (Array.getElem?_eq_some_iff.1 Y2.out).1
  have Z0 := Lib.hid ((hb2.block w.heap.size (by have := L1.out; omega)).trans Y0.out)
  have Z1 := Lib.hid ((hb2.block (w.heap.size + 1) (by have := L1.out; omega)).trans Y1.out)
  have Z2 := Lib.hid ((hb2.block (w.heap.size + 2) L1.out).trans Y2.out)
  clear y0 y1 y2 y3 y4 y5 hb2 Y0 Y1 Y2 HMM L1
  obtain ⟨c0x, c1x, -, -, -, -, -, -, c10x⟩ := bx17 Z0.out
  have hne : (trial != 0) = true := by simpa using htr
  have hne2 : (trial == 0) = false := by simpa using htr
  clear htr
  go_wp2_with ((with_reducible show wpList _ _ _ _ _ _); refine wpList_store_row rfl _ (.tmp 4) (.tmp 21) rfl (w.heap.size + 1 + 1) zState rfl rfl _ _ Z2.out (by kernel_rfl) (by rfl) (by kernel_rfl) ?_)
  have hrow : (w2.setRow (w.heap.size + 1 + 1) zState).heap[w.heap.size + 1 + 1]? = some (.cells zState 30 (0, 0)) := setRow_heap _ _ _ _ _ _ Z2.out
  refine bodyPost_ret (results_cell_tmp_row rfl _ _ (w.heap.size + 1 + 1) _ _ (0, 0) _ rfl hrow Try.underlying30 rfl (by kernel_rfl)) rfl ?_
  exact ⟨rfl, below_setRow2 HB2.out (by omega) _⟩
end Go.Proofs.Ytdipccjgpkedhaa
