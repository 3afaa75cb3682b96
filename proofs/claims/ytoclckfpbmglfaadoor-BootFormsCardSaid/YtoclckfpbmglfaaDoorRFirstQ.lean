/- boot.First, the reference's First: by contracts, of whatever images. -/
import Derived.Test.YtoclckfpbmglfaaDoorBootWQ
import Derived.Test.YtoclckfpbmglfaaDoorRDigQ
namespace Go.Proofs.YtoclckfpbmglfaaDoor
open Go.RowKit Sh
theorem fits_no (n : Nat) (h : n < 1 ∨ 512 < n) (w : World) : Calls Tryd.prog 34 #[.int .i64 (n : Int)] w fun e w' => e = .returned (.bool false) ∧ w = w' := by
  by_cases h1 : n < 1
  · have q1 : decide (1 ≤ (n : Int)) = false := by rw [decide_eq_false_iff_not]; omega
    clear h
    go_enter Tryd.func34, Tryd.ntmps34
    go_wp2_with fail
    go_ret
    exact ⟨rfl, rfl⟩
  · have q1 : decide (1 ≤ (n : Int)) = true := by rw [decide_eq_true_eq]; omega
    have q2 : decide ((n : Int) ≤ 512) = false := by rw [decide_eq_false_iff_not]; omega
    clear h h1
    go_enter Tryd.func34, Tryd.ntmps34
    go_wp2_with fail
    go_ret
    exact ⟨rfl, rfl⟩
set_option maxRecDepth 100000 in
set_option maxHeartbeats 1600000 in
theorem slotOf_no (v n cap : Nat) (A : Option Addr) (w : World) (h : n < 1 ∨ 512 < n) :
    Calls Tryd.prog 27 #[.int .u32 (v : Int), .slice A n cap] w fun e w' => e = .returned (.tuple #[.agg #[.int .u32 0, .int .i64 0, .slice none 0 0], .bool false]) ∧ Below w.heap.size w w' := by
  have hb0 : Below w.heap.size w (w.alloc (.cells #[.int .u32 0, .int .i64 0, .slice none 0 0] 25)) := (Below.refl _ _).alloc (Nat.le_refl _) _
  have X0 := Lib.hid (heap_alloc_new w (.cells #[.int .u32 0, .int .i64 0, .slice none 0 0] 25))
  have B0 := Lib.hid hb0
  have HN := Lib.hid h
  clear hb0 h
  go_enter Tryd.func27, Tryd.ntmps27
  go_wp2_with fail
  generalize w.alloc (.cells #[.int .u32 0, .int .i64 0, .slice none 0 0] 25) = w0 at *
  refine (fits_no n HN.out _).mono ?_
  rintro e w' ⟨rfl, rfl⟩
  go_wp2_with ((with_reducible show wpList _ _ _ _ _ _); refine wpList_store_row rfl _ (.tmp 4) (.tmp 10) rfl w.heap.size #[.int .u32 0, .int .i64 0, .slice none 0 0] rfl rfl _ _ X0.out (by kernel_rfl) (by rfl) (by kernel_rfl) ?_)
  have hrow : (w0.setRow w.heap.size #[.int .u32 0, .int .i64 0, .slice none 0 0]).heap[w.heap.size]? = some (.cells #[.int .u32 0, .int .i64 0, .slice none 0 0] 25 (0, 0)) := setRow_heap _ _ _ _ _ _ X0.out
  refine bodyPost_ret (results_cell_tmp_row rfl _ _ (w.heap.size) _ _ (0, 0) _ rfl hrow Tryd.underlying25 rfl (by kernel_rfl)) rfl ?_
  exact ⟨rfl, below_setRow2 B0.out (Nat.le_refl _) _⟩
set_option maxRecDepth 100000 in
set_option maxHeartbeats 1600000 in
theorem rslotOf_no (v n cap : Nat) (A : Option Addr) (w : World) (h : n < 1 ∨ 512 < n) :
    Calls Tryd.prog 28 #[.int .u32 (v : Int), .slice A n cap] w fun e w' => e = .returned (.tuple #[.agg #[.int .u32 0, .int .i64 0, .slice none 0 0], .bool false]) ∧ Below w.heap.size w w' := by
  have hb0 : Below w.heap.size w (w.alloc (.cells #[.int .u32 0, .int .i64 0, .slice none 0 0] 25)) := (Below.refl _ _).alloc (Nat.le_refl _) _
  have X0 := Lib.hid (heap_alloc_new w (.cells #[.int .u32 0, .int .i64 0, .slice none 0 0] 25))
  have B0 := Lib.hid hb0
  have HN := Lib.hid h
  clear hb0 h
  by_cases h1 : n < 1
  · have q1 : decide ((n : Int) < 1) = true := by rw [decide_eq_true_eq]; omega
    clear h1 HN
    go_enter Tryd.func28, Tryd.ntmps28
    go_upto_region 2 with fail
    generalize w.alloc (.cells #[.int .u32 0, .int .i64 0, .slice none 0 0] 25) = w0 at *
    go_wp2_with ((with_reducible show wpList _ _ _ _ _ _); refine wpList_store_row rfl _ (.tmp 4) (.tmp 14) rfl w.heap.size #[.int .u32 0, .int .i64 0, .slice none 0 0] rfl rfl _ _ X0.out (by kernel_rfl) (by rfl) (by kernel_rfl) ?_)
    have hrow : (w0.setRow w.heap.size #[.int .u32 0, .int .i64 0, .slice none 0 0]).heap[w.heap.size]? = some (.cells #[.int .u32 0, .int .i64 0, .slice none 0 0] 25 (0, 0)) := setRow_heap _ _ _ _ _ _ X0.out
    refine bodyPost_ret (results_cell_tmp_row rfl _ _ (w.heap.size) _ _ (0, 0) _ rfl hrow Tryd.underlying25 rfl (by kernel_rfl)) rfl ?_
    exact ⟨rfl, below_setRow2 B0.out (Nat.le_refl _) _⟩
  · have q1 : decide ((n : Int) < 1) = false := by rw [decide_eq_false_iff_not]; omega
    have q2 : decide (512 < (n : Int)) = true := by have := HN.out; rw [decide_eq_true_eq]; omega
    clear h1 HN
    go_enter Tryd.func28, Tryd.ntmps28
    go_upto_region 2 with fail
    generalize w.alloc (.cells #[.int .u32 0, .int .i64 0, .slice none 0 0] 25) = w0 at *
    go_wp2_with ((with_reducible show wpList _ _ _ _ _ _); refine wpList_store_row rfl _ (.tmp 4) (.tmp 14) rfl w.heap.size #[.int .u32 0, .int .i64 0, .slice none 0 0] rfl rfl _ _ X0.out (by kernel_rfl) (by rfl) (by kernel_rfl) ?_)
    have hrow : (w0.setRow w.heap.size #[.int .u32 0, .int .i64 0, .slice none 0 0]).heap[w.heap.size]? = some (.cells #[.int .u32 0, .int .i64 0, .slice none 0 0] 25 (0, 0)) := setRow_heap _ _ _ _ _ _ X0.out
    refine bodyPost_ret (results_cell_tmp_row rfl _ _ (w.heap.size) _ _ (0, 0) _ rfl hrow Tryd.underlying25 rfl (by kernel_rfl)) rfl ?_
    exact ⟨rfl, below_setRow2 B0.out (Nat.le_refl _) _⟩
set_option maxRecDepth 100000 in
set_option maxHeartbeats 1600000 in
theorem first_no (v n cap : Nat) (A : Option Addr) (w : World) (h : n < 1 ∨ 512 < n) :
    Calls Tryd.prog 12 #[.int .u32 (v : Int), .slice A n cap] w fun e w' => e = .returned (.tuple #[.agg zState, .bool false]) ∧ Below w.heap.size w w' := by
  have hb0 : Below w.heap.size w (w.alloc (.cells #[.int .i64 0, .int .i64 0, .int .u32 0, .int .u32 0, .int .u32 0, .int .i64 0, .slice none 0 0, .int .u32 0, .int .i64 0, .slice none 0 0, .bool false, .int .u32 0, .int .u32 0, .int .i64 0, .int .i64 0, .int .i64 0, .slice none 0 0] 30)) := (Below.refl _ _).alloc (Nat.le_refl _) _
  have X0 := Lib.hid (heap_alloc_new w (.cells #[.int .i64 0, .int .i64 0, .int .u32 0, .int .u32 0, .int .u32 0, .int .i64 0, .slice none 0 0, .int .u32 0, .int .i64 0, .slice none 0 0, .bool false, .int .u32 0, .int .u32 0, .int .i64 0, .int .i64 0, .int .i64 0, .slice none 0 0] 30))
  have B0 := Lib.hid hb0
  have HN := Lib.hid h
  clear hb0 h
  go_enter Tryd.func12, Tryd.ntmps12
  go_wp2_with fail
  generalize w.alloc (.cells #[.int .i64 0, .int .i64 0, .int .u32 0, .int .u32 0, .int .u32 0, .int .i64 0, .slice none 0 0, .int .u32 0, .int .i64 0, .slice none 0 0, .bool false, .int .u32 0, .int .u32 0, .int .i64 0, .int .i64 0, .int .i64 0, .slice none 0 0] 30) = w0 at *
  refine (slotOf_no v n cap A w0 HN.out).mono ?_
  rintro e w1 ⟨rfl, hb⟩
  have X1 := Lib.hid ((hb.block w.heap.size (Array.getElem?_eq_some_iff.1 X0.out).1).trans X0.out)
  have B1 := Lib.hid (B0.out.trans (hb.mono B0.out.size))
  have bA : Below w1.heap.size w1 (w1.alloc (.cells #[.int .u32 0, .int .i64 0, .slice none 0 0] 25)) := (Below.refl _ _).alloc (Nat.le_refl _) _
  have X2 := Lib.hid ((bA.block w.heap.size (Array.getElem?_eq_some_iff.1 X1.out).1).trans X1.out)
  have B2 := Lib.hid (B1.out.trans (bA.mono B1.out.size))
  clear hb X0 B0 X1 B1 bA
  go_upto_region 3 with ((with_reducible show wpList _ _ _ _ _ _); refine wpList_store_new rfl rfl _ (.tmp 6) (.tmp 12) rfl _ _ #[.int .u32 0, .int .i64 0, .slice none 0 0] _ rfl rfl (by kernel_rfl) (by rfl) (by kernel_rfl) ?_)
  generalize w1.alloc (.cells #[.int .u32 0, .int .i64 0, .slice none 0 0] 25) = w2 at *
  go_wp2_with ((with_reducible show wpList _ _ _ _ _ _); refine wpList_store_row rfl _ (.tmp 4) (.tmp 16) rfl w.heap.size zState rfl rfl _ _ X2.out (by kernel_rfl) (by rfl) (by kernel_rfl) ?_)
  have hrow : (w2.setRow w.heap.size zState).heap[w.heap.size]? = some (.cells zState 30 (0, 0)) := setRow_heap _ _ _ _ _ _ X2.out
  refine bodyPost_ret (results_cell_tmp_row rfl _ _ (w.heap.size) _ _ (0, 0) _ rfl hrow Tryd.underlying30 rfl (by kernel_rfl)) rfl ?_
  exact ⟨rfl, below_setRow2 B2.out (Nat.le_refl _) _⟩
set_option maxRecDepth 100000 in
set_option maxHeartbeats 1600000 in
theorem rfirst_no (v n cap : Nat) (A : Option Addr) (w : World) (h : n < 1 ∨ 512 < n) :
    Calls Tryd.prog 13 #[.int .u32 (v : Int), .slice A n cap] w fun e w' => e = .returned (.tuple #[.agg zState, .bool false]) ∧ Below w.heap.size w w' := by
  have hb0 : Below w.heap.size w (w.alloc (.cells #[.int .i64 0, .int .i64 0, .int .u32 0, .int .u32 0, .int .u32 0, .int .i64 0, .slice none 0 0, .int .u32 0, .int .i64 0, .slice none 0 0, .bool false, .int .u32 0, .int .u32 0, .int .i64 0, .int .i64 0, .int .i64 0, .slice none 0 0] 30)) := (Below.refl _ _).alloc (Nat.le_refl _) _
  have X0 := Lib.hid (heap_alloc_new w (.cells #[.int .i64 0, .int .i64 0, .int .u32 0, .int .u32 0, .int .u32 0, .int .i64 0, .slice none 0 0, .int .u32 0, .int .i64 0, .slice none 0 0, .bool false, .int .u32 0, .int .u32 0, .int .i64 0, .int .i64 0, .int .i64 0, .slice none 0 0] 30))
  have B0 := Lib.hid hb0
  have HN := Lib.hid h
  clear hb0 h
  go_enter Tryd.func13, Tryd.ntmps13
  go_wp2_with fail
  generalize w.alloc (.cells #[.int .i64 0, .int .i64 0, .int .u32 0, .int .u32 0, .int .u32 0, .int .i64 0, .slice none 0 0, .int .u32 0, .int .i64 0, .slice none 0 0, .bool false, .int .u32 0, .int .u32 0, .int .i64 0, .int .i64 0, .int .i64 0, .slice none 0 0] 30) = w0 at *
  refine (rslotOf_no v n cap A w0 HN.out).mono ?_
  rintro e w1 ⟨rfl, hb⟩
  have X1 := Lib.hid ((hb.block w.heap.size (Array.getElem?_eq_some_iff.1 X0.out).1).trans X0.out)
  have B1 := Lib.hid (B0.out.trans (hb.mono B0.out.size))
  have bA : Below w1.heap.size w1 (w1.alloc (.cells #[.int .u32 0, .int .i64 0, .slice none 0 0] 25)) := (Below.refl _ _).alloc (Nat.le_refl _) _
  have X2 := Lib.hid ((bA.block w.heap.size (Array.getElem?_eq_some_iff.1 X1.out).1).trans X1.out)
  have B2 := Lib.hid (B1.out.trans (bA.mono B1.out.size))
  clear hb X0 B0 X1 B1 bA
  go_upto_region 3 with ((with_reducible show wpList _ _ _ _ _ _); refine wpList_store_new rfl rfl _ (.tmp 6) (.tmp 12) rfl _ _ #[.int .u32 0, .int .i64 0, .slice none 0 0] _ rfl rfl (by kernel_rfl) (by rfl) (by kernel_rfl) ?_)
  generalize w1.alloc (.cells #[.int .u32 0, .int .i64 0, .slice none 0 0] 25) = w2 at *
  go_wp2_with ((with_reducible show wpList _ _ _ _ _ _); refine wpList_store_row rfl _ (.tmp 4) (.tmp 16) rfl w.heap.size zState rfl rfl _ _ X2.out (by kernel_rfl) (by rfl) (by kernel_rfl) ?_)
  have hrow : (w2.setRow w.heap.size zState).heap[w.heap.size]? = some (.cells zState 30 (0, 0)) := setRow_heap _ _ _ _ _ _ X2.out
  refine bodyPost_ret (results_cell_tmp_row rfl _ _ (w.heap.size) _ _ (0, 0) _ rfl hrow Tryd.underlying30 rfl (by kernel_rfl)) rfl ?_
  exact ⟨rfl, below_setRow2 B2.out (Nat.le_refl _) _⟩
set_option maxRecDepth 100000 in
set_option maxHeartbeats 1600000 in
theorem rslotOf_yes (v n cap : Nat) (A : Option Addr) (l : List UInt8) (w : World) (hl : Row w w.heap.size A n (bv l)) (h1 : 1 ≤ n) (h2 : n ≤ 512) :
    Calls Tryd.prog 28 #[.int .u32 (v : Int), .slice A n cap] w (SlotOk v n l w) := by
  have hb0 : Below w.heap.size w (w.alloc (.cells #[.int .u32 0, .int .i64 0, .slice none 0 0] 25)) := (Below.refl _ _).alloc (Nat.le_refl _) _
  have HL := Lib.hid ((hl.below hb0).more hb0.size)
  have X0 := Lib.hid (heap_alloc_new w (.cells #[.int .u32 0, .int .i64 0, .slice none 0 0] 25))
  have B0 := Lib.hid hb0
  have H1 := Lib.hid h1
  have H2 := Lib.hid h2
  clear hb0 hl h1 h2
  go_enter Tryd.func28, Tryd.ntmps28
  have q1 : decide ((n : Int) < 1) = false := by have := H1.out; rw [decide_eq_false_iff_not]; omega
  have q2 : decide (512 < (n : Int)) = false := by have := H2.out; rw [decide_eq_false_iff_not]; omega
  go_wp2_with fail
  generalize w.alloc (.cells #[.int .u32 0, .int .i64 0, .slice none 0 0] 25) = w0 at *
  refine (rdig_any w0.heap.size n cap A l w0 HL.out (Nat.le_refl _) (by have := H2.out; omega)).mono ?_
  rintro e w1 ⟨A', c', rfl, hown, hb⟩
  have X1 := Lib.hid ((hb.out.block w.heap.size (Array.getElem?_eq_some_iff.1 X0.out).1).trans X0.out)
  have B1 := Lib.hid (B0.out.trans (hb.out.mono B0.out.size))
  have hx0 : w.heap.size < w0.heap.size := (Array.getElem?_eq_some_iff.1 X0.out).1
  have R1 : Hid (RowP w1 (fun b => w0.heap.size ≤ b) A' 32 (bv (Sha.D l))) := by
    refine ⟨(Row.of_own hown.out).1, fun hn => ?_⟩
    obtain ⟨b, o, e, hlt, hc⟩ := (Row.of_own hown.out).2 hn
    exact ⟨b, o, e, hlt, (hown.out.lt b (by rw [e]; rfl)).1, hc⟩
  have LX := Lib.hid hx0
  clear hown hb X0 B0 hx0
  go_wp2_with ((with_reducible show wpList _ _ _ _ _ _); refine wpList_store_row rfl _ (.tmp 4) (.tmp 20) rfl w.heap.size #[.int .u32 (v : Int), .int .i64 (n : Int), .slice A' 32 c'] rfl rfl _ _ X1.out (by kernel_rfl) (by rfl) (by simp [Value.oneCell']) ?_)
  have hrow : (w1.setRow w.heap.size #[.int .u32 (v : Int), .int .i64 (n : Int), .slice A' 32 c']).heap[w.heap.size]? = some (.cells #[.int .u32 (v : Int), .int .i64 (n : Int), .slice A' 32 c'] 25 (0, 0)) := setRow_heap _ _ _ _ _ _ X1.out
  refine bodyPost_ret (results_cell_tmp_row rfl _ _ (w.heap.size) _ _ (0, 0) _ rfl hrow Tryd.underlying25 rfl (by kernel_rfl)) rfl ?_
  exact ⟨A', c', rfl, Lib.hid ((R1.out.keep (by simp) fun b hb _ => setRow_other _ _ _ _ (by have := LX.out; omega)).imp fun b _ hb => by have := LX.out; omega), Lib.hid (below_setRow2 B1.out (Nat.le_refl _) _)⟩
set_option maxRecDepth 100000 in
set_option maxHeartbeats 1600000 in
theorem rfirst_yes (v n cap : Nat) (A : Option Addr) (l : List UInt8) (w : World) (hl : Row w w.heap.size A n (bv l)) (h1 : 1 ≤ n) (h2 : n ≤ 512) :
    Calls Tryd.prog 13 #[.int .u32 (v : Int), .slice A n cap] w (RetSV (firstL v n (Sha.D l)) (.bool true) w) := by
  have hb0 : Below w.heap.size w (w.alloc (.cells #[.int .i64 0, .int .i64 0, .int .u32 0, .int .u32 0, .int .u32 0, .int .i64 0, .slice none 0 0, .int .u32 0, .int .i64 0, .slice none 0 0, .bool false, .int .u32 0, .int .u32 0, .int .i64 0, .int .i64 0, .int .i64 0, .slice none 0 0] 30)) := (Below.refl _ _).alloc (Nat.le_refl _) _
  have HL := Lib.hid ((hl.below hb0).more hb0.size)
  have X0 := Lib.hid (heap_alloc_new w (.cells #[.int .i64 0, .int .i64 0, .int .u32 0, .int .u32 0, .int .u32 0, .int .i64 0, .slice none 0 0, .int .u32 0, .int .i64 0, .slice none 0 0, .bool false, .int .u32 0, .int .u32 0, .int .i64 0, .int .i64 0, .int .i64 0, .slice none 0 0] 30))
  have B0 := Lib.hid hb0
  have H1 := Lib.hid h1
  have H2 := Lib.hid h2
  clear hb0 hl h1 h2
  go_enter Tryd.func13, Tryd.ntmps13
  go_wp2_with fail
  generalize w.alloc (.cells #[.int .i64 0, .int .i64 0, .int .u32 0, .int .u32 0, .int .u32 0, .int .i64 0, .slice none 0 0, .int .u32 0, .int .i64 0, .slice none 0 0, .bool false, .int .u32 0, .int .u32 0, .int .i64 0, .int .i64 0, .int .i64 0, .slice none 0 0] 30) = w0 at *
  refine (rslotOf_yes v n cap A l w0 HL.out H1.out H2.out).mono ?_
  rintro e w1 ⟨A', c', rfl, r1, hb⟩
  have X1 := Lib.hid ((hb.out.block w.heap.size (Array.getElem?_eq_some_iff.1 X0.out).1).trans X0.out)
  have B1 := Lib.hid (B0.out.trans (hb.out.mono B0.out.size))
  have LX : Hid (w.heap.size < w0.heap.size) := Lib.hid (Array.getElem?_eq_some_iff.1 X0.out).1
  have bA : Below w1.heap.size w1 (w1.alloc (.cells #[.int .u32 (v : Int), .int .i64 (n : Int), .slice A' 32 c'] 25)) := (Below.refl _ _).alloc (Nat.le_refl _) _
  have X2 := Lib.hid ((bA.block w.heap.size (Array.getElem?_eq_some_iff.1 X1.out).1).trans X1.out)
  have B2 := Lib.hid (B1.out.trans (bA.mono B1.out.size))
  have R2 := Lib.hid (r1.out.below bA)
  have S2 := Lib.hid (heap_alloc_new w1 (.cells #[.int .u32 (v : Int), .int .i64 (n : Int), .slice A' 32 c'] 25))
  clear r1 hb X0 B0 X1 B1 bA
  go_wp2_with (first
    | ((with_reducible show wpList _ _ _ _ _ _); refine wpList_store_new rfl rfl _ (.tmp 6) (.tmp 12) rfl _ _ #[.int .u32 (v : Int), .int .i64 (n : Int), .slice A' 32 c'] _ rfl rfl (by kernel_rfl) (by rfl) (by simp [Value.oneCell']) ?_)
    | ((with_reducible show wpList _ _ _ _ _ _); refine wpList_load_row (o := ⟨some 17, _, _, _, _, _⟩) rfl _ (.tmp 6) rfl w1.heap.size rfl _ _ _ _ S2.out Tryd.underlying25 rfl (by kernel_rfl) ?_)
    | ((with_reducible show wpList _ _ _ _ _ _); refine wpList_store_row rfl _ (.tmp 4) (.tmp 20) rfl (w.heap.size) #[.int .i64 0, .int .i64 0, .int .u32 0, .int .u32 0, .int .u32 (v : Int), .int .i64 (n : Int), .slice A' 32 c', .int .u32 0, .int .i64 0, .slice none 0 0, .bool false, .int .u32 0, .int .u32 0, .int .i64 0, .int .i64 0, .int .i64 0, .slice none 0 0] rfl rfl _ _ X2.out (by kernel_rfl) (by rfl) (by simp [Value.oneCell']) ?_))
  generalize w1.alloc (.cells #[.int .u32 (v : Int), .int .i64 (n : Int), .slice A' 32 c'] 25) = w2 at *
  have hlen := R2.out.1
  rw [bv_length] at hlen
  have ec : #[.int .i64 0, .int .i64 0, .int .u32 0, .int .u32 0, .int .u32 (v : Int), .int .i64 (n : Int), .slice A' 32 c', .int .u32 0, .int .i64 0, .slice none 0 0, .bool false, .int .u32 0, .int .u32 0, .int .i64 0, .int .i64 0, .int .i64 0, .slice none 0 0] = LSt.cells (firstL v n (Sha.D l)) A' c' none 0 none 0 := by simp only [LSt.cells, firstL, LMan.zero, hlen, List.length_nil]; rfl
  rw [ec]
  have hrow : (w2.setRow w.heap.size (LSt.cells (firstL v n (Sha.D l)) A' c' none 0 none 0)).heap[w.heap.size]? = some (.cells (LSt.cells (firstL v n (Sha.D l)) A' c' none 0 none 0) 30 (0, 0)) := setRow_heap _ _ _ _ _ _ X2.out
  refine bodyPost_ret (results_cell_tmp_row rfl _ _ (w.heap.size) _ _ (0, 0) _ rfl hrow Tryd.underlying30 rfl (by kernel_rfl)) rfl ?_
  refine ⟨_, rfl, Lib.hid ⟨A', c', none, 0, none, 0, rfl, ?_, .nil _ _ _, .nil _ _ _⟩, Lib.hid (below_setRow2 B2.out (Nat.le_refl _) _)⟩
  show RowP _ _ A' (Sha.D l).length (bv (Sha.D l))
  rw [hlen]
  exact (R2.out.keep (by simp) fun b hb _ => setRow_other _ _ _ _ (by have := LX.out; omega)).imp fun b _ hb => by have := LX.out; omega
end Go.Proofs.YtoclckfpbmglfaaDoor
