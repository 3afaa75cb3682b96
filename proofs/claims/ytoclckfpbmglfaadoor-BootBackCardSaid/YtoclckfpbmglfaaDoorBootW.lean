/- slot.Of, boot.First, law 21's awake: by contract. -/
import Derived.Test.YtoclckfpbmglfaaDoorBootC
import Derived.Test.YtoclckfpbmglfaaDoorShaSum
namespace Go.Proofs.YtoclckfpbmglfaaDoor
open Go.RowKit Sh
def firstL (v n : Nat) (h : List UInt8) : LSt := ⟨0, 0, 0, 0, v, (n : Int), h, 0, 0, [], false, LMan.zero⟩
set_option maxHeartbeats 400000 in
theorem fits_yes (n : Nat) (h1 : 1 ≤ n) (h2 : n ≤ 512) (w : World) : Calls Tryd.prog 34 #[.int .i64 (n : Int)] w fun e w' => e = .returned (.bool true) ∧ w = w' := by
  go_enter Tryd.func34, Tryd.ntmps34
  have q1 : decide (1 ≤ (n : Int)) = true := by simp; omega
  have q2 : decide ((n : Int) ≤ 512) = true := by simp; omega
  go_wp2_with fail
  go_ret
  exact ⟨rfl, rfl⟩
def SlotOk (v n : Nat) (l : List UInt8) (w : World) (e : Ending) (w' : World) : Prop :=
  ∃ A' c', e = .returned (.tuple #[.agg #[.int .u32 (v : Int), .int .i64 (n : Int), .slice A' 32 c'], .bool true]) ∧ Hid (RowP w' (fun b => w.heap.size ≤ b) A' 32 (bv (Sha.D l))) ∧ Hid (Below w.heap.size w w')
set_option maxRecDepth 100000 in
set_option maxHeartbeats 1600000 in
theorem slotOf_yes (v n cap : Nat) (A : Option Addr) (l : List UInt8) (w : World) (ht : Tab w) (hl : Row w w.heap.size A n (bv l)) (h1 : 1 ≤ n) (h2 : n ≤ 512) :
    Calls Tryd.prog 27 #[.int .u32 (v : Int), .slice A n cap] w (SlotOk v n l w) := by
  have hb0 : Below w.heap.size w (w.alloc (.cells #[.int .u32 0, .int .i64 0, .slice none 0 0] 25)) := (Below.refl _ _).alloc (Nat.le_refl _) _
  have HT := Lib.hid (ht.below hb0 ht.1)
  have HL := Lib.hid ((hl.below hb0).more hb0.size)
  have X0 := Lib.hid (heap_alloc_new w (.cells #[.int .u32 0, .int .i64 0, .slice none 0 0] 25))
  have B0 := Lib.hid hb0
  have H1 := Lib.hid h1
  have H2 := Lib.hid h2
  clear hb0 ht hl h1 h2
  go_enter Tryd.func27, Tryd.ntmps27
  go_wp2_with (go_at_call 34; refine (fits_yes n H1.out H2.out _).mono ?_; rintro e w' ⟨rfl, rfl⟩)
  generalize w.alloc (.cells #[.int .u32 0, .int .i64 0, .slice none 0 0] 25) = w0 at *
  refine (sum_any w0.heap.size n cap A l w0 HT.out HL.out (Nat.le_refl _) (by have := H2.out; omega)).mono ?_
  rintro e w1 ⟨A', c', rfl, hown, hb⟩
  have X1 := Lib.hid ((hb.out.block w.heap.size (Array.getElem?_eq_some_iff.1 X0.out).1).trans X0.out)
  have B1 := Lib.hid (B0.out.trans (hb.out.mono B0.out.size))
  have hx0 : w.heap.size < w0.heap.size := (Array.getElem?_eq_some_iff.1 X0.out).1
  have R1 : Hid (RowP w1 (fun b => w0.heap.size ≤ b) A' 32 (bv (Sha.D l))) := by
    refine ⟨(Row.of_own hown.out).1, fun hn => ?_⟩
    obtain ⟨b, o, e, hlt, hc⟩ := (Row.of_own hown.out).2 hn
    exact ⟨b, o, e, hlt, (hown.out.lt b (by rw [e]; rfl)).1, hc⟩
  have LX := Lib.hid hx0
  clear hown hb X0 B0 hx0
  go_wp2_with ((with_reducible show wpList _ _ _ _ _ _); refine wpList_store_row rfl _ (.tmp 4) (.tmp 16) rfl w.heap.size #[.int .u32 (v : Int), .int .i64 (n : Int), .slice A' 32 c'] rfl rfl _ _ X1.out (by kernel_rfl) (by rfl) (by simp [Value.oneCell']) ?_)
  have hrow : (w1.setRow w.heap.size #[.int .u32 (v : Int), .int .i64 (n : Int), .slice A' 32 c']).heap[w.heap.size]? = some (.cells #[.int .u32 (v : Int), .int .i64 (n : Int), .slice A' 32 c'] 25 (0, 0)) := setRow_heap _ _ _ _ _ _ X1.out
  refine bodyPost_ret (results_cell_tmp_row rfl _ _ (w.heap.size) _ _ (0, 0) _ rfl hrow Tryd.underlying25 rfl (by kernel_rfl)) rfl ?_
  exact ⟨A', c', rfl, Lib.hid ((R1.out.keep (by simp) fun b hb _ => setRow_other _ _ _ _ (by have := LX.out; omega)).imp fun b _ hb => by have := LX.out; omega), Lib.hid (below_setRow2 B1.out (Nat.le_refl _) _)⟩
set_option maxRecDepth 100000 in
set_option maxHeartbeats 1600000 in
theorem first_yes (v n cap : Nat) (A : Option Addr) (l : List UInt8) (w : World) (ht : Tab w) (hl : Row w w.heap.size A n (bv l)) (h1 : 1 ≤ n) (h2 : n ≤ 512) :
    Calls Tryd.prog 12 #[.int .u32 (v : Int), .slice A n cap] w (RetSV (firstL v n (Sha.D l)) (.bool true) w) := by
  have hb0 : Below w.heap.size w (w.alloc (.cells #[.int .i64 0, .int .i64 0, .int .u32 0, .int .u32 0, .int .u32 0, .int .i64 0, .slice none 0 0, .int .u32 0, .int .i64 0, .slice none 0 0, .bool false, .int .u32 0, .int .u32 0, .int .i64 0, .int .i64 0, .int .i64 0, .slice none 0 0] 30)) := (Below.refl _ _).alloc (Nat.le_refl _) _
  have HT := Lib.hid (ht.below hb0 ht.1)
  have HL := Lib.hid ((hl.below hb0).more hb0.size)
  have X0 := Lib.hid (heap_alloc_new w (.cells #[.int .i64 0, .int .i64 0, .int .u32 0, .int .u32 0, .int .u32 0, .int .i64 0, .slice none 0 0, .int .u32 0, .int .i64 0, .slice none 0 0, .bool false, .int .u32 0, .int .u32 0, .int .i64 0, .int .i64 0, .int .i64 0, .slice none 0 0] 30))
  have B0 := Lib.hid hb0
  have H1 := Lib.hid h1
  have H2 := Lib.hid h2
  clear hb0 ht hl h1 h2
  go_enter Tryd.func12, Tryd.ntmps12
  go_wp2_with fail
  generalize w.alloc (.cells #[.int .i64 0, .int .i64 0, .int .u32 0, .int .u32 0, .int .u32 0, .int .i64 0, .slice none 0 0, .int .u32 0, .int .i64 0, .slice none 0 0, .bool false, .int .u32 0, .int .u32 0, .int .i64 0, .int .i64 0, .int .i64 0, .slice none 0 0] 30) = w0 at *
  refine (slotOf_yes v n cap A l w0 HT.out HL.out H1.out H2.out).mono ?_
  rintro e w1 ⟨A', c', rfl, r1, hb⟩
  have X1 := Lib.hid ((hb.out.block w.heap.size (Array.getElem?_eq_some_iff.1 X0.out).1).trans X0.out)
  have B1 := Lib.hid (B0.out.trans (hb.out.mono B0.out.size))
  have LX : Hid (w.heap.size < w0.heap.size) := Lib.hid (Array.getElem?_eq_some_iff.1 X0.out).1
  have bA : Below w1.heap.size w1 (w1.alloc (.cells #[.int .u32 (v : Int), .int .i64 (n : Int), .slice A' 32 c'] 25)) := (Below.refl _ _).alloc (Nat.le_refl _) _
  have X2 := Lib.hid ((bA.block w.heap.size (Array.getElem?_eq_some_iff.1 X1.out).1).trans X1.out)
  have B2 := Lib.hid (B1.out.trans (bA.mono B1.out.size))
  have R2 := Lib.hid (r1.out.below bA)
  have S2 := Lib.hid (heap_alloc_new w1 (.cells #[.int .u32 (v : Int), .int .i64 (n : Int), .slice A' 32 c'] 25))
  clear r1 hb X0 B0 X1 B1 bA
  go_wp2_with (first
    | ((with_reducible show wpList _ _ _ _ _ _); refine wpList_store_new rfl rfl _ (.tmp 6) (.tmp 12) rfl _ _ #[.int .u32 (v : Int), .int .i64 (n : Int), .slice A' 32 c'] _ rfl rfl (by kernel_rfl) (by rfl) (by simp [Value.oneCell']) ?_)
    | ((with_reducible show wpList _ _ _ _ _ _); refine wpList_load_row (o := ⟨some 17, _, _, _, _, _⟩) rfl _ (.tmp 6) rfl w1.heap.size rfl _ _ _ _ S2.out Tryd.underlying25 rfl (by kernel_rfl) ?_)
    | ((with_reducible show wpList _ _ _ _ _ _); refine wpList_store_row rfl _ (.tmp 4) (.tmp 19) rfl (w.heap.size) #[.int .i64 0, .int .i64 0, .int .u32 0, .int .u32 0, .int .u32 (v : Int), .int .i64 (n : Int), .slice A' 32 c', .int .u32 0, .int .i64 0, .slice none 0 0, .bool false, .int .u32 0, .int .u32 0, .int .i64 0, .int .i64 0, .int .i64 0, .slice none 0 0] rfl rfl _ _ X2.out (by kernel_rfl) (by rfl) (by simp [Value.oneCell']) ?_))
  generalize w1.alloc (.cells #[.int .u32 (v : Int), .int .i64 (n : Int), .slice A' 32 c'] 25) = w2 at *
  have hlen := R2.out.1
  rw [bv_length] at hlen
  have ec : #[.int .i64 0, .int .i64 0, .int .u32 0, .int .u32 0, .int .u32 (v : Int), .int .i64 (n : Int), .slice A' 32 c', .int .u32 0, .int .i64 0, .slice none 0 0, .bool false, .int .u32 0, .int .u32 0, .int .i64 0, .int .i64 0, .int .i64 0, .slice none 0 0] = LSt.cells (firstL v n (Sha.D l)) A' c' none 0 none 0 := by simp only [LSt.cells, firstL, LMan.zero, hlen, List.length_nil]; rfl
  rw [ec]
  have hrow : (w2.setRow w.heap.size (LSt.cells (firstL v n (Sha.D l)) A' c' none 0 none 0)).heap[w.heap.size]? = some (.cells (LSt.cells (firstL v n (Sha.D l)) A' c' none 0 none 0) 30 (0, 0)) := setRow_heap _ _ _ _ _ _ X2.out
  refine bodyPost_ret (results_cell_tmp_row rfl _ _ (w.heap.size) _ _ (0, 0) _ rfl hrow Tryd.underlying30 rfl (by kernel_rfl)) rfl ?_
  refine ⟨_, rfl, Lib.hid ⟨A', c', none, 0, none, 0, rfl, ?_, .nil _ _ _, .nil _ _ _⟩, Lib.hid (below_setRow2 B2.out (Nat.le_refl _) _)⟩
  show RowP _ _ A' (Sha.D l).length (bv (Sha.D l))
  rw [hlen]
  exact (R2.out.keep (by simp) fun b hb _ => setRow_other _ _ _ _ (by have := LX.out; omega)).imp fun b _ hb => by have := LX.out; omega
theorem first_may (v n : Nat) (h : List UInt8) (hh : h.length = 32) (h1 : 1 ≤ n) (h2 : n ≤ 512) : (firstL v n h).may = true := by
  have a : decide (1 ≤ (n : Int)) = true := by simp; omega
  have b : decide ((n : Int) ≤ 512) = true := by simp; omega
  simp [LSt.may, firstL, mayB2, LMan.zero, filledB, emptyB, hh]
  exact ⟨a, b⟩
set_option maxRecDepth 100000 in
set_option maxHeartbeats 1600000 in
theorem awake21_any (w : World) (ht : Tab w) : Calls Tryd.prog 7 #[] w fun e w' => e = .returned (.bool true) ∧ Below w.heap.size w w' := by
  have hb0 : Below w.heap.size w (w.alloc (.cells #[.int .u8 1] 5)) := (Below.refl _ _).alloc (Nat.le_refl _) _
  have HT := Lib.hid (ht.below hb0 ht.1)
  have HR : Hid (Row (w.alloc (.cells #[.int .u8 1] 5)) (w.heap.size + 1) (some ⟨w.heap.size, 0, none⟩) 1 (bv [1])) := row_new w #[.int .u8 1] _ (0, 0)
  have B0 := Lib.hid hb0
  clear hb0 ht
  go_enter Tryd.func7, Tryd.ntmps7
  go_wp2_with fail
  refine (first_yes 7 1 1 _ [1] _ HT.out (HR.out.more (by simp)) (by omega) (by omega)).mono ?_
  rintro e w1 ⟨c1, rfl, S1, hb⟩
  have E1 := Lib.hid ((((Env.start w).below (B0.out.trans (hb.out.mono B0.out.size))).addSt S1.out).alloc c1 30)
  have I1 := Lib.hid S1.out.inf
  have O1 := Lib.hid S1.out.one
  have Z1 : Hid (17 = c1.size) := Lib.hid S1.out.size.symm
  have hm : (firstL 7 1 (Sha.D [1])).may = true := first_may 7 1 _ (by decide) (by omega) (by omega)
  have HM := Lib.hid hm
  clear HT HR hb B0 hm
  go_wp2_with (first
    | ((with_reducible show wpList _ _ _ _ _ _); refine wpList_store_new rfl rfl _ (.tmp 1) (.tmp 8) rfl _ _ c1 _ rfl rfl I1.out Z1.out O1.out ?_)
    | ((with_reducible show wpList _ _ _ _ _ _); refine wpList_load_row (o := ⟨some 11, _, _, _, _, _⟩) rfl _ (.tmp 1) rfl w1.heap.size rfl _ _ _ _ (E1.out.bx _ _ _ (.head _)) Tryd.underlying30 rfl I1.out ?_))
  refine (start_yes (E1.out.st _ _ (.head _)) HM.out).mono ?_
  rintro e w2 ⟨c2, rfl, S2, hb2⟩
  have E2 := Lib.hid (((E1.out.below hb2.out).addSt S2.out).alloc c2 30)
  have I2 := Lib.hid S2.out.inf
  have O2 := Lib.hid S2.out.one
  have Z2 : Hid (17 = c2.size) := Lib.hid S2.out.size.symm
  have C4 := Lib.hid S1.out.c4
  have C5 := Lib.hid S1.out.c5
  clear S1 S2 hb2 E1 O1 Z1 HM
  have k4 := (E2.out.cell (.tail _ (.head _)) 4).trans C4.out
  have k5 := (E2.out.cell (.tail _ (.head _)) 5).trans C5.out
  go_wp2_with (first
    | ((with_reducible show wpList _ _ _ _ _ _); refine wpList_store_new rfl rfl _ (.tmp 3) (.tmp 13) rfl _ _ c2 _ rfl rfl I2.out Z2.out O2.out ?_)
    | ((with_reducible show wpList _ _ _ _ _ _); refine wpList_load_rowG (o := ⟨some 21, _, _, _, _, _⟩) (by rfl) _ (.tmp 1) rfl (w1.heap.size) rfl _ _ _ _ (E2.out.bx _ _ _ (.tail _ (.head _))) Tryd.underlying30 rfl I1.out ?_)
    | ((with_reducible show wpList _ _ _ _ _ _); refine wpList_load_rowG (o := ⟨some 22, _, _, _, _, _⟩) (by rfl) _ (.tmp 3) rfl (w2.heap.size) rfl _ _ _ _ (E2.out.bx _ _ _ (.head _)) Tryd.underlying30 rfl I2.out ?_))
  refine (sameS (E2.out.st _ _ (.tail _ (.head _))) (E2.out.st _ _ (.head _))).mono ?_
  rintro e w3 ⟨rfl, hb3⟩
  have E3 := Lib.hid (E2.out.below hb3)
  have k4 := (E3.out.cell (.tail _ (.head _)) 4).trans C4.out
  have k5 := (E3.out.cell (.tail _ (.head _)) 5).trans C5.out
  have eqs := eqb_refl (firstL 7 1 (Sha.D [1]))
  clear E2 C4 C5 O2 Z2 hb3
  have hq : (firstL 7 1 (Sha.D [1])).eqb (LSt.start (firstL 7 1 (Sha.D [1]))) = true := eqb_refl _
  rw [hq]
  go_wp2_with fail
  go_ret
  exact ⟨rfl, E3.out.b⟩
end Go.Proofs.YtoclckfpbmglfaaDoor
