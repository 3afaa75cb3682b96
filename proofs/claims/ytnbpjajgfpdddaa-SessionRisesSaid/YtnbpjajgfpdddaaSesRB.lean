/- SessionRises, by cases. -/
import Derived.Test.YtnbpjajgfpdddaaSesRH
namespace Go.Proofs.Ytnbpjajgfpdddaa
open Go.RowKit
set_option maxRecDepth 100000 in
set_option maxHeartbeats 3200000 in
theorem rises_b (act trial : Int) (flo gen v0 : Nat) (l0 : Int) (A0 : Option Addr) (n0 c0 : Nat) (v1 : Nat) (l1 : Int) (A1 : Option Addr) (n1 c1 : Nat) (on : Bool) (s v : Nat) (l z p : Int) (A : Option Addr) (n c : Nat) (h0 h1 h : List UInt8) (ver more : Nat) (w : World) (hh : n0 ≤ 100 ∧ n1 ≤ 100 ∧ n ≤ 100) (hmay : (mayB2 act trial v0 l0 h0 v1 l1 h1 on s v l z p h) = false) (hl0 : Row w w.heap.size A0 n0 (bv h0)) (hl1 : Row w w.heap.size A1 n1 (bv h1)) (hl : Row w w.heap.size A n (bv h)) :
    Calls Try.prog 12 #[.agg #[.int .i64 act, .int .i64 trial, .int .u32 (flo : Int), .int .u32 (gen : Int), .int .u32 (v0 : Int), .int .i64 l0, .slice A0 n0 c0, .int .u32 (v1 : Int), .int .i64 l1, .slice A1 n1 c1, .bool on, .int .u32 (s : Int), .int .u32 (v : Int), .int .i64 l, .int .i64 z, .int .i64 p, .slice A n c], .int .u32 (ver : Int), .int .u32 (more : Int)] w fun e w' => e = .returned (.bool true) ∧ Below w.heap.size w w' := by
  have hb : Below w.heap.size w (w.alloc (.cells #[.int .i64 act, .int .i64 trial, .int .u32 (flo : Int), .int .u32 (gen : Int), .int .u32 (v0 : Int), .int .i64 l0, .slice A0 n0 c0, .int .u32 (v1 : Int), .int .i64 l1, .slice A1 n1 c1, .bool on, .int .u32 (s : Int), .int .u32 (v : Int), .int .i64 l, .int .i64 z, .int .i64 p, .slice A n c] 30)) := (Below.refl _ _).alloc (Nat.le_refl _) _
  have HB := Lib.hid hb
  have X0 := Lib.hid (heap_alloc_new w (.cells #[.int .i64 act, .int .i64 trial, .int .u32 (flo : Int), .int .u32 (gen : Int), .int .u32 (v0 : Int), .int .i64 l0, .slice A0 n0 c0, .int .u32 (v1 : Int), .int .i64 l1, .slice A1 n1 c1, .bool on, .int .u32 (s : Int), .int .u32 (v : Int), .int .i64 l, .int .i64 z, .int .i64 p, .slice A n c] 30))
  have HL0 := Lib.hid hl0
  have HL1 := Lib.hid hl1
  have HL := Lib.hid hl
  clear hl0 hl1 hl hb
  have HNW : Hid (newB (mayB2 act trial v0 l0 h0 v1 l1 h1 on s v l z p h) act flo v0 v1 on v ver = false) := Lib.hid (by rw [hmay]; simp [newB])
  have HMAY := Lib.hid hmay
  clear hmay
  go_enter Try.func12, Try.ntmps12
  go_wp2_with fail
  refine (heavy_no act trial flo gen v0 l0 A0 n0 c0 v1 l1 A1 n1 c1 on s v l z p A n c _ hh.1 hh.2.1 hh.2.2).mono ?_
  rintro e w1 ⟨rfl, hb1⟩
  have HB1 : Hid (Below w.heap.size w w1) := HB.out.trans (hb1.mono HB.out.size)
  have X1 := Lib.hid ((hb1.block w.heap.size (Array.getElem?_eq_some_iff.1 X0.out).1).trans X0.out)
  clear hb1 X0
  go_wp2_with ((with_reducible show wpList _ _ _ _ _ _); refine wpList_load_rowG (o := ⟨some 14, _, _, _, _, _⟩) (by rfl) _ (.tmp 3) rfl w.heap.size rfl _ _ _ _ X1.out Try.underlying30 rfl (by kernel_rfl) ?_)
  refine (may_any act trial flo gen v0 l0 A0 n0 c0 v1 l1 A1 n1 c1 on s v l z p A n c w.heap.size h0 h1 h w1 (HL0.out.below HB1.out) (HL1.out.below HB1.out) (HL.out.below HB1.out) HB1.out.size).mono ?_
  rintro e w2 ⟨rfl, hb2⟩
  rw [HMAY.out]
  have HB2 : Hid (Below w.heap.size w w2) := HB1.out.trans (hb2.mono HB1.out.size)
  have X2 := Lib.hid ((hb2.block w.heap.size (Array.getElem?_eq_some_iff.1 X1.out).1).trans X1.out)
  clear hb2 X1
  go_wp2_with ((with_reducible show wpList _ _ _ _ _ _); refine wpList_load_row (o := ⟨some 18, _, _, _, _, _⟩) rfl _ (.tmp 3) rfl w.heap.size rfl _ _ _ _ X2.out Try.underlying30 rfl (by kernel_rfl) ?_)
  refine (newer_any act trial flo gen v0 l0 A0 n0 c0 v1 l1 A1 n1 c1 on s v l z p A n c w.heap.size h0 h1 h ver w2 (HL0.out.below HB2.out) (HL1.out.below HB2.out) (HL.out.below HB2.out) HB2.out.size).mono ?_
  rintro e w8 ⟨rfl, hb8⟩
  rw [HNW.out]
  have HB8 : Hid (Below w.heap.size w w8) := HB2.out.trans (hb8.mono HB2.out.size)
  have X8 := Lib.hid ((hb8.block w.heap.size (Array.getElem?_eq_some_iff.1 X2.out).1).trans X2.out)
  clear hb8 X2
  go_wp2_with fail
  refine (awake22_any w8).mono ?_
  rintro e w9 ⟨rfl, hb9⟩
  have HB9 : Hid (Below w.heap.size w w9) := HB8.out.trans (hb9.mono HB8.out.size)
  go_wp2_with fail
  go_ret
  exact ⟨rfl, HB9.out⟩
end Go.Proofs.Ytnbpjajgfpdddaa
