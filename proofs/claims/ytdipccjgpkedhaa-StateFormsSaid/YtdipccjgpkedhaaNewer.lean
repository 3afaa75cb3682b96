/- session.Newer, law19.Heavy: by contracts. -/
import Derived.Test.YtdipccjgpkedhaaStMay
namespace Go.Proofs.Ytdipccjgpkedhaa
open Go.RowKit
def newB (may : Bool) (act : Int) (flo v0 v1 : Nat) (on : Bool) (v ver : Nat) : Bool :=
  may && decide (flo < ver) && decide ((if act = 0 then v0 else v1) < ver) && (!on || decide (v < ver))
theorem bx17n {w : World} {g : Nat} {t : TypeId} {a0 a1 a2 a3 a4 a5 a6 a7 a8 a9 a10 a11 a12 a13 a14 a15 a16 : Value} (h : w.heap[g]? = some (.cells #[a0, a1, a2, a3, a4, a5, a6, a7, a8, a9, a10, a11, a12, a13, a14, a15, a16] t (0, 0))) :
    w.cell? ⟨g, 0, none⟩ = some a0 ∧ w.cell? ⟨g, 2, none⟩ = some a2 ∧ w.cell? ⟨g, 4, none⟩ = some a4 ∧ w.cell? ⟨g, 7, none⟩ = some a7 ∧ w.cell? ⟨g, 10, none⟩ = some a10 ∧ w.cell? ⟨g, 12, none⟩ = some a12 := by
  refine ⟨?_, ?_, ?_, ?_, ?_, ?_⟩ <;> rw [cell_of_row w g _ _ t (0, 0) h] <;> rfl
theorem may_act_of (act trial : Int) (_flo _gen v0 : Nat) (l0 : Int) (_A0 : Option Addr) (_n0 _c0 : Nat) (v1 : Nat) (l1 : Int) (_A1 : Option Addr) (_n1 _c1 : Nat) (on : Bool) (s v : Nat) (l z p : Int) (_A : Option Addr) (_n _c _B : Nat) (h0 h1 h : List UInt8) (h' : mayB2 act trial v0 l0 h0 v1 l1 h1 on s v l z p h = true) : act = 0 ∨ act = 1 := by
  simp only [mayB2, Bool.and_eq_true, decide_eq_true_eq] at h'
  exact h'.1.1.1
set_option maxRecDepth 100000 in
set_option maxHeartbeats 1600000 in
theorem newer_any (act trial : Int) (flo gen v0 : Nat) (l0 : Int) (A0 : Option Addr) (n0 c0 : Nat) (v1 : Nat) (l1 : Int) (A1 : Option Addr) (n1 c1 : Nat) (on : Bool) (s v : Nat) (l z p : Int) (A : Option Addr) (n c B : Nat) (h0 h1 h : List UInt8) (ver : Nat) (w : World) (hl0 : Row w B A0 n0 (bv h0)) (hl1 : Row w B A1 n1 (bv h1)) (hl : Row w B A n (bv h)) (hB : B ≤ w.heap.size) :
    Calls Try.prog 18 #[.agg #[.int .i64 act, .int .i64 trial, .int .u32 (flo : Int), .int .u32 (gen : Int), .int .u32 (v0 : Int), .int .i64 l0, .slice A0 n0 c0, .int .u32 (v1 : Int), .int .i64 l1, .slice A1 n1 c1, .bool on, .int .u32 (s : Int), .int .u32 (v : Int), .int .i64 l, .int .i64 z, .int .i64 p, .slice A n c], .int .u32 (ver : Int)] w fun e w' => e = .returned (.bool (newB (mayB2 act trial v0 l0 h0 v1 l1 h1 on s v l z p h) act flo v0 v1 on v ver)) ∧ Below w.heap.size w w' := by
  have HX := Lib.hid (heap_alloc_new w (.cells #[.int .i64 act, .int .i64 trial, .int .u32 (flo : Int), .int .u32 (gen : Int), .int .u32 (v0 : Int), .int .i64 l0, .slice A0 n0 c0, .int .u32 (v1 : Int), .int .i64 l1, .slice A1 n1 c1, .bool on, .int .u32 (s : Int), .int .u32 (v : Int), .int .i64 l, .int .i64 z, .int .i64 p, .slice A n c] 30))
  have CM := Lib.hid (may_any act trial flo gen v0 l0 A0 n0 c0 v1 l1 A1 n1 c1 on s v l z p A n c B h0 h1 h (w.alloc (.cells #[.int .i64 act, .int .i64 trial, .int .u32 (flo : Int), .int .u32 (gen : Int), .int .u32 (v0 : Int), .int .i64 l0, .slice A0 n0 c0, .int .u32 (v1 : Int), .int .i64 l1, .slice A1 n1 c1, .bool on, .int .u32 (s : Int), .int .u32 (v : Int), .int .i64 l, .int .i64 z, .int .i64 p, .slice A n c] 30)) (hl0.alloc hB _) (hl1.alloc hB _) (hl.alloc hB _) (by simp; omega))
  have HA : Hid (mayB2 act trial v0 l0 h0 v1 l1 h1 on s v l z p h = true → act = 0 ∨ act = 1) := may_act_of act trial flo gen v0 l0 A0 n0 c0 v1 l1 A1 n1 c1 on s v l z p A n c B h0 h1 h
  clear hl0 hl1 hl hB
  generalize mayB2 act trial v0 l0 h0 v1 l1 h1 on s v l z p h = m at *
  go_enter Try.func18, Try.ntmps18
  go_wp2_with fail
  refine CM.out.mono ?_
  rintro e w1 ⟨rfl, hb1⟩
  have HB1 : Hid (Below w.heap.size w w1) := ((Below.refl _ _).alloc (Nat.le_refl _) _).trans (hb1.mono (by simp))
  have HX1 := Lib.hid ((hb1.block w.heap.size (by simp)).trans HX.out)
  clear hb1 HX CM
  cases m with
  | false =>
    clear HX1 HA
    go_wp2_with fail
    go_ret
    exact ⟨by simp [newB], HB1.out⟩
  | true =>
    obtain ⟨a0, a2, a4, a7, a10, a12⟩ := bx17n HX1.out
    clear HX1
    rcases HA.out rfl with rfl | rfl <;> cases on
    all_goals
      go_wp2_with fail
      all_goals (go_ret; exact ⟨by simp [newB, *] <;> omega, HB1.out⟩)
end Go.Proofs.Ytdipccjgpkedhaa
