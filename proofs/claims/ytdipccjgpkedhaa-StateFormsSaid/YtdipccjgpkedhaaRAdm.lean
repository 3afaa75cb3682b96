/- The reference's Newer, Admit: by contracts. -/
import Derived.Test.YtdipccjgpkedhaaRMay
import Derived.Test.YtdipccjgpkedhaaStEq
namespace Go.Proofs.Ytdipccjgpkedhaa
open Go.RowKit
theorem rmayS {w : World} {P : Nat → Prop} {cs : Array Value} {L : LSt} (h : IsSt w P cs L) : Calls Try.prog 10 #[.agg cs] w fun e w' => e = .returned (.bool L.may) ∧ Below w.heap.size w w' := by
  obtain ⟨A0, c0, A1, c1, A, c, rfl, r0, r1, r2⟩ := h
  exact rmay_any _ _ _ _ _ _ _ _ _ _ _ _ _ _ _ _ _ _ _ _ _ _ _ w.heap.size _ _ _ w r0.row r1.row r2.row (Nat.le_refl _)
theorem rmanMayS {w : World} {P : Nat → Prop} {ms : Array Value} {M : LMan} (hm : IsMan w P ms M) : Calls Try.prog 32 #[.agg ms] w fun e w' => e = .returned (.bool M.may) ∧ Below w.heap.size w w' := by
  obtain ⟨A, c, rfl, _⟩ := hm
  exact rmanMay_any _ _ _ _ _ _ _ _ w
theorem rmanSameS {w : World} {P Q : Nat → Prop} {ms ns : Array Value} {M K : LMan} (hm : IsMan w P ms M) (hn : IsMan w Q ns K) : Calls Try.prog 36 #[.agg ms, .agg ns] w fun e w' => e = .returned (.bool (M.eqb K)) ∧ Below w.heap.size w w' := by
  obtain ⟨A, c, rfl, r⟩ := hm
  obtain ⟨A', c', rfl, r'⟩ := hn
  refine (rmanSame_any _ _ _ _ _ _ _ _ _ _ w.heap.size _ _ _ _ _ _ _ _ w r.row r'.row (Nat.le_refl _)).mono ?_
  rintro e w' ⟨b, rfl, hb, hb1⟩
  exact ⟨by rw [hb.out]; rfl, hb1⟩
set_option maxRecDepth 100000 in
set_option maxHeartbeats 1600000 in
theorem rnewer_any (act trial : Int) (flo gen v0 : Nat) (l0 : Int) (A0 : Option Addr) (n0 c0 : Nat) (v1 : Nat) (l1 : Int) (A1 : Option Addr) (n1 c1 : Nat) (on : Bool) (s v : Nat) (l z p : Int) (A : Option Addr) (n c B : Nat) (h0 h1 h : List UInt8) (ver : Nat) (w : World) (hl0 : Row w B A0 n0 (bv h0)) (hl1 : Row w B A1 n1 (bv h1)) (hl : Row w B A n (bv h)) (hB : B ≤ w.heap.size) :
    Calls Try.prog 19 #[.agg #[.int .i64 act, .int .i64 trial, .int .u32 (flo : Int), .int .u32 (gen : Int), .int .u32 (v0 : Int), .int .i64 l0, .slice A0 n0 c0, .int .u32 (v1 : Int), .int .i64 l1, .slice A1 n1 c1, .bool on, .int .u32 (s : Int), .int .u32 (v : Int), .int .i64 l, .int .i64 z, .int .i64 p, .slice A n c], .int .u32 (ver : Int)] w fun e w' => e = .returned (.bool (newB (mayB2 act trial v0 l0 h0 v1 l1 h1 on s v l z p h) act flo v0 v1 on v ver)) ∧ Below w.heap.size w w' := by
  have HX := Lib.hid (heap_alloc_new w (.cells #[.int .i64 act, .int .i64 trial, .int .u32 (flo : Int), .int .u32 (gen : Int), .int .u32 (v0 : Int), .int .i64 l0, .slice A0 n0 c0, .int .u32 (v1 : Int), .int .i64 l1, .slice A1 n1 c1, .bool on, .int .u32 (s : Int), .int .u32 (v : Int), .int .i64 l, .int .i64 z, .int .i64 p, .slice A n c] 30))
  have CM := Lib.hid (rmay_any act trial flo gen v0 l0 A0 n0 c0 v1 l1 A1 n1 c1 on s v l z p A n c B h0 h1 h (w.alloc (.cells #[.int .i64 act, .int .i64 trial, .int .u32 (flo : Int), .int .u32 (gen : Int), .int .u32 (v0 : Int), .int .i64 l0, .slice A0 n0 c0, .int .u32 (v1 : Int), .int .i64 l1, .slice A1 n1 c1, .bool on, .int .u32 (s : Int), .int .u32 (v : Int), .int .i64 l, .int .i64 z, .int .i64 p, .slice A n c] 30)) (hl0.alloc hB _) (hl1.alloc hB _) (hl.alloc hB _) (by simp; omega))
  have HA : Hid (mayB2 act trial v0 l0 h0 v1 l1 h1 on s v l z p h = true → act = 0 ∨ act = 1) := may_act_of act trial flo gen v0 l0 A0 n0 c0 v1 l1 A1 n1 c1 on s v l z p A n c B h0 h1 h
  clear hl0 hl1 hl hB
  generalize mayB2 act trial v0 l0 h0 v1 l1 h1 on s v l z p h = m at *
  go_enter Try.func19, Try.ntmps19
  go_wp2_with fail
  refine CM.out.mono ?_
  rintro e w1 ⟨rfl, hb1⟩
  have HB1 : Hid (Below w.heap.size w w1) := ((Below.refl _ _).alloc (Nat.le_refl _) _).trans (hb1.mono (by simp))
  have HX1 := Lib.hid ((hb1.block w.heap.size (by simp)).trans HX.out)
  clear hb1 HX CM
  cases m with
  | false =>
    clear HX1 HA
    go_wp2_with fail
    go_ret
    exact ⟨by simp [newB], HB1.out⟩
  | true =>
    obtain ⟨a0, a2, a4, a7, a10, a12⟩ := bx17n HX1.out
    clear HX1
    rcases HA.out rfl with rfl | rfl <;> cases on
    all_goals
      go_wp2_with fail
      all_goals (go_ret; exact ⟨by simp [newB, *] <;> omega, HB1.out⟩)
theorem rnewerS {w : World} {P : Nat → Prop} {cs : Array Value} {L : LSt} (ver : Nat) (h : IsSt w P cs L) : Calls Try.prog 19 #[.agg cs, .int .u32 (ver : Int)] w fun e w' => e = .returned (.bool (L.newer ver)) ∧ Below w.heap.size w w' := by
  obtain ⟨A0, c0, A1, c1, A, c, rfl, r0, r1, r2⟩ := h
  exact rnewer_any _ _ _ _ _ _ _ _ _ _ _ _ _ _ _ _ _ _ _ _ _ _ _ w.heap.size _ _ _ ver w r0.row r1.row r2.row (Nat.le_refl _)
end Go.Proofs.Ytdipccjgpkedhaa
