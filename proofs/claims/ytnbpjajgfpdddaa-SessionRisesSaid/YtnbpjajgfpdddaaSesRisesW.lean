/- SessionRises' walk: every input. -/
import Derived.Test.YtnbpjajgfpdddaaSesRA
import Derived.Test.YtnbpjajgfpdddaaSesRB
import Derived.Test.YtnbpjajgfpdddaaSesRC
namespace Go.Proofs.Ytnbpjajgfpdddaa
open Go.RowKit
theorem rises_walk (act trial : Int) (flo gen v0 : Nat) (l0 : Int) (A0 : Option Addr) (n0 c0 : Nat) (v1 : Nat) (l1 : Int) (A1 : Option Addr) (n1 c1 : Nat) (on : Bool) (s v : Nat) (l z p : Int) (A : Option Addr) (n c : Nat) (h0 h1 h : List UInt8) (ver more : Nat) (w : World) (hl0 : Row w w.heap.size A0 n0 (bv h0)) (hl1 : Row w w.heap.size A1 n1 (bv h1)) (hl : Row w w.heap.size A n (bv h)) :
    Calls Try.prog 12 #[.agg #[.int .i64 act, .int .i64 trial, .int .u32 (flo : Int), .int .u32 (gen : Int), .int .u32 (v0 : Int), .int .i64 l0, .slice A0 n0 c0, .int .u32 (v1 : Int), .int .i64 l1, .slice A1 n1 c1, .bool on, .int .u32 (s : Int), .int .u32 (v : Int), .int .i64 l, .int .i64 z, .int .i64 p, .slice A n c], .int .u32 (ver : Int), .int .u32 (more : Int)] w fun e w' => e = .returned (.bool true) ∧ Below w.heap.size w w' := by
  by_cases hh : 100 < n0 ∨ 100 < n1 ∨ 100 < n
  · refine rises_a act trial flo gen v0 l0 A0 n0 c0 v1 l1 A1 n1 c1 on s v l z p A n c h0 h1 h ver more w hh (heavy_not _ _ _ _ _ _ _ _ _ _ _ _ _ _ _ ?_) hl0 hl1 hl
    rw [hl0.blen, hl1.blen, hl.blen]
    exact hh
  · have h2 : n0 ≤ 100 ∧ n1 ≤ 100 ∧ n ≤ 100 := by omega
    cases hm : mayB2 act trial v0 l0 h0 v1 l1 h1 on s v l z p h with
    | false => exact rises_b act trial flo gen v0 l0 A0 n0 c0 v1 l1 A1 n1 c1 on s v l z p A n c h0 h1 h ver more w h2 hm hl0 hl1 hl
    | true => exact rises_c act trial flo gen v0 l0 A0 n0 c0 v1 l1 A1 n1 c1 on s v l z p A n c h0 h1 h ver more w h2 hm hl0 hl1 hl
end Go.Proofs.Ytnbpjajgfpdddaa
