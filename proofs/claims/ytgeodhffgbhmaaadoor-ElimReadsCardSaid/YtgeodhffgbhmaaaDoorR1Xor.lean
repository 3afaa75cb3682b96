/- The reference's XorBytes: by contract. -/
import Derived.Test.YtgeodhffgbhmaaaDoorXor0
import Derived.Test.YtgeodhffgbhmaaaDoorFill
namespace Go.Proofs.YtgeodhffgbhmaaaDoor
open Go.RowKit
theorem fill_getD (n : Nat) (f : Nat → UInt8) (k : Nat) (h : k < n) : (fill n f k).getD k 0 = 0 := by
  rw [List.getD_eq_getElem?_getD, fill_get n f k k h]; simp
theorem fill_xor (a b : List UInt8) : fill a.length (fun j => a.getD j 0 ^^^ b.getD j 0) a.length = xorL a b := by
  apply List.ext_getElem?
  intro j
  by_cases h : j < a.length
  · rw [fill_get _ _ _ _ h, xorL, xl_get a b _ j h]; simp [h]
  · rw [List.getElem?_eq_none (by rw [fill_length]; omega), List.getElem?_eq_none (by rw [xorL_length]; omega)]
set_option maxHeartbeats 1600000 in
theorem xorBytes_any (B n c1 c2 : Nat) (A1 A2 : Option Addr) (a b : List UInt8) (w : World) (h1 : Row w B A1 n (bv a)) (h2 : Row w B A2 n (bv b)) (hn : n ≤ 1000000000) (hB : B ≤ w.heap.size) :
    Calls Tryd.prog 38 #[.slice A1 n c1, .slice A2 n c2] w (FreshBytes w.heap.size (xorL a b) w) := by
  have HA := Lib.hid h1.blen
  have hmk := mk_bytes n hn w
  go_enter Tryd.func38, Tryd.ntmps38
  go_wp2_with fail
  clear hmk
  go_loopw [12] (fun x wr => ∃ k : Nat, k ≤ n ∧ x = .int .i64 k ∧ Hid (wr.ownsRow w.heap.size 5 1 (.slice (some ⟨w.heap.size, 0, none⟩) n n) n (bv (fill n (fun j => a.getD j 0 ^^^ b.getD j 0) k))) ∧ Below w.heap.size w wr) (fun x _ => n - (intOf x).toNat)
  case atStart =>
    refine ⟨0, by omega, rfl, ?_, (Below.refl _ _).alloc (Nat.le_refl _) _⟩
    show World.ownsRow _ _ _ _ _ _ _
    rw [fill_zero]
    have := own_lit (w := w) (base := w.heap.size) (g := w.heap.size) (n := n) (e := 5) (Array.replicate n (.int .u8 0)) rfl (Nat.le_refl _) (by simp) (by unfold maxLen; omega)
    simpa [bv] using this
  case round =>
    obtain ⟨k, hk, rfl, hown, hbk⟩ := hrel
    by_cases hlt : k < n
    · obtain ⟨b1, o1, rfl, hb1, hl1, hc1⟩ := (h1.below (hbk.mono hB)).byteAt hlt
      obtain ⟨b2, o2, rfl, hb2, hl2, hc2⟩ := (h2.below (hbk.mono hB)).byteAt hlt
      have hfz := hown.out.frozenAt k
      have hcs := (hown.out.cellAt k (by omega)).trans (bv_getD _ k (by rw [fill_length]; exact hlt))
      have hst := Lib.hid ((hown.out.stored k (.int .u8 ((a.getD k 0 ^^^ b.getD k 0).toNat : Int))).1)
      have hset := Lib.hid (bv_fill_set n (fun j => a.getD j 0 ^^^ b.getD j 0) k hlt)
      have hx : a[k] = a.getD k 0 := by simp [List.getD, hl1]
      have hy : b[k] = b.getD k 0 := by simp [List.getD, hl2]
      have hxor := xor_int (a.getD k 0) (b.getD k 0)
      rw [hx] at hc1
      rw [hy] at hc2
      have hki : (k : Int) < (n : Int) := by omega
      clear hx hy
      generalize hX : a.getD k 0 = x at *
      generalize hY : b.getD k 0 = y at *
      have HX := Lib.hid hX
      have HY := Lib.hid hY
      clear hX hY
      go_wp2_with fail
      go_region
      all_goals
        go_wp2_with fail
        go_roundw
        case rel => exact ⟨k + 1, by omega, by go_num, by show World.ownsRow _ _ _ _ _ _ _; rw [← hset.out]; exact hst.out, (hbk.setCell (Nat.le_refl _) _).drew⟩
        case measure => simp [intOf]; omega
    · obtain rfl : n = k := by omega
      have hfin := hown.out
      rw [show fill n (fun j => a.getD j 0 ^^^ b.getD j 0) n = xorL a b by rw [← fill_xor, HA.out]] at hfin
      have HF := Lib.hid hfin
      clear hfin
      go_wp2_with fail
      go_ret
      exact ⟨_, n, n, rfl, by show n = _; rw [xorL_length]; exact HA.out.symm, HF.out, hbk⟩
end Go.Proofs.YtgeodhffgbhmaaaDoor
