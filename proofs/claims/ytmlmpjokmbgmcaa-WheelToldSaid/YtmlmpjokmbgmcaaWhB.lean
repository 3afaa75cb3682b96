/- Wheel: start, wide, per, number, blank: by contracts. -/
import Derived.Test.YtmlmpjokmbgmcaaWhM
import Derived.Test.YtmlmpjokmbgmcaaFlFree
import Derived.Deep.RegionWith
import Derived.BigQuiet
import Derived.Deep.QuietTactic
namespace Go.Proofs.Ytmlmpjokmbgmcaa
open Go.RowKit
theorem run_quo_nat {P : Program} (t : TypeId) (a b q : Nat) (hb : 0 < b) (ha : a ≤ 9223372036854775807) (hq : a / b = q) (W : World) : (binOp .quo t (.int .i64 (a : Int)) (.int .i64 (b : Int))).run P W = .ok (.int .i64 (q : Int)) W := by
  have h0 : ¬ b = 0 := by omega
  have hq2 : (a : Int).tdiv (b : Int) = (q : Int) := by rw [← hq]; rfl
  have hqb : q ≤ a := by rw [← hq]; exact Nat.div_le_self _ _
  have hw : IntKind.i64.wrap (q : Int) = (q : Int) := by
    have h1 : (q : Int) ≤ 9223372036854775807 := by omega
    have h2 : (0 : Int) ≤ (q : Int) := by omega
    simp [IntKind.wrap, IntKind.bits, IntKind.signed]
    omega
  simp [binOp, Op.intDiv, h0, hq2, hw]
theorem run_rem_nat {P : Program} (t : TypeId) (a b q : Nat) (hb : 0 < b) (hq : a % b = q) (W : World) : (binOp .rem t (.int .i64 (a : Int)) (.int .i64 (b : Int))).run P W = .ok (.int .i64 (q : Int)) W := by
  have h0 : ¬ b = 0 := by omega
  have hq2 : (a : Int).tmod (b : Int) = (q : Int) := by rw [← hq]; rfl
  simp [binOp, Op.intDiv, h0, hq2]
theorem wsame {P : Program} {f : FuncId} {args : Array Value} {w : World} {v : Value} (h : Calls P f args w fun e w' => e = .returned v ∧ w = w') : Calls P f args w fun e w' => e = .returned v ∧ w' = w := h.mono fun _ _ ⟨h1, h2⟩ => ⟨h1, h2.symm⟩
theorem wstart_any (s : Nat) (si : Int) (w : World) (hsi : si = (s : Int)) (h : s ≤ 8) :
    Calls Try.prog 59 #[.int .i64 si] w fun e w' => e = .returned (.int .i64 ((256 * (6 + s) : Nat) : Int)) ∧ w = w' := by
  subst hsi
  have h8 : (s : Int) ≤ 8 := by omega
  have h0 : (0 : Int) ≤ (s : Int) := by omega
  have HE : Hid ((6 + (s : Int)) * 256 = ((256 * (6 + s) : Nat) : Int)) := by show _ = _; omega
  clear h
  go_enter Try.func59, Try.ntmps59
  go_wp2_with fail
  go_ret
  exact ⟨congrArg (fun z => Ending.returned (.int .i64 z)) HE.out, rfl⟩
section
variable (gw size : Nat) (w : World)
theorem wwide_any (hc : w.cell? ⟨gw, 2, none⟩ = some (.int .i64 (size : Int))) (h : size ≤ 16) :
    Calls Try.prog 79 #[.pointer (some ⟨gw, 0, none⟩)] w fun e w' => e = .returned (.int .i64 ((size + 13 : Nat) : Int)) ∧ w = w' := by
  have h8 : (size : Int) ≤ 16 := by omega
  have HE : Hid ((size : Int) + 13 = ((size + 13 : Nat) : Int)) := by show _ = _; omega
  clear h
  go_enter Try.func79, Try.ntmps79
  go_wp2_with fail
  go_ret
  exact ⟨congrArg (fun z => Ending.returned (.int .i64 z)) HE.out, rfl⟩
set_option maxRecDepth 100000 in
theorem wper_any (hc : w.cell? ⟨gw, 2, none⟩ = some (.int .i64 (size : Int))) (h1 : 1 ≤ size) (h : size ≤ 16) :
    Calls Try.prog 69 #[.pointer (some ⟨gw, 0, none⟩)] w fun e w' => e = .returned (.int .i64 ((256 / (size + 13) : Nat) : Int)) ∧ w = w' := by
  have HW := Lib.hid (wwide_any gw size w hc h)
  clear hc
  have hcase : size = 1 ∨ size = 2 ∨ size = 3 ∨ size = 4 ∨ size = 5 ∨ size = 6 ∨ size = 7 ∨ size = 8 ∨ size = 9 ∨ size = 10 ∨ size = 11 ∨ size = 12 ∨ size = 13 ∨ size = 14 ∨ size = 15 ∨ size = 16 := by omega
  clear h h1
  rcases hcase with rfl | rfl | rfl | rfl | rfl | rfl | rfl | rfl | rfl | rfl | rfl | rfl | rfl | rfl | rfl | rfl
  all_goals
    go_enter Try.func69, Try.ntmps69
    go_wp2_with fail
    refine HW.out.mono ?_
    rintro e w' ⟨rfl, rfl⟩
    go_wp2_with fail
    go_ret
    exact ⟨rfl, rfl⟩
end
set_option maxRecDepth 100000 in
set_option maxHeartbeats 400000 in
theorem wnumber_any (B cap : Nat) (A : Option Addr) (l : List UInt8) (w : World) (hl : Row w B A 4 (bv l)) :
    Calls Try.prog 88 #[.slice A 4 cap] w fun e w' => e = .returned (.int .u32 (CrcM.number l : Nat)) ∧ w = w' := by
  have HS : Hid (isNum 0 0 l) := ⟨rfl, by decide⟩
  have HN := Lib.hid hl.blen
  go_enter Try.func88, Try.ntmps88
  go_wp2
  go_loop [3, 8] (fun v i => ∃ (k x : Nat), k ≤ 4 ∧ Hid (isNum k x l) ∧ i = .int .i64 k ∧ v = .int .u32 x) (fun _ i => 4 - (intOf i).toNat)
  case atStart => exact ⟨0, 0, by omega, HS, rfl, rfl⟩
  case round =>
    obtain ⟨k, x, hk, hx, rfl, rfl⟩ := hrel
    by_cases hlt : k < 4
    · obtain ⟨b, o, rfl, _, hkl, hcell⟩ := hl.byteAt hlt
      obtain ⟨y, hy, hr⟩ := isNum_next hx.out hkl hlt
      have HY := Lib.hid hy
      clear hy
      have hb : (l[k].toNat : Int) ≤ 255 := by have := CrcM.b_lt l[k]; omega
      go_wp2
      go_round
      case rel => exact ⟨k + 1, y, by omega, hr, by go_num, HY.out⟩
      case measure => simp [intOf]; omega
    · have : k = 4 := by omega
      subst this
      go_wp2
      go_ret
      refine ⟨?_, rfl⟩
      have e := hx.out.1
      rw [List.take_of_length_le (by rw [HN.out]; omega)] at e
      rw [e]; rfl
set_option maxRecDepth 100000 in
set_option maxHeartbeats 400000 in
theorem wblank_any (B n cap : Nat) (A : Option Addr) (L : List UInt8) (w : World) (hl : Row w B A n (bv L)) (hn : n ≤ 1000) :
    Calls Try.prog 80 #[.slice A n cap] w fun e w' => e = .returned (.bool (allFF L)) ∧ w = w' := by
  have HSL := Lib.hid hl.blen
  go_enter Try.func80, Try.ntmps80
  go_wp2_with fail
  go_loop [7] (fun i => ∃ k : Nat, k ≤ n ∧ i = .int .i64 k ∧ Hid (∀ j (hj : j < L.length), j < k → L[j] = 255)) (fun i => n - (intOf i).toNat)
  case atStart => exact ⟨0, by omega, rfl, (show ∀ j (hj : j < L.length), j < 0 → L[j] = 255 from fun j _ hj => absurd hj (by omega))⟩
  case round =>
    obtain ⟨k, hk, rfl, hall⟩ := hrel
    by_cases hlt : k < n
    · obtain ⟨b, o, rfl, _, hkl, hcell⟩ := hl.byteAt hlt
      by_cases hx : L[k] = 255
      · have e6 : ((L[k].toNat : Int) != 255) = false := by rw [hx]; rfl
        have hall2 : Hid (∀ j (hj : j < L.length), j < k + 1 → L[j] = 255) := by
          intro j hj hjk
          by_cases e : j < k
          · exact hall.out j hj e
          · obtain rfl : j = k := by omega
            exact hx
        clear hx hall
        go_wp2_with fail
        go_round
        case rel => exact ⟨k + 1, by omega, by go_num, hall2⟩
        case measure => simp [intOf]; omega
      · have e6 : ((L[k].toNat : Int) != 255) = true := bne_iff_ne.2 fun e => hx (UInt8.toNat.inj (by rw [show L[k].toNat = 255 by omega]; rfl))
        have HNO := Lib.hid (allFF_no hkl hx)
        clear hx hall
        go_wp2_with fail
        go_ret
        exact ⟨by rw [HNO.out]; rfl, rfl⟩
    · obtain rfl : n = k := by omega
      have HY : Hid (allFF L = true) := by
        show allFF L = true
        unfold allFF
        rw [List.all_eq_true]
        intro x hx
        obtain ⟨j, hj, rfl⟩ := List.getElem_of_mem hx
        have := hall.out j hj (by have := HSL.out; omega)
        simpa using this
      clear hall
      go_wp2_with fail
      go_ret
      exact ⟨by rw [HY.out]; rfl, rfl⟩
end Go.Proofs.Ytmlmpjokmbgmcaa
