/- crc's functions, each by a contract: what it answers as a function of bytes, the world left alone. -/
import Derived.Test.YtekaoodagaplmaaRows
import Derived.Test.YtekaoodagaplmaaCrcMath
import Derived.Test.YtekaoodagaplmaaBase
import Derived.WalkSpells
import Derived.WalkLawsBesides
namespace Go.Proofs.Ytekaoodagaplmaa
open Go.RowKit

/-- a contract that leaves the world alone, as the still walk asks for it -/
theorem still_of {P : Program} {f : FuncId} {args : Array Value} {w : World} {v : Value} (h : Calls P f args w fun e w' => e = .returned v ∧ w = w') : Calls P f args w fun e w' => e = .returned v ∧ w' = w :=
  h.mono fun _ _ ⟨he, hw⟩ => ⟨he, hw.symm⟩
theorem bits_odd (x : Nat) (h : x < 4294967296) : (bits .and .u32 (x : Int) 1 == 1) = decide (x % 2 = 1) := by
  rw [show (1 : Int) = ((1 : Nat) : Int) from rfl, u32_and_nat x 1 h (by decide), Nat.and_one_is_mod]
  by_cases h2 : x % 2 = 1
  · rw [h2]; rfl
  · have : x % 2 = 0 := by omega
    rw [this]; rfl
theorem bits_poly (x : Nat) (h : x < 4294967296) : bits .xor .u32 ((x : Int) / 2) 3988292384 = ((x / 2 ^^^ CrcM.poly : Nat) : Int) := by
  have e : ((x : Int) / 2) = ((x / 2 : Nat) : Int) := by omega
  rw [e]
  exact u32_xor_nat (x / 2) CrcM.poly (by omega) (by decide)
def isRounds (c k x : Nat) : Prop := x = CrcM.rounds k c ∧ x < 4294967296
theorem isRounds_odd {c k x : Nat} (h : isRounds c k x) (ho : (bits .and .u32 (x : Int) 1 == 1) = true) :
    ∃ y : Nat, Value.int .u32 (bits .xor .u32 ((x : Int) / 2) 3988292384) = .int .u32 (y : Int) ∧ isRounds c (k + 1) y := by
  obtain ⟨hx, hl⟩ := h
  rw [bits_odd x hl] at ho
  have h1 : x % 2 = 1 := of_decide_eq_true ho
  refine ⟨_, by rw [bits_poly x hl], ?_, ?_⟩
  · show _ = CrcM.bit1 (CrcM.rounds k c)
    rw [← hx]; unfold CrcM.bit1; rw [if_pos h1]
  · have := CrcM.bit1_lt x hl
    unfold CrcM.bit1 at this; rwa [if_pos h1] at this
theorem isRounds_even {c k x : Nat} (h : isRounds c k x) (ho : (bits .and .u32 (x : Int) 1 == 1) = false) :
    ∃ y : Nat, Value.int .u32 ((x : Int) / 2) = .int .u32 (y : Int) ∧ isRounds c (k + 1) y := by
  obtain ⟨hx, hl⟩ := h
  rw [bits_odd x hl] at ho
  have h1 : ¬ x % 2 = 1 := of_decide_eq_false ho
  refine ⟨x / 2, by rw [show ((x : Int) / 2) = ((x / 2 : Nat) : Int) by omega], ?_, by omega⟩
  show _ = CrcM.bit1 (CrcM.rounds k c)
  rw [← hx]; unfold CrcM.bit1; rw [if_neg h1, Nat.xor_zero]

set_option maxHeartbeats 400000 in
theorem step_any (c : Nat) (hc : c < 2 ^ 32) (w : World) :
    Calls Try.prog 63 #[.int .u32 (c : Int)] w fun e w' => e = .returned (.int .u32 (CrcM.step c : Nat)) ∧ w = w' := by
  have HC : Hid (isRounds c 0 c) := ⟨rfl, by omega⟩
  clear hc
  go_enter Try.func63, Try.ntmps63
  go_wp2
  go_loop [0, 4] (fun v i => ∃ (k x : Nat), k ≤ 8 ∧ Hid (isRounds c k x) ∧ i = .int .i64 k ∧ v = .int .u32 x) (fun _ i => 8 - (intOf i).toNat)
  case atStart => exact ⟨0, c, by omega, HC, rfl, rfl⟩
  case round =>
    obtain ⟨k, x, hk, hx, rfl, rfl⟩ := hrel
    go_wp2
    · obtain ⟨y, hy, hr⟩ := isRounds_odd hx.out ‹_›
      go_round
      case rel => exact ⟨k + 1, y, by omega, hr, by go_num, hy⟩
      case measure => simp [intOf]; omega
    · obtain ⟨y, hy, hr⟩ := isRounds_even hx.out ‹_›
      go_round
      case rel => exact ⟨k + 1, y, by omega, hr, by go_num, hy⟩
      case measure => simp [intOf]; omega
    · have h8 : k = 8 := by omega
      subst h8
      have hx' := hx.out.1
      subst hx'
      go_ret
      exact ⟨rfl, rfl⟩

theorem xor_full (c : Nat) (h : c < 2 ^ 32) : bits .xor .u32 IntKind.u32.max (c : Int) = ((c ^^^ CrcM.full : Nat) : Int) := by
  rw [show IntKind.u32.max = ((4294967295 : Nat) : Int) from rfl, u32_xor_nat 4294967295 c (by decide) h, Nat.xor_comm]; rfl
theorem xor_byte (c : Nat) (x : UInt8) (h : c < 2 ^ 32) : bits .xor .u32 (c : Int) (x.toNat : Int) = ((c ^^^ x.toNat : Nat) : Int) :=
  u32_xor_nat c x.toNat h (CrcM.byte_lt x)

def isReg (s k r : Nat) (l : List UInt8) : Prop := r = CrcM.reg (s ^^^ CrcM.full) (l.take k) ∧ r < 2 ^ 32
theorem isReg_next {s k r : Nat} {l : List UInt8} (h : isReg s k r l) (hk : k < l.length) : isReg s (k + 1) (CrcM.step (r ^^^ l[k].toNat)) l := by
  obtain ⟨e, hl⟩ := h
  refine ⟨?_, CrcM.step_lt _ (CrcM.xor_lt _ _ _ hl (CrcM.byte_lt _))⟩
  rw [List.take_succ_eq_append_getElem hk, CrcM.reg_append, ← e]; rfl
set_option maxHeartbeats 400000 in
theorem add_any (s : Nat) (hs : s < 2 ^ 32) (B n cap : Nat) (A : Option Addr) (l : List UInt8) (w : World) (hl : Row w B A n (bv l)) (hn : n ≤ 9223372036854775807) :
    Calls Try.prog 61 #[.int .u32 (s : Int), .slice A n cap] w fun e w' => e = .returned (.int .u32 (CrcM.add s l : Nat)) ∧ w = w' := by
  have HS : Hid (isReg s 0 (s ^^^ CrcM.full) l) := ⟨rfl, CrcM.xor_lt _ _ _ hs CrcM.full_lt⟩
  have HX := Lib.hid (xor_full s hs)
  have HN := Lib.hid hl.blen
  clear hs
  go_enter Try.func61, Try.ntmps61
  go_wp2
  go_loop [5, 12] (fun v i => ∃ (k r : Nat), k ≤ n ∧ Hid (isReg s k r l) ∧ i = .int .i64 k ∧ v = .int .u32 r) (fun _ i => n - (intOf i).toNat)
  case atStart => exact ⟨0, s ^^^ CrcM.full, by omega, HS, rfl, by rw [HX.out]⟩
  case round =>
    obtain ⟨k, r, hk, hr, rfl, rfl⟩ := hrel
    by_cases hlt : k < n
    · obtain ⟨b, o, rfl, _, hkl, hcell⟩ := hl.byteAt hlt
      have HY := Lib.hid (xor_byte r l[k] hr.out.2)
      have HZ : Hid (r ^^^ l[k].toNat < 2 ^ 32) := CrcM.xor_lt _ _ _ hr.out.2 (CrcM.byte_lt _)
      have hb : (l[k].toNat : Int) ≤ 255 := by have := CrcM.b_lt l[k]; omega
      go_wp2_with fail
      rw [HY.out]
      refine (step_any _ HZ.out _).mono ?_
      rintro e w' ⟨rfl, rfl⟩
      go_wp2
      go_round
      case rel => exact ⟨k + 1, _, by omega, isReg_next hr.out hkl, by go_num, rfl⟩
      case measure => simp [intOf]; omega
    · have : k = n := by omega
      subst this
      have HY := Lib.hid (xor_full r hr.out.2)
      go_wp2
      go_ret
      refine ⟨?_, rfl⟩
      rw [HY.out]
      have e := hr.out.1
      rw [List.take_of_length_le (by rw [HN.out]; omega)] at e
      rw [e]; rfl
theorem sum_any (B n cap : Nat) (A : Option Addr) (l : List UInt8) (w : World) (hl : Row w B A n (bv l)) (hn : n ≤ 9223372036854775807) :
    Calls Try.prog 58 #[.slice A n cap] w fun e w' => e = .returned (.int .u32 (CrcM.sum l : Nat)) ∧ w = w' := by
  go_enter Try.func58, Try.ntmps58
  go_wp2_with fail
  refine (add_any 0 (by decide) B n cap A l _ hl hn).mono ?_
  rintro e w' ⟨rfl, rfl⟩
  go_wp2
  go_ret
  exact ⟨rfl, rfl⟩
end Go.Proofs.Ytekaoodagaplmaa
