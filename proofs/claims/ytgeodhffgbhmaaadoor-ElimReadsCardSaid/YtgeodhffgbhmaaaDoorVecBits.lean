/- math/bits' TrailingZeros64 and OnesCount64; vec's First, Count, List: by contract. -/
import Derived.Test.YtgeodhffgbhmaaaDoorVecSet
namespace Go.Proofs.YtgeodhffgbhmaaaDoor.Vc
open Go.RowKit
open VecM
/-- the library's table, as its initialiser lays it -/
def DTab (W : World) : Prop := 0 < W.heap.size ∧ ∀ j, j < 64 → W.cell? ⟨0, j, none⟩ = some (.int .u8 (Lib.deBruijn64tab.getD j 0 : Nat))
theorem DTab.below {W W' : World} {B : Nat} (h : DTab W) (hb : Below B W W') (hB : 0 < B) : DTab W' :=
  ⟨by have := h.1; have := hb.size; omega, fun j hj => by rw [hb.cell (p := ⟨0, j, none⟩) hB]; exact h.2 j hj⟩
theorem DTab.grow {W W' : World} (h : DTab W) (hb : Below W.heap.size W W') : DTab W' := h.below hb h.1
theorem DTab.grown {W W' : World} {r : Nat} (h : DTab W) (hg : W.grownBy W' (some r)) (hr : r ≠ 0) : DTab W' :=
  ⟨by have := h.1; have := hg.size; omega, fun j hj => by
    rw [World.cell?_of_block (w := W) (a := ⟨0, j, none⟩) (hg.block _ h.1 (fun e => hr (Option.some.inj e.symm ▸ rfl)))]; exact h.2 j hj⟩
theorem wrap_u32'' (n : Int) : IntKind.u64.wrap n = n % 18446744073709551616 := IntKind.wrap_u64 n
theorem tz_key (x a : Nat) (hx : x < 18446744073709551616) (hx0 : x ≠ 0) (hlow : x &&& (18446744073709551616 - x) = a) :
    IntKind.u64.wrap (bits BinOp.and IntKind.u64 (x : Int) (IntKind.u64.wrap (-(x : Int))) * 285870213051353865) / 288230376151711744 = ((a * 285870213051353865 % 18446744073709551616 / 288230376151711744 : Nat) : Int) := by
  have e1 : IntKind.u64.wrap (-(x : Int)) = ((18446744073709551616 - x : Nat) : Int) := by rw [IntKind.wrap_u64]; omega
  rw [e1, u64_and_nat x _ hx (by omega), hlow, IntKind.wrap_u64]
  omega
set_option maxHeartbeats 1000000 in
theorem tz_core (x k idx : Nat) (w : World) (hx0 : ((x : Int) == 0) = false)
    (key : IntKind.u64.wrap (bits BinOp.and IntKind.u64 (x : Int) (IntKind.u64.wrap (-(x : Int))) * 285870213051353865) / 288230376151711744 = (idx : Int))
    (hi : idx < 64) (hk : k < 64) (hcell : w.cell? ⟨0, idx, none⟩ = some (.int .u8 k)) :
    Calls Tryd.prog 54 #[.int .u64 x] w fun e w' => e = .returned (.int .i64 k) ∧ w = w' := by
  go_enter Tryd.func54, Tryd.ntmps54
  go_wp2_with (simp only [key])
  go_ret
  exact ⟨rfl, rfl⟩
theorem tz_any (x : Nat) (w : World) (ht : DTab w) (hx : x < 2 ^ 64) (h0 : x ≠ 0) : Calls Tryd.prog 54 #[.int .u64 (x : Int)] w fun e w' => e = .returned (.int .i64 (Lib.ctz 64 x : Int)) ∧ w = w' := by
  obtain ⟨hlow, hk⟩ := Lib.lowest_bit 64 x h0 hx
  obtain ⟨hi, htab⟩ := Lib.deBruijn64_at _ hk
  have hcell := ht.2 _ hi
  rw [htab] at hcell
  exact tz_core x _ _ w (by simp; omega) (tz_key x _ hx h0 hlow) hi hk hcell
theorem e_s1 (x : Nat) (hx : x < 2 ^ 64) : IntKind.u64.wrap (bits BinOp.and IntKind.u64 ((x : Int) / 2) 6148914691236517205 + bits BinOp.and IntKind.u64 (x : Int) 6148914691236517205) = (s1 x : Int) ∧ s1 x < 2 ^ 64 := by
  have h1 : x / 2 &&& 6148914691236517205 ≤ 6148914691236517205 := Nat.and_le_right
  have h2 : x &&& 6148914691236517205 ≤ 6148914691236517205 := Nat.and_le_right
  have a1 := u64_and_nat (x / 2) 6148914691236517205 (by omega) (by decide)
  have a2 := u64_and_nat x 6148914691236517205 (by omega) (by decide)
  have e : ((x / 2 : Nat) : Int) = (x : Int) / 2 := by omega
  rw [e] at a1
  have a1' : bits BinOp.and IntKind.u64 ((x : Int) / 2) 6148914691236517205 = ((x / 2 &&& 6148914691236517205 : Nat) : Int) := a1
  have a2' : bits BinOp.and IntKind.u64 (x : Int) 6148914691236517205 = ((x &&& 6148914691236517205 : Nat) : Int) := a2
  rw [a1', a2', IntKind.wrap_u64]
  unfold s1
  omega
theorem e_s2 (x : Nat) (hx : x < 2 ^ 64) : IntKind.u64.wrap (bits BinOp.and IntKind.u64 ((x : Int) / 4) 3689348814741910323 + bits BinOp.and IntKind.u64 (x : Int) 3689348814741910323) = (s2 x : Int) ∧ s2 x ≤ 7378697629483820646 := by
  have h1 : x / 4 &&& 3689348814741910323 ≤ 3689348814741910323 := Nat.and_le_right
  have h2 : x &&& 3689348814741910323 ≤ 3689348814741910323 := Nat.and_le_right
  have a1 := u64_and_nat (x / 4) 3689348814741910323 (by omega) (by decide)
  have a2 := u64_and_nat x 3689348814741910323 (by omega) (by decide)
  have e : ((x / 4 : Nat) : Int) = (x : Int) / 4 := by omega
  rw [e] at a1
  have a1' : bits BinOp.and IntKind.u64 ((x : Int) / 4) 3689348814741910323 = ((x / 4 &&& 3689348814741910323 : Nat) : Int) := a1
  have a2' : bits BinOp.and IntKind.u64 (x : Int) 3689348814741910323 = ((x &&& 3689348814741910323 : Nat) : Int) := a2
  rw [a1', a2', IntKind.wrap_u64]
  unfold s2
  omega
theorem e_s3 (x : Nat) (hx : x ≤ 7378697629483820646) : bits BinOp.and IntKind.u64 (IntKind.u64.wrap ((x : Int) / 16 + (x : Int))) 1085102592571150095 = (s3 x : Int) ∧ s3 x ≤ 1085102592571150095 := by
  have h1 : (x / 16 + x) &&& 1085102592571150095 ≤ 1085102592571150095 := Nat.and_le_right
  have e : IntKind.u64.wrap ((x : Int) / 16 + (x : Int)) = ((x / 16 + x : Nat) : Int) := by rw [IntKind.wrap_u64]; omega
  rw [e]
  have a1 := u64_and_nat (x / 16 + x) 1085102592571150095 (by omega) (by decide)
  exact ⟨a1, h1⟩
theorem e_add (T d : Nat) (D : Int) (hD : (d : Int) = D) (h : T + T / d < 2 ^ 64) : IntKind.u64.wrap ((T : Int) + (T : Int) / D) = ((T + T / d : Nat) : Int) := by
  subst hD
  rw [IntKind.wrap_u64, show (T : Int) / (d : Int) = ((T / d : Nat) : Int) by rw [Int.natCast_ediv]]
  generalize T / d = q at *
  omega
theorem e_127 (T : Nat) (h : T < 9223372036854775808) : bits BinOp.and IntKind.i64 (T : Int) 127 = ((T % 128 : Nat) : Int) := by
  have e : T &&& 127 = T % 128 := Nat.and_two_pow_sub_one_eq_mod T 7
  have h1 : (BitVec.ofInt 64 (T : Int)).toNat = T := by
    rw [BitVec.ofInt_natCast, BitVec.toNat_ofNat]; exact Nat.mod_eq_of_lt (by omega)
  have h2 : (BitVec.ofInt 64 (127 : Int)).toNat = 127 := by rfl
  show IntKind.i64.wrap ((BitVec.ofInt 64 (T : Int) &&& BitVec.ofInt 64 (127 : Int)).toNat : Int) = _
  rw [BitVec.toNat_and, h1, h2, e]
  exact IntWalk.i64_in _ (by omega)
set_option maxHeartbeats 1000000 in
theorem ones_any (x : Nat) (w : World) (hx : x < 2 ^ 64) : Calls Tryd.prog 57 #[.int .u64 (x : Int)] w fun e w' => e = .returned (.int .i64 (pop 64 x : Int)) ∧ w = w' := by
  obtain ⟨E1, b1⟩ := e_s1 x hx
  obtain ⟨y, hy⟩ : ∃ y, s1 x = y := ⟨_, rfl⟩
  rw [hy] at E1 b1
  obtain ⟨E2, b2⟩ := e_s2 y b1
  obtain ⟨z, hz⟩ : ∃ z, s2 y = z := ⟨_, rfl⟩
  rw [hz] at E2 b2
  obtain ⟨E3, b3⟩ := e_s3 z b2
  obtain ⟨T, hT, hs, hp⟩ := ones_all x
  rw [hy, hz] at hT
  rw [hT] at E3 b3
  have E4 := e_add T 256 256 rfl (by omega)
  obtain ⟨U, hU⟩ : ∃ U, T + T / 256 = U := ⟨_, rfl⟩
  rw [hU] at E4 hs hp
  have E5 := e_add U 65536 65536 rfl (by generalize U / 65536 = a at *; omega)
  obtain ⟨V, hV⟩ : ∃ V, U + U / 65536 = V := ⟨_, rfl⟩
  rw [hV] at E5 hs hp
  have E6 := e_add V 4294967296 4294967296 rfl hs
  obtain ⟨R, hR⟩ : ∃ R, V + V / 4294967296 = R := ⟨_, rfl⟩
  rw [hR] at E6 hs hp
  have hR63 : R < 9223372036854775808 := by omega
  have E7 := e_127 R hR63
  rw [hp] at E7
  have H1 := Lib.hid E1
  have H2 := Lib.hid E2
  have H3 := Lib.hid E3
  have H4 := Lib.hid E4
  have H5 := Lib.hid E5
  have H6 := Lib.hid E6
  have H7 := Lib.hid E7
  generalize pop 64 x = q at *
  clear E1 E2 E3 E4 E5 E6 E7 hx b1 b2 b3 hy hz hT hU hV hR hs hp
  have hR0 : (R : Int) ≤ 9223372036854775807 := by omega
  clear hR63
  go_enter Tryd.func57, Tryd.ntmps57
  go_wp2_with (first | rw [H1.out] | rw [H2.out] | rw [H3.out] | rw [H4.out] | rw [H5.out] | rw [H6.out] | rw [H7.out])
  go_ret
  exact ⟨rfl, rfl⟩
end Go.Proofs.YtgeodhffgbhmaaaDoor.Vc
