/- VecTwice: xor twice is nothing; in either order it is the same; bytes are read as they were. -/
import Derived.Test.YtmaiekkjnaadnaaDoorVecAwake
import Derived.Test.YtmaiekkjnaadnaaDoorLawNums
namespace Go.Proofs.YtmaiekkjnaadnaaDoor
open Go.RowKit
open VecM
/-- numbers that came in -/
def NumsIn (w : World) (A : Option Addr) (n : Nat) (zs : List Int) : Prop :=
  ∀ i, i < n → ∃ b o, A = some ⟨b, o, none⟩ ∧ b < w.heap.size ∧ w.cell? ⟨b, o + i, none⟩ = some (.int .i64 (zs.getD i 0)) ∧ -9223372036854775808 ≤ zs.getD i 0 ∧ zs.getD i 0 ≤ 9223372036854775807
theorem row_of_nums {w : World} {A : Option Addr} {n : Nat} {zs : List Int} (h : NumsIn w A n zs) : Row w w.heap.size A n (nv ((List.range n).map fun i => zs.getD i 0)) := by
  refine ⟨by simp [nv], fun hn => ?_⟩
  obtain ⟨b, o, e, hb, _⟩ := h 0 hn
  refine ⟨b, o, e, hb, fun j u hu => ?_⟩
  have hj : j < n := by have := (List.getElem?_eq_some_iff.1 hu).1; simpa [nv] using this
  obtain ⟨b2, o2, e2, _, hc, _⟩ := h j hj
  rw [e] at e2
  injection e2 with e2
  injection e2 with e3 e4
  subst e3 e4
  rw [hc, ← hu]
  simp [nv, hj]
theorem xor_back (X Y : Nat) : X ^^^ Y ^^^ Y = X := by rw [Nat.xor_assoc, Nat.xor_self, Nat.xor_zero]
theorem xor_zero_iff (X Y : Nat) : X ^^^ Y = 0 ↔ X = Y := by
  constructor
  · intro h
    have := xor_back X Y
    rw [h, Nat.zero_xor] at this
    exact this.symm
  · rintro rfl; exact Nat.xor_self X
theorem ls_zero {X n : Nat} (hX : X < 2 ^ n) (hn : n ≤ 256) : (Ls X).length = 0 ↔ X = 0 := by
  constructor
  · intro h
    exact L_nil (n := 256) (Nat.lt_of_lt_of_le hX (Nat.pow_le_pow_right (by decide) hn)) (List.eq_nil_of_length_eq_zero h)
  · rintro rfl; unfold Ls; rw [L_zero]; rfl
set_option maxRecDepth 100000 in
set_option maxHeartbeats 3200000 in
theorem vecTwice_walk (n0 : Int) (_ : -9223372036854775808 ≤ n0) (_ : n0 ≤ 9223372036854775807) (A1 : Option Addr) (n1 c1 : Nat) (zs1 : List Int) (A2 : Option Addr) (n2 c2 : Nat) (zs2 : List Int) (w : World) (ht : DTab w)
    (_ : n1 ≤ c1) (_ : c1 ≤ 9223372036854775807) (h1 : NumsIn w A1 n1 zs1) (_ : n2 ≤ c2) (_ : c2 ≤ 9223372036854775807) (h2 : NumsIn w A2 n2 zs2) :
    Calls Tryd.prog 5 #[.int .i64 n0, .slice A1 n1 c1, .slice A2 n2 c2] w fun e w' => e = .returned (.bool true) ∧ Below w.heap.size w w' := by
  have HB0 := Lib.hid (Bag.start w ht)
  have HAW := Lib.hid (awake5_any w ht)
  have HR1 := Lib.hid (row_of_nums h1)
  have HR2 := Lib.hid (row_of_nums h2)
  clear ht h1 h2
  by_cases hb1 : 300 < n1
  · go_enter Tryd.func5, Tryd.ntmps5
    go_wp2_with fail
    refine HAW.out.mono ?_
    rintro e w1 ⟨rfl, hb⟩
    go_wp2_with fail
    go_ret
    exact ⟨rfl, hb.out⟩
  by_cases hb2 : 300 < n2
  · go_enter Tryd.func5, Tryd.ntmps5
    go_wp2_with fail
    refine HAW.out.mono ?_
    rintro e w1 ⟨rfl, hb⟩
    go_wp2_with fail
    go_ret
    exact ⟨rfl, hb.out⟩
  obtain ⟨n, hn, hnp⟩ := pick_in n0 257 (by omega) (by omega)
  have HNP := Lib.hid hnp
  have hn2 : n ≤ 256 := by omega
  generalize (List.range n1).map (fun i => zs1.getD i 0) = l1 at *
  generalize (List.range n2).map (fun i => zs2.getD i 0) = l2 at *
  have HO1 := Lib.hid (fun (W : World) (l : List VV) (b : Bag w W l) => bag_of (c := c1) b HR1.out (by omega) hn2)
  have HO2 := Lib.hid (fun (W : World) (l : List VV) (b : Bag w W l) => bag_of (c := c2) b HR2.out (by omega) hn2)
  have HX := Lib.hid (ofL_lt (n := n) l1)
  have HY := Lib.hid (ofL_lt (n := n) l2)
  generalize ofL n l1 = X at *
  generalize ofL n l2 = Y at *
  have HN2 := Lib.hid hn2
  clear hnp hn HR1 HR2 HAW hn2
  go_enter Tryd.func5, Tryd.ntmps5
  go_wp2_with (rw [HNP.out])
  refine (HO1.out _ _ HB0.out).mono ?_
  rintro e w1 ⟨g1, k1, rfl, HB1⟩
  clear HB0 HO1
  go_wp2_with fail
  refine (HO2.out _ _ HB1.out).mono ?_
  rintro e w2 ⟨g2, k2, rfl, HB2⟩
  clear HB1 HO2
  go_wp2_with fail
  refine (bag_copy 0 HB2.out rfl).mono ?_
  rintro e w3 ⟨g3, k3, rfl, HB3⟩
  clear HB2
  go_wp2_with fail
  refine (bag_copy 1 HB3.out rfl).mono ?_
  rintro e w4 ⟨g4, k4, rfl, HB4⟩
  clear HB3
  go_wp2_with fail
  refine (bag_xor 2 1 HB4.out (by decide) rfl rfl).mono ?_
  rintro e w5 ⟨rfl, HB5⟩
  clear HB4
  go_wp2_with fail
  refine (bag_xor 3 0 HB5.out (by decide) rfl rfl).mono ?_
  rintro e w6 ⟨rfl, HB6⟩
  clear HB5
  go_wp2_with fail
  have HS := Lib.hid (bag_same 2 3 HB6.out rfl rfl)
  rw [show decide (X ^^^ Y = Y ^^^ X) = true by rw [Nat.xor_comm]; simp] at HS
  refine HS.out.mono ?_
  rintro e w7 ⟨rfl, HB7⟩
  clear HB6 HS
  go_wp2_with fail
  refine (bag_copy 2 HB7.out rfl).mono ?_
  rintro e w8 ⟨g5, k5, rfl, HB8⟩
  clear HB7
  go_wp2_with fail
  refine (bag_xor 4 1 HB8.out (by decide) rfl rfl).mono ?_
  rintro e w9 ⟨rfl, HB9⟩
  clear HB8
  go_wp2_with fail
  have HS := Lib.hid (bag_same 4 0 HB9.out rfl rfl)
  rw [show decide (X ^^^ Y ^^^ Y = X) = true by rw [xor_back]; simp] at HS
  refine HS.out.mono ?_
  rintro e w10 ⟨rfl, HB10⟩
  clear HB9 HS
  go_wp2_with fail
  have HS := Lib.hid (bag_same 0 1 HB10.out rfl rfl)
  have HC := Lib.hid (fun (W : World) (l : List VV) (g h i : Nat) (b : Bag w W l) (hi : l[i]? = some ⟨g, h, n, X ^^^ Y⟩) => bag_count i b hi)
  have hq : (((Ls (X ^^^ Y)).length : Int) == 0) = decide (X = Y) := by
    have h1 := ls_zero (Nat.xor_lt_two_pow HX.out HY.out) HN2.out
    have h2 := xor_zero_iff X Y
    by_cases h : X = Y
    · have h3 := h1.2 (h2.2 h)
      rw [h3]; simp [h]
    · have h3 : ¬ (Ls (X ^^^ Y)).length = 0 := fun e => h (h2.1 (h1.1 e))
      generalize (Ls (X ^^^ Y)).length = q at *
      have h4 : ((q : Int) == 0) = false := by simp; omega
      rw [h4]; simp [h]
  obtain ⟨q, hqq⟩ : ∃ q, (Ls (X ^^^ Y)).length = q := ⟨_, rfl⟩
  rw [hqq] at HC hq
  generalize decide (X = Y) = B at *
  clear hqq
  refine HS.out.mono ?_
  rintro e w11 ⟨rfl, HB11⟩
  clear HB10 HS
  cases B with
  | true =>
    obtain rfl : q = 0 := by simp at hq; omega
    clear hq
    go_wp2_with fail
    refine (HC.out _ _ _ _ 2 HB11.out rfl).mono ?_
    rintro e w12 ⟨rfl, HB12⟩
    clear HB11 HC
    go_wp2_with fail
    refine (bag_bytes 0 HB12.out rfl).mono ?_
    rintro e w13 ⟨A, m, c, rfl, hm, hrow, HB13⟩
    clear HB12
    have hm9 : m ≤ 4611686018427387904 := by have := hm.out; rw [this, bl_length]; have := HN2.out; unfold bw; omega
    have HF := Lib.hid (bag_from (c := c) HB13.out hrow.out hm9 HN2.out (fits_bl HX.out))
    rw [frN_bl HX.out] at HF
    clear hrow hm hm9 HB13
    go_wp2_with fail
    refine HF.out.mono ?_
    rintro e w14 ⟨g6, k6, rfl, HB14⟩
    clear HF
    go_wp2_with fail
    have HS := Lib.hid (bag_same 5 0 HB14.out rfl rfl)
    rw [show decide (X = X) = true by simp] at HS
    refine HS.out.mono ?_
    rintro e w15 ⟨rfl, HB15⟩
    clear HB14 HS
    go_wp2_with fail
    refine (bag_first 2 HB15.out rfl).mono ?_
    rintro e w16 ⟨rfl, HB16⟩
    clear HB15
    go_wp2_with fail
    refine (bag_list 2 HB16.out rfl).mono ?_
    rintro e w17 ⟨A, c, rfl, hrow, HB17⟩
    clear HB16
    go_wp2_with fail
    refine (firstL_any (X ^^^ Y) A c _ w17 hrow.out).mono ?_
    rintro e w' ⟨rfl, rfl⟩
    clear hrow
    go_wp2_with fail
    refine (bag_awake HB17.out).mono ?_
    rintro e w20 ⟨rfl, HB20⟩
    clear HB17
    go_wp2_with fail
    go_ret
    exact ⟨rfl, HB20.out.below⟩
  | false =>
    go_wp2_with fail
    refine (HC.out _ _ _ _ 2 HB11.out rfl).mono ?_
    rintro e w12 ⟨rfl, HB12⟩
    clear HB11 HC
    go_wp2_with fail
    clear hq
    refine (bag_bytes 0 HB12.out rfl).mono ?_
    rintro e w13 ⟨A, m, c, rfl, hm, hrow, HB13⟩
    clear HB12
    have hm9 : m ≤ 4611686018427387904 := by have := hm.out; rw [this, bl_length]; have := HN2.out; unfold bw; omega
    have HF := Lib.hid (bag_from (c := c) HB13.out hrow.out hm9 HN2.out (fits_bl HX.out))
    rw [frN_bl HX.out] at HF
    clear hrow hm hm9 HB13
    go_wp2_with fail
    refine HF.out.mono ?_
    rintro e w14 ⟨g6, k6, rfl, HB14⟩
    clear HF
    go_wp2_with fail
    have HS := Lib.hid (bag_same 5 0 HB14.out rfl rfl)
    rw [show decide (X = X) = true by simp] at HS
    refine HS.out.mono ?_
    rintro e w15 ⟨rfl, HB15⟩
    clear HB14 HS
    go_wp2_with fail
    refine (bag_first 2 HB15.out rfl).mono ?_
    rintro e w16 ⟨rfl, HB16⟩
    clear HB15
    go_wp2_with fail
    refine (bag_list 2 HB16.out rfl).mono ?_
    rintro e w17 ⟨A, c, rfl, hrow, HB17⟩
    clear HB16
    go_wp2_with fail
    refine (firstL_any (X ^^^ Y) A c _ w17 hrow.out).mono ?_
    rintro e w' ⟨rfl, rfl⟩
    clear hrow
    go_wp2_with fail
    refine (bag_awake HB17.out).mono ?_
    rintro e w20 ⟨rfl, HB20⟩
    clear HB17
    go_wp2_with fail
    go_ret
    exact ⟨rfl, HB20.out.below⟩
end Go.Proofs.YtmaiekkjnaadnaaDoor
