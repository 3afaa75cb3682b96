/- VecSets: what is set is there, what is not is not; set and let go again it is as it was. -/
import Derived.Test.YtmaiekkjnaadnaaDoorVecTwiceW
namespace Go.Proofs.YtmaiekkjnaadnaaDoor
open Go.RowKit
open VecM
theorem L_snoc (X n : Nat) : L X (n + 1) = L X n ++ (if X.testBit n then [n] else []) := by
  unfold L
  rw [List.range_succ, List.filter_append]
  congr 1
  cases h : X.testBit n <;> simp [h]
theorem set_bit (X i j : Nat) : (X ||| 2 ^ i).testBit j = (X.testBit j || decide (i = j)) := by rw [Nat.testBit_or, Nat.testBit_two_pow]
theorem L_set (X i : Nat) (h : X.testBit i = false) : ∀ n, (L (X ||| 2 ^ i) n).length = (L X n).length + if i < n then 1 else 0
  | 0 => rfl
  | n + 1 => by
    rw [L_snoc, L_snoc, List.length_append, List.length_append, L_set X i h n, set_bit]
    by_cases e : i = n
    · subst e
      simp [h]
    · by_cases h1 : i < n
      · have h2 : i < n + 1 := by omega
        simp only [e, h1, h2, decide_false, Bool.or_false, if_true]; omega
      · have h2 : ¬ i < n + 1 := by omega
        simp only [e, h1, h2, decide_false, Bool.or_false, if_false]; omega
theorem set_clr (X i : Nat) (h : X.testBit i = true) : clr X i ||| 2 ^ i = X := by
  apply Nat.eq_of_testBit_eq; intro j
  rw [set_bit, clr_bit]
  by_cases e : i = j
  · subst e; simp [h]
  · have e2 : j ≠ i := fun e' => e e'.symm
    simp [e, e2]
theorem clr_set (X i : Nat) (h : X.testBit i = false) : clr (X ||| 2 ^ i) i = X := by
  apply Nat.eq_of_testBit_eq; intro j
  rw [clr_bit, set_bit]
  by_cases e : i = j
  · subst e; simp [h]
  · have e2 : j ≠ i := fun e' => e e'.symm
    simp [e, e2]
/-- the other way round, and back -/
theorem put_facts (X i : Nat) (b : Bool) (h : X.testBit i = b) (hi : i < 256) : (put X i (!b)).testBit i = (!b) ∧ X ≠ put X i (!b) ∧ put (put X i (!b)) i b = X ∧ (if b then (Ls (put X i (!b))).length + 1 = (Ls X).length else (Ls (put X i (!b))).length = (Ls X).length + 1) := by
  cases b with
  | true =>
    have e : put X i (!true) = clr X i := rfl
    rw [e]
    have h1 : (clr X i).testBit i = false := by rw [clr_bit]; simp
    refine ⟨h1, fun e => ?_, set_clr X i h, ?_⟩
    · rw [← e, h] at h1; cases h1
    · have h2 := L_set (clr X i) i h1 256
      rw [set_clr X i h, if_pos hi] at h2
      exact h2.symm
  | false =>
    have e : put X i (!false) = X ||| 2 ^ i := rfl
    rw [e]
    have h1 : (X ||| 2 ^ i).testBit i = true := by rw [set_bit]; simp
    refine ⟨h1, fun e => ?_, clr_set X i h, ?_⟩
    · rw [← e, h] at h1; cases h1
    · have h2 := L_set X i h 256
      rw [if_pos hi] at h2
      exact h2
set_option maxRecDepth 100000 in
set_option maxHeartbeats 3200000 in
theorem vecSets_walk (n0 : Int) (_ : -9223372036854775808 ≤ n0) (_ : n0 ≤ 9223372036854775807) (A1 : Option Addr) (n1 c1 : Nat) (zs1 : List Int) (i0 : Int) (_ : -9223372036854775808 ≤ i0) (_ : i0 ≤ 9223372036854775807) (w : World) (ht : DTab w)
    (_ : n1 ≤ c1) (_ : c1 ≤ 9223372036854775807) (h1 : NumsIn w A1 n1 zs1) :
    Calls Tryd.prog 6 #[.int .i64 n0, .slice A1 n1 c1, .int .i64 i0] w fun e w' => e = .returned (.bool true) ∧ Below w.heap.size w w' := by
  have HB0 := Lib.hid (Bag.start w ht)
  have HAW := Lib.hid (awake5_any w ht)
  have HR1 := Lib.hid (row_of_nums h1)
  clear ht h1
  by_cases hb1 : 300 < n1
  · go_enter Tryd.func6, Tryd.ntmps6
    go_wp2_with fail
    refine HAW.out.mono ?_
    rintro e w1 ⟨rfl, hb⟩
    go_wp2_with fail
    go_ret
    exact ⟨rfl, hb.out⟩
  obtain ⟨p, hp, hpp⟩ := pick_in n0 256 (by omega) (by omega)
  obtain ⟨n, hn⟩ : ∃ n, p + 1 = n := ⟨_, rfl⟩
  obtain ⟨i, hi, hip⟩ := pick_in i0 (n : Int) (by omega) (by omega)
  have HPP := Lib.hid hpp
  have HIP := Lib.hid hip
  have hn2 : n ≤ 256 := by omega
  have hn1 : 1 ≤ n := by omega
  have hp2 : p ≤ 255 := by omega
  have hin : i < n := by omega
  have HN1 : Hid (1 + (p : Int) = (n : Int)) := by show _ = _; omega
  generalize (List.range n1).map (fun i => zs1.getD i 0) = l1 at *
  have HO1 := Lib.hid (fun (W : World) (l : List VV) (b : Bag w W l) => bag_of (c := c1) b HR1.out (by omega) hn2)
  have HX := Lib.hid (ofL_lt (n := n) l1)
  generalize ofL n l1 = X at *
  obtain ⟨b, hb⟩ : ∃ b, X.testBit i = b := ⟨_, rfl⟩
  obtain ⟨f1, f2, f3, f4⟩ := put_facts X i b hb (by omega)
  obtain ⟨Z, hZ⟩ : ∃ Z, put X i (!b) = Z := ⟨_, rfl⟩
  have HHX := Lib.hid (fun (W : World) (l : List VV) (g h k : Nat) (c : Bag w W l) (hk : l[k]? = some ⟨g, h, n, X⟩) => bag_has k c hk hin)
  have HSX := Lib.hid (fun (W : World) (l : List VV) (g h k : Nat) (c : Bag w W l) (hk : l[k]? = some ⟨g, h, n, X⟩) => bag_set k c hk hin (!b))
  rw [hZ] at HSX f1 f2 f3 f4
  have HHZ := Lib.hid (fun (W : World) (l : List VV) (g h k : Nat) (c : Bag w W l) (hk : l[k]? = some ⟨g, h, n, Z⟩) => bag_has k c hk hin)
  have HSZ := Lib.hid (fun (W : World) (l : List VV) (g h k : Nat) (c : Bag w W l) (hk : l[k]? = some ⟨g, h, n, Z⟩) => bag_set k c hk hin b)
  rw [f3] at HSZ
  rw [hb] at HHX
  rw [f1] at HHZ
  have HNE : Hid (decide (X = Z) = false) := by show _ = _; simpa using f2
  have hlx := ls_lt X
  have hlz := ls_lt Z
  have HCX := Lib.hid (fun (W : World) (l : List VV) (g h k : Nat) (c : Bag w W l) (hk : l[k]? = some ⟨g, h, n, X⟩) => bag_count k c hk)
  have HCZ := Lib.hid (fun (W : World) (l : List VV) (g h k : Nat) (c : Bag w W l) (hk : l[k]? = some ⟨g, h, n, Z⟩) => bag_count k c hk)
  generalize (Ls X).length = qx at *
  generalize (Ls Z).length = qz at *
  have HIN := Lib.hid hin
  clear hpp hp hip hi HR1 HAW hn hb f1 f2 f3 hZ
  have hd : ∃ d : Int, (qz : Int) - (qx : Int) = d ∧ (if b then d = -1 else d = 1) := ⟨_, rfl, by cases b <;> simp at f4 ⊢ <;> omega⟩
  obtain ⟨d, hd, hdb⟩ := hd
  have HD := Lib.hid hd
  clear hd f4
  cases b
  all_goals
    simp at hdb
    subst hdb
    go_enter Tryd.func6, Tryd.ntmps6
    go_wp2_with (first | rw [HPP.out] | rw [HN1.out] | rw [HIP.out])
    refine (HO1.out _ _ HB0.out).mono ?_
    rintro e w1 ⟨g1, k1, rfl, HB1⟩
    clear HB0 HO1
    go_wp2_with fail
    refine (bag_copy 0 HB1.out rfl).mono ?_
    rintro e w3 ⟨g3, k3, rfl, HB3⟩
    clear HB1
    go_wp2_with fail
    refine (HHX.out _ _ _ _ 0 HB3.out rfl).mono ?_
    rintro e w4 ⟨rfl, HB4⟩
    clear HB3
    go_wp2_with fail
    refine (HSX.out _ _ _ _ 1 HB4.out rfl).mono ?_
    rintro e w5 ⟨rfl, HB5⟩
    clear HB4
    go_wp2_with fail
    refine (HHZ.out _ _ _ _ 1 HB5.out rfl).mono ?_
    rintro e w6 ⟨rfl, HB6⟩
    clear HB5
    go_wp2_with fail
    have HS := Lib.hid (bag_same 0 1 HB6.out rfl rfl)
    rw [HNE.out] at HS
    refine HS.out.mono ?_
    rintro e w7 ⟨rfl, HB7⟩
    clear HB6 HS
    go_wp2_with fail
    refine (HCZ.out _ _ _ _ 1 HB7.out rfl).mono ?_
    rintro e w8 ⟨rfl, HB8⟩
    clear HB7
    go_wp2_with fail
    refine (HCX.out _ _ _ _ 0 HB8.out rfl).mono ?_
    rintro e w9 ⟨rfl, HB9⟩
    clear HB8
    go_wp2_with (rw [HD.out])
    refine (HSZ.out _ _ _ _ 1 HB9.out rfl).mono ?_
    rintro e w10 ⟨rfl, HB10⟩
    clear HB9
    go_wp2_with fail
    have HS := Lib.hid (bag_same 0 1 HB10.out rfl rfl)
    rw [show decide (X = X) = true by simp] at HS
    refine HS.out.mono ?_
    rintro e w11 ⟨rfl, HB11⟩
    clear HB10 HS
    go_wp2_with fail
    refine (bag_set_out 1 HB11.out rfl (n : Int) true (by omega)).mono ?_
    rintro e w12 ⟨rfl, HB12⟩
    clear HB11
    go_wp2_with fail
    refine (bag_set_out 1 HB12.out rfl (-1) true (by omega)).mono ?_
    rintro e w13 ⟨rfl, HB13⟩
    clear HB12
    go_wp2_with fail
    have HS := Lib.hid (bag_same 0 1 HB13.out rfl rfl)
    rw [show decide (X = X) = true by simp] at HS
    refine HS.out.mono ?_
    rintro e w14 ⟨rfl, HB14⟩
    clear HB13 HS
    go_wp2_with fail
    refine (bag_awake HB14.out).mono ?_
    rintro e w20 ⟨rfl, HB20⟩
    clear HB14
    go_wp2_with fail
    go_ret
    exact ⟨rfl, HB20.out.below⟩
end Go.Proofs.YtmaiekkjnaadnaaDoor
