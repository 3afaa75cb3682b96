/- VecOrder: it is the same in whatever order its places are named, however often. -/
import Derived.Test.YtmaiekkjnaadnaaDoorVecTwiceW
import Derived.Test.YtmaiekkjnaadnaaDoorStepApp
namespace Go.Proofs.YtmaiekkjnaadnaaDoor
open Go.RowKit
open VecM
theorem foldl_bit (n j : Nat) : ∀ (l : List Int) (X : Nat), (l.foldl (setOne n) X).testBit j = (X.testBit j || (decide (j < n) && decide ((j : Int) ∈ l)))
  | [], X => by simp
  | z :: t, X => by
    rw [List.foldl_cons, foldl_bit n j t]
    unfold setOne
    by_cases hz : 0 ≤ z ∧ z < (n : Int)
    · rw [if_pos hz, Nat.testBit_or, Nat.testBit_two_pow]
      by_cases e : z.toNat = j
      · have h1 : (j : Int) = z := by omega
        have h2 : j < n := by omega
        simp [e, h1, h2]
      · have h1 : ¬ (j : Int) = z := by omega
        simp [e, h1]
    · rw [if_neg hz]
      by_cases h2 : j < n
      · have h1 : ¬ (j : Int) = z := by omega
        simp [h1]
      · simp [h2]
theorem ofL_bit (n j : Nat) (l : List Int) : (ofL n l).testBit j = (decide (j < n) && decide ((j : Int) ∈ l)) := by
  unfold ofL; rw [foldl_bit]; simp
theorem ofL_mem (n : Nat) (l m : List Int) (h : ∀ z, z ∈ l ↔ z ∈ m) : ofL n l = ofL n m := by
  apply Nat.eq_of_testBit_eq; intro j
  rw [ofL_bit, ofL_bit]
  simp [h]
theorem ofL_turn (n k : Nat) (l : List Int) : ofL n (l.drop k ++ l ++ l.take k) = ofL n l := by
  apply ofL_mem
  intro z
  simp only [List.mem_append]
  constructor
  · rintro ((h | h) | h)
    · exact List.mem_of_mem_drop h
    · exact h
    · exact List.mem_of_mem_take h
  · exact fun h => .inl (.inr h)
theorem ofL_Ls {X n : Nat} (hX : X < 2 ^ n) (hn : n ≤ 256) : ofL n ((Ls X).map fun i : Nat => (i : Int)) = X := by
  apply Nat.eq_of_testBit_eq; intro j
  rw [ofL_bit]
  by_cases h : j < n
  · have h1 : ((j : Int) ∈ (Ls X).map fun i : Nat => (i : Int)) ↔ X.testBit j = true := by
      simp only [List.mem_map]
      constructor
      · rintro ⟨i, hi, e⟩
        have : i = j := by omega
        subst this
        exact ((mem_L X 256 i).1 hi).2
      · exact fun h2 => ⟨j, (mem_L X 256 j).2 ⟨by omega, h2⟩, rfl⟩
    cases hb : X.testBit j with
    | true => simp only [h, decide_true, Bool.true_and, decide_eq_true_iff]; exact h1.2 hb
    | false => simp only [h, decide_true, Bool.true_and, decide_eq_false_iff_not]; exact fun h2 => by rw [h1.1 h2] at hb; cases hb
  · rw [Nat.testBit_lt_two_pow (Nat.lt_of_lt_of_le hX (Nat.pow_le_pow_right (by decide) (by omega)))]
    simp [h]
theorem nv_one (l : List Int) : ∀ u ∈ nv l, u.oneCell' = true := by
  intro u hu
  simp only [nv, List.mem_map] at hu
  obtain ⟨x, _, rfl⟩ := hu
  rfl
theorem nv_drop (l : List Int) (k : Nat) : (nv l).drop k = nv (l.drop k) := by simp [nv]
theorem nv_take (l : List Int) (k : Nat) : (nv l).take k = nv (l.take k) := by simp [nv]
set_option maxRecDepth 100000 in
set_option maxHeartbeats 3200000 in
theorem vecOrder_walk (n0 : Int) (_ : -9223372036854775808 ≤ n0) (_ : n0 ≤ 9223372036854775807) (A1 : Option Addr) (n1 c1 : Nat) (zs1 : List Int) (i0 : Int) (_ : -9223372036854775808 ≤ i0) (_ : i0 ≤ 9223372036854775807) (w : World) (ht : DTab w)
    (hnc : n1 ≤ c1) (hcm : c1 ≤ 9223372036854775807) (h1 : NumsIn w A1 n1 zs1) :
    Calls Tryd.prog 7 #[.int .i64 n0, .slice A1 n1 c1, .int .i64 i0] w fun e w' => e = .returned (.bool true) ∧ Below w.heap.size w w' := by
  obtain ⟨j0, hj, hz0, hz1, hz2⟩ := info_parts infoI64
  have HB0 := Lib.hid (Bag.start w ht)
  have HAW := Lib.hid (awake5_any w ht)
  have HR1 := Lib.hid (row_of_nums h1)
  clear ht h1
  by_cases hb1 : 300 < n1
  · go_enter Tryd.func7, Tryd.ntmps7
    go_wp2_with fail
    refine HAW.out.mono ?_
    rintro e w1 ⟨rfl, hb⟩
    go_wp2_with fail
    go_ret
    exact ⟨rfl, hb.out⟩
  obtain ⟨n, hn, hnp⟩ := pick_in n0 257 (by omega) (by omega)
  obtain ⟨k, hk, hkp⟩ := pick_in i0 ((n1 : Int) + 1) (by omega) (by omega)
  have HNP := Lib.hid hnp
  have HKP := Lib.hid hkp
  have hn2 : n ≤ 256 := by omega
  have hk2 : k ≤ n1 := by omega
  have HTAIL := Lib.hid (HR1.out.tail hk2 hnc)
  have HHEAD := Lib.hid (HR1.out.head hk2)
  rw [nv_drop] at HTAIL
  rw [nv_take] at HHEAD
  generalize (List.range n1).map (fun i => zs1.getD i 0) = l1 at *
  have HO1 := Lib.hid (fun (W : World) (l : List VV) (b : Bag w W l) => bag_of (c := c1) b HR1.out (by omega) hn2)
  have HX := Lib.hid (ofL_lt (n := n) l1)
  have HTURN := Lib.hid (ofL_turn n k l1)
  have HLS := Lib.hid (ofL_Ls HX.out hn2)
  generalize hXX : ofL n l1 = X at *
  have HOX := Lib.hid hXX
  have HN2 := Lib.hid hn2
  clear hnp hkp hn hk HAW hn2 hXX
  have hki : (k : Int) ≤ (n1 : Int) := by omega
  have hk0 : (0 : Int) ≤ (k : Int) := by omega
  have hkc : (k : Int) ≤ (c1 : Int) := by omega
  go_enter Tryd.func7, Tryd.ntmps7
  go_wp2_with (first | rw [HNP.out] | rw [HKP.out])
  refine (HO1.out _ _ HB0.out).mono ?_
  rintro e w1 ⟨g1, k1, rfl, HB1⟩
  clear HB0 HO1
  go_wp2_with fail
  have HO0 : Hid ((w1.alloc (.cells #[] 3)).drew.ownsRow w1.heap.size 3 1 (.slice (some ⟨w1.heap.size, 0, none⟩) 0 0) 0 []) := own_lit (cs := #[]) rfl (Nat.le_refl _) rfl (by unfold maxLen; omega)
  have HBW := Lib.hid HB1.out.below
  have hal : Below w1.heap.size w1 (w1.alloc (.cells #[] 3)).drew := ((Below.refl _ _).alloc (Nat.le_refl _) _).drew
  have HSZ := Lib.hid hal.size
  have HA0 := Lib.hid (HBW.out.trans (hal.mono HBW.out.size))
  have HAL := Lib.hid hal
  clear hal
  obtain ⟨AT, hAT⟩ : ∃ AT, (if c1 = k then A1 else Option.map (fun x => x.add k) A1) = AT := ⟨_, rfl⟩
  rw [hAT] at HTAIL
  by_cases hck : c1 = k
  · have hAT2 : A1 = AT := by rw [← hAT, if_pos hck]
    subst hAT2
    clear hAT
    subst hck
    obtain rfl : n1 = c1 := by omega
    have HT0 : Hid (Row w w.heap.size A1 0 (nv (l1.drop n1))) := by have := HTAIL.out; rwa [Nat.sub_self] at this
    go_region_held3 (fun W => Below w1.heap.size w1 W)
      (first | assumption | exact HB2X.out | exact HB3X.out | exact HB4X.out | exact HB5X.out | exact Below.refl _ _ | exact (Below.refl _ _).drew | exact (Below.refl _ _).alloc (Nat.le_refl _) _ | exact ((Below.refl _ _).alloc (Nat.le_refl _) _).drew)
      (first
        | (refine step_app rfl (.tmp 31) (.tmp 34) 22 rfl w1.heap.size 3 j0 (.int .i64 0) 8 Tryd.underlying22 hj hz0 hz1 hz2 rfl _ 0 [] (by simp [Act.eval, Act.put]) HO0.out w.heap.size A1 (0) (0) (nv (l1.drop n1)) (by simp [Act.eval, Act.put]) ((HT0.out).below HA0.out) (nv_one _) (by unfold maxLen; omega) (by omega) HSZ.out ?_; intro v2 w2 hown2 hg2 hat2; have HB2X := Lib.hid (below_app HAL.out HSZ.out HO0.out (Nat.le_refl _) hg2); have HB2Y := Lib.hid (HBW.out.trans (HB2X.out.mono HBW.out.size)); rw [Nat.zero_add, List.nil_append] at hown2; have HO2 := Lib.hid hown2; clear hown2 hg2 hat2 HO0)
        | (refine step_app rfl (.tmp 35) (.tmp 36) 22 rfl w1.heap.size 3 j0 (.int .i64 0) 8 Tryd.underlying22 hj hz0 hz1 hz2 rfl _ (0) (nv (l1.drop n1)) (by simp [Act.eval, Act.put]) HO2.out w.heap.size A1 n1 n1 (nv l1) (by simp [Act.eval, Act.put]) (HR1.out.below HB2Y.out) (nv_one _) (by unfold maxLen; omega) (by omega) HB2X.out.size ?_; intro v3 w3 hown3 hg3 hat3; have HB3X := Lib.hid (below_app HB2X.out HB2X.out.size HO2.out (Nat.le_refl _) hg3); have HB3Y := Lib.hid (HBW.out.trans (HB3X.out.mono HBW.out.size)); have HO3 := Lib.hid hown3; clear hown3 hg3 hat3 HO2 HB2X HB2Y)
        | (refine step_app rfl (.tmp 37) (.tmp 40) 22 rfl w1.heap.size 3 j0 (.int .i64 0) 8 Tryd.underlying22 hj hz0 hz1 hz2 rfl _ (0 + n1) (nv (l1.drop n1) ++ nv l1) (by simp [Act.eval, Act.put]) HO3.out w.heap.size A1 n1 n1 (nv (l1.take n1)) (by simp [Act.eval, Act.put]) (HHEAD.out.below HB3Y.out) (nv_one _) (by unfold maxLen; omega) (by omega) HB3X.out.size ?_; intro v4 w4 hown4 hg4 hat4; have HB4X := Lib.hid (below_app HB3X.out HB3X.out.size HO3.out (Nat.le_refl _) hg4); rw [← nv_append, ← nv_append] at hown4; obtain ⟨A4, c4, rfl, _⟩ := own_slice hown4; obtain ⟨m4, hm4⟩ : ∃ m4, 0 + n1 + n1 = m4 := ⟨_, rfl⟩; rw [hm4] at hown4 ⊢; have HO4 := Lib.hid hown4; have hm5 : m4 ≤ 1000 := (by omega); clear hown4 hg4 hat4 HO3 HB3X HB3Y hm4)
        | (go_at_call 9; have HOF := Lib.hid (of_any n A4 m4 c4 _ _ _ (Row.of_own HO4.out) (Nat.le_refl _) (by omega) HN2.out); rw [HTURN.out] at HOF; refine HOF.out.mono ?_; rintro e w5 ⟨g2, k2, rfl, hg5, hk5, hv5, hb5⟩; have HB5X := Lib.hid (HB4X.out.trans (hb5.out.mono HB4X.out.size)); have HB5 := Lib.hid ((HB1.out.read HB4X.out).add hb5.out hg5 hk5 hv5.out); clear hg5 hk5 hv5 hb5; clear HOF HO4 HB4X))
    clear HB1
    go_wp2_with fail
    refine (bag_list 0 HB5.out rfl).mono ?_
    rintro e w6 ⟨A6, c6, rfl, hrow6, HB6⟩
    clear HB5
    have HOF := Lib.hid (bag_ofw (c := c6) HB6.out hrow6.out (by have := ls_lt X; omega) HN2.out)
    rw [HLS.out] at HOF
    clear hrow6
    go_wp2_with fail
    refine HOF.out.mono ?_
    rintro e w7 ⟨g3, k3, rfl, HB7⟩
    clear HOF HB6
    have HS := Lib.hid (bag_same 0 1 HB7.out rfl rfl)
    rw [show decide (X = X) = true by simp] at HS
    go_wp2_with fail
    refine HS.out.mono ?_
    rintro e w8 ⟨rfl, HB8⟩
    clear HS HB7
    have HS := Lib.hid (bag_same 0 2 HB8.out rfl rfl)
    rw [show decide (X = X) = true by simp] at HS
    go_wp2_with fail
    refine HS.out.mono ?_
    rintro e w9 ⟨rfl, HB9⟩
    clear HS HB8
    go_wp2_with fail
    refine (bag_count 0 HB9.out rfl).mono ?_
    rintro e w10 ⟨rfl, HB10⟩
    clear HB9
    go_wp2_with fail
    refine (bag_list 0 HB10.out rfl).mono ?_
    rintro e w11 ⟨A11, c11, rfl, hrow11, HB11⟩
    clear HB10 hrow11
    go_wp2_with fail
    refine (bag_awake HB11.out).mono ?_
    rintro e w20 ⟨rfl, HB20⟩
    clear HB11
    go_wp2_with fail
    go_ret
    exact ⟨rfl, HB20.out.below⟩
  · have hAT2 : Option.map (fun x => x.add k) A1 = AT := by rw [← hAT, if_neg hck]
    clear hAT
    have HAT := Lib.hid hAT2
    clear hAT2
    go_region_held3 (fun W => Below w1.heap.size w1 W)
      (first | assumption | exact HB2X.out | exact HB3X.out | exact HB4X.out | exact HB5X.out | exact Below.refl _ _ | exact (Below.refl _ _).drew | exact (Below.refl _ _).alloc (Nat.le_refl _) _ | exact ((Below.refl _ _).alloc (Nat.le_refl _) _).drew)
      (first
        | (refine step_app rfl (.tmp 31) (.tmp 34) 22 rfl w1.heap.size 3 j0 (.int .i64 0) 8 Tryd.underlying22 hj hz0 hz1 hz2 rfl _ 0 [] (by simp [Act.eval, Act.put]) HO0.out w.heap.size AT (n1 - k) (c1 - k) (nv (l1.drop k)) (by simp [Act.eval, Act.put, HAT.out]) ((HTAIL.out).below HA0.out) (nv_one _) (by unfold maxLen; omega) (by omega) HSZ.out ?_; intro v2 w2 hown2 hg2 hat2; have HB2X := Lib.hid (below_app HAL.out HSZ.out HO0.out (Nat.le_refl _) hg2); have HB2Y := Lib.hid (HBW.out.trans (HB2X.out.mono HBW.out.size)); rw [Nat.zero_add, List.nil_append] at hown2; have HO2 := Lib.hid hown2; clear hown2 hg2 hat2 HO0)
        | (refine step_app rfl (.tmp 35) (.tmp 36) 22 rfl w1.heap.size 3 j0 (.int .i64 0) 8 Tryd.underlying22 hj hz0 hz1 hz2 rfl _ (n1 - k) (nv (l1.drop k)) (by simp [Act.eval, Act.put]) HO2.out w.heap.size A1 n1 c1 (nv l1) (by simp [Act.eval, Act.put]) (HR1.out.below HB2Y.out) (nv_one _) (by unfold maxLen; omega) (by omega) HB2X.out.size ?_; intro v3 w3 hown3 hg3 hat3; have HB3X := Lib.hid (below_app HB2X.out HB2X.out.size HO2.out (Nat.le_refl _) hg3); have HB3Y := Lib.hid (HBW.out.trans (HB3X.out.mono HBW.out.size)); have HO3 := Lib.hid hown3; clear hown3 hg3 hat3 HO2 HB2X HB2Y)
        | (refine step_app rfl (.tmp 37) (.tmp 40) 22 rfl w1.heap.size 3 j0 (.int .i64 0) 8 Tryd.underlying22 hj hz0 hz1 hz2 rfl _ (n1 - k + n1) (nv (l1.drop k) ++ nv l1) (by simp [Act.eval, Act.put]) HO3.out w.heap.size A1 k c1 (nv (l1.take k)) (by simp [Act.eval, Act.put]) (HHEAD.out.below HB3Y.out) (nv_one _) (by unfold maxLen; omega) (by omega) HB3X.out.size ?_; intro v4 w4 hown4 hg4 hat4; have HB4X := Lib.hid (below_app HB3X.out HB3X.out.size HO3.out (Nat.le_refl _) hg4); rw [← nv_append, ← nv_append] at hown4; obtain ⟨A4, c4, rfl, _⟩ := own_slice hown4; obtain ⟨m4, hm4⟩ : ∃ m4, n1 - k + n1 + k = m4 := ⟨_, rfl⟩; rw [hm4] at hown4 ⊢; have HO4 := Lib.hid hown4; have hm5 : m4 ≤ 1000 := (by omega); clear hown4 hg4 hat4 HO3 HB3X HB3Y hm4)
        | (go_at_call 9; have HOF := Lib.hid (of_any n A4 m4 c4 _ _ _ (Row.of_own HO4.out) (Nat.le_refl _) (by omega) HN2.out); rw [HTURN.out] at HOF; refine HOF.out.mono ?_; rintro e w5 ⟨g2, k2, rfl, hg5, hk5, hv5, hb5⟩; have HB5X := Lib.hid (HB4X.out.trans (hb5.out.mono HB4X.out.size)); have HB5 := Lib.hid ((HB1.out.read HB4X.out).add hb5.out hg5 hk5 hv5.out); clear hg5 hk5 hv5 hb5; clear HOF HO4 HB4X))
    clear HB1
    go_wp2_with fail
    refine (bag_list 0 HB5.out rfl).mono ?_
    rintro e w6 ⟨A6, c6, rfl, hrow6, HB6⟩
    clear HB5
    have HOF := Lib.hid (bag_ofw (c := c6) HB6.out hrow6.out (by have := ls_lt X; omega) HN2.out)
    rw [HLS.out] at HOF
    clear hrow6
    go_wp2_with fail
    refine HOF.out.mono ?_
    rintro e w7 ⟨g3, k3, rfl, HB7⟩
    clear HOF HB6
    have HS := Lib.hid (bag_same 0 1 HB7.out rfl rfl)
    rw [show decide (X = X) = true by simp] at HS
    go_wp2_with fail
    refine HS.out.mono ?_
    rintro e w8 ⟨rfl, HB8⟩
    clear HS HB7
    have HS := Lib.hid (bag_same 0 2 HB8.out rfl rfl)
    rw [show decide (X = X) = true by simp] at HS
    go_wp2_with fail
    refine HS.out.mono ?_
    rintro e w9 ⟨rfl, HB9⟩
    clear HS HB8
    go_wp2_with fail
    refine (bag_count 0 HB9.out rfl).mono ?_
    rintro e w10 ⟨rfl, HB10⟩
    clear HB9
    go_wp2_with fail
    refine (bag_list 0 HB10.out rfl).mono ?_
    rintro e w11 ⟨A11, c11, rfl, hrow11, HB11⟩
    clear HB10 hrow11
    go_wp2_with fail
    refine (bag_awake HB11.out).mono ?_
    rintro e w20 ⟨rfl, HB20⟩
    clear HB11
    go_wp2_with fail
    go_ret
    exact ⟨rfl, HB20.out.below⟩
end Go.Proofs.YtmaiekkjnaadnaaDoor
