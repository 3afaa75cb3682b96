/- The reference's Root, Weights, Degree: by contracts. -/
import Derived.Test.YtibleaaghhhjkaaDoorDegree
namespace Go.Proofs.YtibleaaghhhjkaaDoor
open Go.RowKit
open SoM RdM
set_option maxRecDepth 100000 in
theorem rroot_any (n : Nat) (h1 : 1 ≤ n) (h2 : n ≤ 80) (w : World) : Calls Tryd.prog 76 #[.int .i64 (n : Int)] w fun e w' => e = .returned (.int .i64 (rt n : Nat)) ∧ w = w' := by
  have H12 := Lib.hid (And.intro h1 h2)
  have hni : (n : Int) ≤ 80 := by omega
  have hni1 : (1 : Int) ≤ (n : Int) := by omega
  go_enter Tryd.func76, Tryd.ntmps76
  go_wp2_with fail
  go_loop [3, 4] (fun a b => ∃ (lo hi : Nat), a = .int .i64 lo ∧ b = .int .i64 hi ∧ lo ≤ hi ∧ hi ≤ 3037000499 ∧ Hid (lo * lo ≤ n ∧ n < (hi + 1) * (hi + 1))) (fun a b => (intOf b).toNat - (intOf a).toNat)
  case atStart => exact ⟨0, 3037000499, rfl, rfl, by omega, by omega, Lib.hid ⟨by omega, by omega⟩⟩
  case round =>
    obtain ⟨lo, hi, rfl, rfl, hlh, hh, hI⟩ := hrel
    by_cases hlt : lo < hi
    · have hlti : (lo : Int) < (hi : Int) := by omega
      obtain ⟨m, hm⟩ : ∃ m, lo + (hi - lo + 1) / 2 = m := ⟨_, rfl⟩
      have hhi : (hi : Int) ≤ 3037000499 := by omega
      have HMID : Hid ((lo : Int) + ((hi : Int) - (lo : Int) + 1) / 2 = (m : Int)) := Lib.hid (by omega)
      have hm1 : 1 ≤ m := by omega
      have hm2 : lo < m ∧ m ≤ hi := by omega
      have hmi1 : (1 : Int) ≤ (m : Int) := by omega
      have hmi2 : (m : Int) ≤ 3037000499 := by omega
      have hm0 : ¬ (m : Int) = 0 := by omega
      have HIO := Lib.hid hI.out
      clear hm hI
      obtain ⟨q, hq⟩ : ∃ q, n / m = q := ⟨_, rfl⟩
      have hqi : (n : Int) / (m : Int) = (q : Int) := by rw [← hq, Int.natCast_ediv]
      have HQI := Lib.hid hqi
      have hq80 : (q : Int) ≤ 80 := by have := Nat.div_le_self n m; omega
      have hqm : m * m ≤ n ↔ m ≤ q := by rw [← hq]; exact (Nat.le_div_iff_mul_le (by omega)).symm
      by_cases hq2 : m ≤ q
      · have hci : (m : Int) ≤ (q : Int) := by omega
        have HN : Hid (m * m ≤ n ∧ n < (hi + 1) * (hi + 1)) := Lib.hid ⟨hqm.2 hq2, HIO.out.2⟩
        clear hq hqm hq2
        go_wp2_with (first | rw [HMID.out] | rw [HQI.out])
        go_round
        case rel => exact ⟨m, hi, rfl, rfl, by omega, by omega, HN⟩
        case measure => simp [intOf]; omega
      · have hci : ¬ (m : Int) ≤ (q : Int) := by omega
        obtain ⟨m', hm'⟩ : ∃ m', m - 1 = m' := ⟨_, rfl⟩
        have HN : Hid (lo * lo ≤ n ∧ n < (m' + 1) * (m' + 1)) := Lib.hid ⟨HIO.out.1, by
          have e : m' + 1 = m := by omega
          rw [e]
          exact Nat.lt_of_not_le fun h => hq2 (hqm.1 h)⟩
        have hmm : (m : Int) - 1 = (m' : Int) := by omega
        have HMM := Lib.hid hmm
        clear hq hqm hq2 hmm
        go_wp2_with (first | rw [HMID.out] | rw [HQI.out])
        rw [HMM.out]
        go_round
        case rel => exact ⟨lo, m', rfl, rfl, by omega, by omega, HN⟩
        case measure => simp [intOf]; omega
    · obtain rfl : lo = hi := by omega
      have hr : lo = rt n := rt_eq n lo H12.out.1 H12.out.2 hI.out.1 hI.out.2
      have HR := Lib.hid hr
      clear hlt hI hr
      go_wp2_with fail
      go_ret
      rw [← HR.out]
      exact ⟨rfl, rfl⟩
theorem ws_snoc (n k : Nat) : ws n (k + 1) = ws n k ++ [wt n (k + 1)] := by simp [ws, List.range_succ]
theorem infoW32 : (Tryd.prog.info? 22).map (fun i => (i.zero, i.size, i.bytes)) = some (some (.int .u32 0), 1, 4) := by kernel_rfl
set_option maxRecDepth 100000 in
set_option maxHeartbeats 3200000 in
theorem rweights_any (n : Nat) (w : World) (h1 : 1 ≤ n) (h2 : n ≤ 80) : Calls Tryd.prog 65 #[.int .i64 (n : Int)] w (WtOk n w) := by
  obtain ⟨i0, hi, hz0, hz1, hz2⟩ := info_parts infoW32
  obtain ⟨_, _, _, _, hR1, hR8, _⟩ := wt_bound n 1 h1 h2 (by omega) (by omega)
  obtain ⟨R, hR⟩ : ∃ R, rt n = R := ⟨_, rfl⟩
  rw [hR] at hR1 hR8
  have HRT := Lib.hid (rroot_any n h1 h2)
  rw [hR] at HRT
  obtain ⟨M, hM⟩ : ∃ M, n / R = M := ⟨_, rfl⟩
  have hMi : (n : Int) / (R : Int) = (M : Int) := by rw [← Int.natCast_ediv, hM]
  have hMn : M ≤ n := by rw [← hM]; exact Nat.div_le_self _ _
  have hR0 : ¬ (R : Int) = 0 := by omega
  have HR := Lib.hid hR
  have HM := Lib.hid hM
  have hni : (n : Int) ≤ 80 := by omega
  have hni1 : (1 : Int) ≤ (n : Int) := by omega
  have hR8i : (R : Int) ≤ 8 := by omega
  have hR1i : (1 : Int) ≤ (R : Int) := by omega
  have hMni : (M : Int) ≤ 80 := by omega
  clear hR hM
  go_enter Tryd.func65, Tryd.ntmps65
  go_wp2_with (go_at_call 76; refine (HRT.out _).mono ?_; rintro e w' ⟨rfl, rfl⟩)
  clear hMi
  go_loopw [5, 6] (fun v z wr => ∃ k : Nat, k ≤ n ∧ z = .int .i64 (k + 1 : Nat) ∧ Hid (wr.ownsRow w.heap.size 22 1 v k (uv (ws n k))) ∧ Hid (Below w.heap.size w wr)) (fun _ z _ => n + 1 - (intOf z).toNat)
  case atStart => exact ⟨0, by omega, rfl, Lib.hid (World.ownsRow_nil _ _ _ _), Lib.hid (Below.refl _ _)⟩
  case round =>
    obtain ⟨k, hk, rfl, hown, hbl⟩ := hrel
    have hbs := hbl.out.size
    obtain ⟨d, hd⟩ : ∃ d, k + 1 = d := ⟨_, rfl⟩
    rw [hd]
    have hdi1 : (1 : Int) ≤ (d : Int) := by omega
    by_cases hlk : k < n
    · obtain ⟨b1, b2, b3, _, _, _, _⟩ := wt_bound n d h1 h2 (by omega) (by omega)
      obtain ⟨W, hW0⟩ : ∃ W, wt n d = W := ⟨_, rfl⟩
      obtain ⟨I, hI⟩ : ∃ I, ideal n d = I := ⟨_, rfl⟩
      have HWN : Hid (uv (ws n (k + 1)) = uv (ws n k) ++ [.int .u32 (W : Int)]) := Lib.hid (by
        rw [ws_snoc, hd, hW0]
        simp [uv])
      rw [hW0] at b2
      rw [hI] at b3
      have hWu : (W : Int) ≤ 4294967295 := by omega
      have hle : (d : Int) ≤ (n : Int) := by omega
      have hd80 : (d : Int) ≤ 80 := by omega
      by_cases hd1 : d = 1
      · rcases Nat.lt_trichotomy d M with hc | hc | hc
        · skip
          have hI2 : (1048576 : Int) / (n : Int) = (I : Int) := by rw [← hI]; unfold ideal; rw [if_pos hd1, Int.natCast_ediv]; rfl
          have hd1i : ¬ (1 : Int) < (d : Int) := by omega
          have hI6 : (I : Int) ≤ 1048576 := by omega
          have HI2 := Lib.hid hI2
          obtain ⟨PP, hP⟩ : ∃ PP, d * n = PP := ⟨_, rfl⟩
          have hP1 : 1 ≤ PP := by rw [← hP]; exact Nat.mul_pos (by omega) (by omega)
          have hP2 : PP ≤ 6400 := by
            rw [← hP]
            have := Nat.mul_le_mul (show d ≤ 80 by omega) h2
            omega
          have hPi : (d : Int) * (n : Int) = (PP : Int) := by rw [← hP, Int.natCast_mul]
          obtain ⟨Qw, hQ⟩ : ∃ Qw, R * 262144 / PP = Qw := ⟨_, rfl⟩
          have hQi : (262144 : Int) * (R : Int) / (PP : Int) = (Qw : Int) := by rw [← hQ, Int.natCast_ediv, Int.natCast_mul, Int.mul_comm]; rfl
          have hQ2 : Qw ≤ 2097152 := by
            rw [← hQ]
            exact Nat.le_trans (Nat.div_le_self _ _) (by omega)
          have hW := wt_lt n d R M PP Qw HR.out HM.out hP hQ hc
          rw [hI] at hW
          have hci : (d : Int) < (M : Int) := by omega
          have hne : ((d : Int) == (M : Int)) = false := by simp; omega
          have hP0 : ¬ (PP : Int) = 0 := by omega
          have hP6 : (PP : Int) ≤ 6400 := by omega
          have hP7 : (1 : Int) ≤ (PP : Int) := by omega
          have hQ6 : (Qw : Int) ≤ 2097152 := by omega
          have hWS : (I : Int) + (Qw : Int) = (W : Int) := by omega
          have HQI := Lib.hid hQi
          clear hI2 hQi hP hQ hW hc hd1
          go_wp2_with (first | (at_builtin; refine wpList_app rfl (.tmp 53) (.tmp 56) 105 rfl w.heap.size 22 i0 (.int .u32 0) 4 Tryd.underlying105 hi hz0 hz1 hz2 rfl _ k (uv (ws n k)) rfl (own_below hown.out ((Below.refl _ _).alloc (Nat.le_refl _) _)) _ _ 1 1 _ rfl (row_new _ _ _ _) (by intro u hu; simp at hu; subst hu; rfl) (by unfold maxLen; omega) (by omega) (by simp; omega) ?_; intro v2 w2 hown2 hg2 hat2) | first | rw [HI2.out] | rw [HQI.out])
          have hal : Below wr.heap.size wr (wr.alloc (.cells #[.int .u32 (W : Int)] 22)) := (Below.refl _ _).alloc (Nat.le_refl _) _
          have HB2 : Hid (Below w.heap.size w w2) := Lib.hid (below_app (hbl.out.trans (hal.mono hbs)) (by simp; omega) (own_below hown.out hal) (Nat.le_refl _) hg2)
          have HO2 : Hid (w2.ownsRow w.heap.size 22 1 v2 (k + 1) (uv (ws n (k + 1)))) := Lib.hid (by
            rw [HWN.out]
            exact hown2)
          clear hg2 hat2 hown2 hal hown
          go_wp2_with fail
          go_roundw
          case rel => exact ⟨k + 1, by omega, by go_num, HO2, HB2⟩
          case measure => simp [intOf]; omega
        · skip
          have hI2 : (1048576 : Int) / (n : Int) = (I : Int) := by rw [← hI]; unfold ideal; rw [if_pos hd1, Int.natCast_ediv]; rfl
          have hd1i : ¬ (1 : Int) < (d : Int) := by omega
          have hI6 : (I : Int) ≤ 1048576 := by omega
          have HI2 := Lib.hid hI2
          obtain ⟨Qw, hQ⟩ : ∃ Qw, R * 524288 / n = Qw := ⟨_, rfl⟩
          have hQi : (524288 : Int) * (R : Int) / (n : Int) = (Qw : Int) := by rw [← hQ, Int.natCast_ediv, Int.natCast_mul, Int.mul_comm]; rfl
          have hQ2 : Qw ≤ 4194304 := by
            rw [← hQ]
            exact Nat.le_trans (Nat.div_le_self _ _) (by omega)
          have hW := wt_eq n d R M Qw HR.out HM.out hQ hc
          rw [hI] at hW
          have hci : ¬ (d : Int) < (M : Int) := by omega
          have hne : ((d : Int) == (M : Int)) = true := by simp; omega
          have hQ6 : (Qw : Int) ≤ 4194304 := by omega
          have hWS : (I : Int) + (Qw : Int) = (W : Int) := by omega
          have HQI := Lib.hid hQi
          clear hI2 hQi hQ hW hc hd1
          go_wp2_with (first | (at_builtin; refine wpList_app rfl (.tmp 53) (.tmp 56) 105 rfl w.heap.size 22 i0 (.int .u32 0) 4 Tryd.underlying105 hi hz0 hz1 hz2 rfl _ k (uv (ws n k)) rfl (own_below hown.out ((Below.refl _ _).alloc (Nat.le_refl _) _)) _ _ 1 1 _ rfl (row_new _ _ _ _) (by intro u hu; simp at hu; subst hu; rfl) (by unfold maxLen; omega) (by omega) (by simp; omega) ?_; intro v2 w2 hown2 hg2 hat2) | first | rw [HI2.out] | rw [HQI.out])
          have hal : Below wr.heap.size wr (wr.alloc (.cells #[.int .u32 (W : Int)] 22)) := (Below.refl _ _).alloc (Nat.le_refl _) _
          have HB2 : Hid (Below w.heap.size w w2) := Lib.hid (below_app (hbl.out.trans (hal.mono hbs)) (by simp; omega) (own_below hown.out hal) (Nat.le_refl _) hg2)
          have HO2 : Hid (w2.ownsRow w.heap.size 22 1 v2 (k + 1) (uv (ws n (k + 1)))) := Lib.hid (by
            rw [HWN.out]
            exact hown2)
          clear hg2 hat2 hown2 hal hown
          go_wp2_with fail
          go_roundw
          case rel => exact ⟨k + 1, by omega, by go_num, HO2, HB2⟩
          case measure => simp [intOf]; omega
        · skip
          have hI2 : (1048576 : Int) / (n : Int) = (I : Int) := by rw [← hI]; unfold ideal; rw [if_pos hd1, Int.natCast_ediv]; rfl
          have hd1i : ¬ (1 : Int) < (d : Int) := by omega
          have hI6 : (I : Int) ≤ 1048576 := by omega
          have HI2 := Lib.hid hI2
          have hW := wt_gt n d R M HR.out HM.out hc
          rw [hI] at hW
          have hci : ¬ (d : Int) < (M : Int) := by omega
          have hne : ((d : Int) == (M : Int)) = false := by simp; omega
          have hWS : W = I := by omega
          subst hWS
          clear hI2 hW hc hd1
          go_wp2_with (first | (at_builtin; refine wpList_app rfl (.tmp 53) (.tmp 56) 105 rfl w.heap.size 22 i0 (.int .u32 0) 4 Tryd.underlying105 hi hz0 hz1 hz2 rfl _ k (uv (ws n k)) rfl (own_below hown.out ((Below.refl _ _).alloc (Nat.le_refl _) _)) _ _ 1 1 _ rfl (row_new _ _ _ _) (by intro u hu; simp at hu; subst hu; rfl) (by unfold maxLen; omega) (by omega) (by simp; omega) ?_; intro v2 w2 hown2 hg2 hat2) | (rw [HI2.out]))
          have hal : Below wr.heap.size wr (wr.alloc (.cells #[.int .u32 (W : Int)] 22)) := (Below.refl _ _).alloc (Nat.le_refl _) _
          have HB2 : Hid (Below w.heap.size w w2) := Lib.hid (below_app (hbl.out.trans (hal.mono hbs)) (by simp; omega) (own_below hown.out hal) (Nat.le_refl _) hg2)
          have HO2 : Hid (w2.ownsRow w.heap.size 22 1 v2 (k + 1) (uv (ws n (k + 1)))) := Lib.hid (by
            rw [HWN.out]
            exact hown2)
          clear hg2 hat2 hown2 hal hown
          go_wp2_with fail
          go_roundw
          case rel => exact ⟨k + 1, by omega, by go_num, HO2, HB2⟩
          case measure => simp [intOf]; omega
      · rcases Nat.lt_trichotomy d M with hc | hc | hc
        · skip
          obtain ⟨e, he⟩ : ∃ e, d - 1 = e := ⟨_, rfl⟩
          have hdei : (d : Int) - 1 = (e : Int) := by omega
          have he80 : (e : Int) ≤ 80 := by omega
          have he1 : (1 : Int) ≤ (e : Int) := by omega
          obtain ⟨Qd, hQd⟩ : ∃ Qd, d * e = Qd := ⟨_, rfl⟩
          have hQdi : (d : Int) * (e : Int) = (Qd : Int) := by rw [← hQd, Int.natCast_mul]
          have hQd1 : 1 ≤ Qd := by rw [← hQd]; exact Nat.mul_pos (by omega) (by omega)
          have hQd2 : Qd ≤ 6400 := by
            rw [← hQd]
            have := Nat.mul_le_mul (show d ≤ 80 by omega) (show e ≤ 80 by omega)
            omega
          have hQd0 : ¬ (Qd : Int) = 0 := by omega
          have hQd6 : (Qd : Int) ≤ 6400 := by omega
          have hQd7 : (1 : Int) ≤ (Qd : Int) := by omega
          have hI2 : (1048576 : Int) / (Qd : Int) = (I : Int) := by rw [← hI]; unfold ideal; rw [if_neg hd1, he, hQd, Int.natCast_ediv]; rfl
          have hd1i : (1 : Int) < (d : Int) := by omega
          have hI6 : (I : Int) ≤ 1048576 := by omega
          have HI2 := Lib.hid hI2
          obtain ⟨PP, hP⟩ : ∃ PP, d * n = PP := ⟨_, rfl⟩
          have hP1 : 1 ≤ PP := by rw [← hP]; exact Nat.mul_pos (by omega) (by omega)
          have hP2 : PP ≤ 6400 := by
            rw [← hP]
            have := Nat.mul_le_mul (show d ≤ 80 by omega) h2
            omega
          have hPi : (d : Int) * (n : Int) = (PP : Int) := by rw [← hP, Int.natCast_mul]
          obtain ⟨Qw, hQ⟩ : ∃ Qw, R * 262144 / PP = Qw := ⟨_, rfl⟩
          have hQi : (262144 : Int) * (R : Int) / (PP : Int) = (Qw : Int) := by rw [← hQ, Int.natCast_ediv, Int.natCast_mul, Int.mul_comm]; rfl
          have hQ2 : Qw ≤ 2097152 := by
            rw [← hQ]
            exact Nat.le_trans (Nat.div_le_self _ _) (by omega)
          have hW := wt_lt n d R M PP Qw HR.out HM.out hP hQ hc
          rw [hI] at hW
          have hci : (d : Int) < (M : Int) := by omega
          have hne : ((d : Int) == (M : Int)) = false := by simp; omega
          have hP0 : ¬ (PP : Int) = 0 := by omega
          have hP6 : (PP : Int) ≤ 6400 := by omega
          have hP7 : (1 : Int) ≤ (PP : Int) := by omega
          have hQ6 : (Qw : Int) ≤ 2097152 := by omega
          have hWS : (I : Int) + (Qw : Int) = (W : Int) := by omega
          have HQI := Lib.hid hQi
          clear hI2 hQi hP hQ hW hc hd1
          go_wp2_with (first | (at_builtin; refine wpList_app rfl (.tmp 53) (.tmp 56) 105 rfl w.heap.size 22 i0 (.int .u32 0) 4 Tryd.underlying105 hi hz0 hz1 hz2 rfl _ k (uv (ws n k)) rfl (own_below hown.out ((Below.refl _ _).alloc (Nat.le_refl _) _)) _ _ 1 1 _ rfl (row_new _ _ _ _) (by intro u hu; simp at hu; subst hu; rfl) (by unfold maxLen; omega) (by omega) (by simp; omega) ?_; intro v2 w2 hown2 hg2 hat2) | first | rw [HI2.out] | rw [HQI.out])
          have hal : Below wr.heap.size wr (wr.alloc (.cells #[.int .u32 (W : Int)] 22)) := (Below.refl _ _).alloc (Nat.le_refl _) _
          have HB2 : Hid (Below w.heap.size w w2) := Lib.hid (below_app (hbl.out.trans (hal.mono hbs)) (by simp; omega) (own_below hown.out hal) (Nat.le_refl _) hg2)
          have HO2 : Hid (w2.ownsRow w.heap.size 22 1 v2 (k + 1) (uv (ws n (k + 1)))) := Lib.hid (by
            rw [HWN.out]
            exact hown2)
          clear hg2 hat2 hown2 hal hown
          go_wp2_with fail
          go_roundw
          case rel => exact ⟨k + 1, by omega, by go_num, HO2, HB2⟩
          case measure => simp [intOf]; omega
        · skip
          obtain ⟨e, he⟩ : ∃ e, d - 1 = e := ⟨_, rfl⟩
          have hdei : (d : Int) - 1 = (e : Int) := by omega
          have he80 : (e : Int) ≤ 80 := by omega
          have he1 : (1 : Int) ≤ (e : Int) := by omega
          obtain ⟨Qd, hQd⟩ : ∃ Qd, d * e = Qd := ⟨_, rfl⟩
          have hQdi : (d : Int) * (e : Int) = (Qd : Int) := by rw [← hQd, Int.natCast_mul]
          have hQd1 : 1 ≤ Qd := by rw [← hQd]; exact Nat.mul_pos (by omega) (by omega)
          have hQd2 : Qd ≤ 6400 := by
            rw [← hQd]
            have := Nat.mul_le_mul (show d ≤ 80 by omega) (show e ≤ 80 by omega)
            omega
          have hQd0 : ¬ (Qd : Int) = 0 := by omega
          have hQd6 : (Qd : Int) ≤ 6400 := by omega
          have hQd7 : (1 : Int) ≤ (Qd : Int) := by omega
          have hI2 : (1048576 : Int) / (Qd : Int) = (I : Int) := by rw [← hI]; unfold ideal; rw [if_neg hd1, he, hQd, Int.natCast_ediv]; rfl
          have hd1i : (1 : Int) < (d : Int) := by omega
          have hI6 : (I : Int) ≤ 1048576 := by omega
          have HI2 := Lib.hid hI2
          obtain ⟨Qw, hQ⟩ : ∃ Qw, R * 524288 / n = Qw := ⟨_, rfl⟩
          have hQi : (524288 : Int) * (R : Int) / (n : Int) = (Qw : Int) := by rw [← hQ, Int.natCast_ediv, Int.natCast_mul, Int.mul_comm]; rfl
          have hQ2 : Qw ≤ 4194304 := by
            rw [← hQ]
            exact Nat.le_trans (Nat.div_le_self _ _) (by omega)
          have hW := wt_eq n d R M Qw HR.out HM.out hQ hc
          rw [hI] at hW
          have hci : ¬ (d : Int) < (M : Int) := by omega
          have hne : ((d : Int) == (M : Int)) = true := by simp; omega
          have hQ6 : (Qw : Int) ≤ 4194304 := by omega
          have hWS : (I : Int) + (Qw : Int) = (W : Int) := by omega
          have HQI := Lib.hid hQi
          clear hI2 hQi hQ hW hc hd1
          go_wp2_with (first | (at_builtin; refine wpList_app rfl (.tmp 53) (.tmp 56) 105 rfl w.heap.size 22 i0 (.int .u32 0) 4 Tryd.underlying105 hi hz0 hz1 hz2 rfl _ k (uv (ws n k)) rfl (own_below hown.out ((Below.refl _ _).alloc (Nat.le_refl _) _)) _ _ 1 1 _ rfl (row_new _ _ _ _) (by intro u hu; simp at hu; subst hu; rfl) (by unfold maxLen; omega) (by omega) (by simp; omega) ?_; intro v2 w2 hown2 hg2 hat2) | first | rw [HI2.out] | rw [HQI.out])
          have hal : Below wr.heap.size wr (wr.alloc (.cells #[.int .u32 (W : Int)] 22)) := (Below.refl _ _).alloc (Nat.le_refl _) _
          have HB2 : Hid (Below w.heap.size w w2) := Lib.hid (below_app (hbl.out.trans (hal.mono hbs)) (by simp; omega) (own_below hown.out hal) (Nat.le_refl _) hg2)
          have HO2 : Hid (w2.ownsRow w.heap.size 22 1 v2 (k + 1) (uv (ws n (k + 1)))) := Lib.hid (by
            rw [HWN.out]
            exact hown2)
          clear hg2 hat2 hown2 hal hown
          go_wp2_with fail
          go_roundw
          case rel => exact ⟨k + 1, by omega, by go_num, HO2, HB2⟩
          case measure => simp [intOf]; omega
        · skip
          obtain ⟨e, he⟩ : ∃ e, d - 1 = e := ⟨_, rfl⟩
          have hdei : (d : Int) - 1 = (e : Int) := by omega
          have he80 : (e : Int) ≤ 80 := by omega
          have he1 : (1 : Int) ≤ (e : Int) := by omega
          obtain ⟨Qd, hQd⟩ : ∃ Qd, d * e = Qd := ⟨_, rfl⟩
          have hQdi : (d : Int) * (e : Int) = (Qd : Int) := by rw [← hQd, Int.natCast_mul]
          have hQd1 : 1 ≤ Qd := by rw [← hQd]; exact Nat.mul_pos (by omega) (by omega)
          have hQd2 : Qd ≤ 6400 := by
            rw [← hQd]
            have := Nat.mul_le_mul (show d ≤ 80 by omega) (show e ≤ 80 by omega)
            omega
          have hQd0 : ¬ (Qd : Int) = 0 := by omega
          have hQd6 : (Qd : Int) ≤ 6400 := by omega
          have hQd7 : (1 : Int) ≤ (Qd : Int) := by omega
          have hI2 : (1048576 : Int) / (Qd : Int) = (I : Int) := by rw [← hI]; unfold ideal; rw [if_neg hd1, he, hQd, Int.natCast_ediv]; rfl
          have hd1i : (1 : Int) < (d : Int) := by omega
          have hI6 : (I : Int) ≤ 1048576 := by omega
          have HI2 := Lib.hid hI2
          have hW := wt_gt n d R M HR.out HM.out hc
          rw [hI] at hW
          have hci : ¬ (d : Int) < (M : Int) := by omega
          have hne : ((d : Int) == (M : Int)) = false := by simp; omega
          have hWS : W = I := by omega
          subst hWS
          clear hI2 hW hc hd1
          go_wp2_with (first | (at_builtin; refine wpList_app rfl (.tmp 53) (.tmp 56) 105 rfl w.heap.size 22 i0 (.int .u32 0) 4 Tryd.underlying105 hi hz0 hz1 hz2 rfl _ k (uv (ws n k)) rfl (own_below hown.out ((Below.refl _ _).alloc (Nat.le_refl _) _)) _ _ 1 1 _ rfl (row_new _ _ _ _) (by intro u hu; simp at hu; subst hu; rfl) (by unfold maxLen; omega) (by omega) (by simp; omega) ?_; intro v2 w2 hown2 hg2 hat2) | (rw [HI2.out]))
          have hal : Below wr.heap.size wr (wr.alloc (.cells #[.int .u32 (W : Int)] 22)) := (Below.refl _ _).alloc (Nat.le_refl _) _
          have HB2 : Hid (Below w.heap.size w w2) := Lib.hid (below_app (hbl.out.trans (hal.mono hbs)) (by simp; omega) (own_below hown.out hal) (Nat.le_refl _) hg2)
          have HO2 : Hid (w2.ownsRow w.heap.size 22 1 v2 (k + 1) (uv (ws n (k + 1)))) := Lib.hid (by
            rw [HWN.out]
            exact hown2)
          clear hg2 hat2 hown2 hal hown
          go_wp2_with fail
          go_roundw
          case rel => exact ⟨k + 1, by omega, by go_num, HO2, HB2⟩
          case measure => simp [intOf]; omega
    · obtain rfl : n = k := by omega
      obtain ⟨A2, c2, rfl, _⟩ := own_slice hown.out
      have hle : ¬ (d : Int) ≤ (n : Int) := by omega
      clear hd
      go_wp2_with fail
      go_ret
      exact ⟨A2, c2, rfl, hown, hbl⟩
def RDegOk (n x : Nat) (w : World) (e : Ending) (w' : World) : Prop :=
  ∃ d : Nat, e = .returned (.int .i64 (d : Int)) ∧ Hid (IsDeg n (atx n x) d) ∧ Hid (Below w.heap.size w w')
set_option maxRecDepth 100000 in
set_option maxHeartbeats 3200000 in
theorem rdegree_any (n x : Nat) (w : World) (h1 : 1 ≤ n) (h2 : n ≤ 80) (hx : x < 4294967296) :
    Calls Tryd.prog 41 #[.int .i64 (n : Int), .int .u32 (x : Int)] w (RDegOk n x w) := by
  obtain ⟨_, _, _, hs4, _, _, _⟩ := wt_bound n n h1 h2 h1 (Nat.le_refl _)
  have HATL := Lib.hid (atx_lt n x h1 h2 hx)
  obtain ⟨S, hS⟩ : ∃ S, sm n n = S := ⟨_, rfl⟩
  obtain ⟨T, hTT⟩ : ∃ T, atx n x = T := ⟨_, rfl⟩
  rw [hS] at hs4
  have hmul : ∃ Q : Nat, (x : Int) * (S : Int) = (Q : Int) ∧ Q ≤ 18446744073709551615 ∧ (Q : Int) / 4294967296 = (T : Int) := by
    refine ⟨x * S, by push_cast; rfl, ?_, ?_⟩
    · have := Nat.mul_le_mul (show x ≤ 4294967296 by omega) hs4
      omega
    · rw [← hTT, atx, hS]; rfl
  obtain ⟨Q, hQ, hQ2, hQ3⟩ := hmul
  have HTT := Lib.hid hTT
  have HS := Lib.hid hS
  rw [hTT] at HATL
  have hQi : (Q : Int) ≤ 18446744073709551615 := by omega
  have hwq : IntKind.u64.wrap (Q : Int) = (Q : Int) := by simp only [IntKind.wrap, IntKind.bits, IntKind.signed]; simp; omega
  have hwx : IntKind.u64.wrap (x : Int) = (x : Int) := by simp only [IntKind.wrap, IntKind.bits, IntKind.signed]; simp; omega
  have hni : (n : Int) ≤ 80 := by omega
  have hxi : (x : Int) ≤ 4294967295 := by omega
  have HW := Lib.hid (rweights_any n w h1 h2)
  have HM := Lib.hid (And.intro hQ (And.intro hQ3 (And.intro hwq (And.intro hwx hQi))))
  clear hS hTT hQ2 hQi hx hQ hQ3 hwq hwx
  go_enter Tryd.func41, Tryd.ntmps41
  go_wp2_with fail
  refine HW.out.mono ?_
  rintro e w1 ⟨A, c, rfl, hown, hb⟩
  have HB := Lib.hid hb.out
  have HR := Lib.hid (Row.of_own hown.out)
  clear hown hb HW
  go_wp2_with fail
  go_loop [6, 17] (fun s z => ∃ k : Nat, k ≤ n ∧ z = .int .i64 (k : Nat) ∧ s = .int .u64 (sm n k : Nat)) (fun _ z => n - (intOf z).toNat)
  case atStart => exact ⟨0, by omega, rfl, rfl⟩
  case round =>
    obtain ⟨k, hk, rfl, rfl⟩ := hrel
    by_cases hlk : k < n
    · have hki : (k : Int) < (n : Int) := by omega
      obtain ⟨b, o, rfl, _, hcl⟩ := HR.out.cellAt (k := k) hlk (uv_get _ k (by rw [show (ws n n).length = n by simp [ws]]; exact hlk))
      rw [ws_getD n k hlk] at hcl
      obtain ⟨_, b2, _, b4, _, _, _⟩ := wt_bound n (k + 1) h1 h2 (by omega) (by omega)
      obtain ⟨W, hW⟩ : ∃ W, wt n (k + 1) = W := ⟨_, rfl⟩
      obtain ⟨Y, hY⟩ : ∃ Y, sm n k = Y := ⟨_, rfl⟩
      have hY2 : sm n (k + 1) = Y + W := by
        show sm n k + wt n (k + 1) = _
        rw [hY, hW]
      rw [hW] at hcl
      rw [hY2] at b4
      have HY2 := Lib.hid hY2
      rw [hY]
      have hWi : (W : Int) ≤ 4000000 := by omega
      have hYi : (Y : Int) + (W : Int) ≤ 4000000 := by omega
      clear hW hY hY2 b2 b4
      go_wp2_with fail
      go_round
      case rel => exact ⟨k + 1, by omega, by go_num, by rw [HY2.out]; go_num⟩
      case measure => simp [intOf]; omega
    · obtain rfl : n = k := by omega
      rw [HS.out]
      obtain ⟨hQ, hQ3, hwq, hwx, hQi⟩ := HM.out
      have hSi : (S : Int) ≤ 4000000 := by omega
      clear hlk
      go_wp2_with fail
      clear hQ hQ3 hwq hwx hQi
      go_loop [10, 33] (fun s z => ∃ k : Nat, k ≤ n ∧ z = .int .i64 (k : Nat) ∧ s = .int .u64 (sm n k : Nat) ∧ Hid (sm n k ≤ T)) (fun _ z => n - (intOf z).toNat)
      case atStart => exact ⟨0, by omega, rfl, rfl, Lib.hid (by simp [sm])⟩
      case round =>
        obtain ⟨k, hk, rfl, rfl, hle⟩ := hrel
        by_cases hlk : k < n
        · have hki : (k : Int) < (n : Int) := by omega
          obtain ⟨b, o, rfl, _, hcl⟩ := HR.out.cellAt (k := k) hlk (uv_get _ k (by rw [show (ws n n).length = n by simp [ws]]; exact hlk))
          rw [ws_getD n k hlk] at hcl
          obtain ⟨_, b2, _, b4, _, _, _⟩ := wt_bound n (k + 1) h1 h2 (by omega) (by omega)
          obtain ⟨W, hW⟩ : ∃ W, wt n (k + 1) = W := ⟨_, rfl⟩
          obtain ⟨Y, hY⟩ : ∃ Y, sm n k = Y := ⟨_, rfl⟩
          obtain ⟨V, hV⟩ : ∃ V, sm n (k + 1) = V := ⟨_, rfl⟩
          have hY2 : V = Y + W := by
            rw [← hV]
            show sm n k + wt n (k + 1) = _
            rw [hY, hW]
          rw [hW] at hcl
          rw [hV] at b4
          have HV := Lib.hid hV
          have HY := Lib.hid hY
          rw [hY] at hle ⊢
          have hWi : (W : Int) ≤ 4000000 := by omega
          have hYi : (Y : Int) + (W : Int) = (V : Int) := by omega
          have hVi : (V : Int) ≤ 4000000 := by omega
          have hk80 : (k : Int) ≤ 79 := by omega
          clear hW hY hV hY2 b2 b4
          by_cases hc : T < V
          · have hci : (T : Int) < (V : Int) := by omega
            have HD : Hid (IsDeg n T (k + 1)) := Lib.hid ⟨by omega, by omega, by show sm n k ≤ T; rw [HY.out]; exact hle.out, by rw [HV.out]; exact hc⟩
            clear hc hle
            go_wp2_with fail
            go_ret
            exact ⟨k + 1, by go_num, by rw [HTT.out]; exact HD, HB⟩
          · have hci : ¬ (T : Int) < (V : Int) := by omega
            have HLE : Hid (sm n (k + 1) ≤ T) := Lib.hid (by rw [HV.out]; omega)
            clear hc hle
            go_wp2_with fail
            go_round
            case rel => exact ⟨k + 1, by omega, by go_num, by rw [HV.out], HLE⟩
            case measure => simp [intOf]; omega
        · obtain rfl : n = k := by omega
          have h := hle.out
          rw [HS.out] at h
          have h2 := HATL.out
          rw [HS.out] at h2
          omega
end Go.Proofs.YtibleaaghhhjkaaDoor
