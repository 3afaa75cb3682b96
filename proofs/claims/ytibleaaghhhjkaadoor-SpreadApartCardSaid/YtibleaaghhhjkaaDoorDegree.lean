/- soliton.Degree: by contracts. -/
import Derived.Test.YtibleaaghhhjkaaDoorOnce
import Derived.Deep.QuietTactic
import Derived.BigQuiet
import Derived.Deep.DeepCutAuto
namespace Go.Proofs.YtibleaaghhhjkaaDoor
open Go.RowKit
open SoM
theorem sm_mono (n i j : Nat) (h : i ≤ j) : sm n i ≤ sm n j := by
  induction j with
  | zero =>
    have h0 : i = 0 := by omega
    subst h0
    exact Nat.le_refl _
  | succ j ih =>
    rcases Nat.lt_or_ge j i with h2 | h2
    · obtain rfl : i = j + 1 := by omega
      exact Nat.le_refl _
    · have := ih h2
      show sm n i ≤ sm n j + wt n (j + 1)
      omega
/-- d is the number that a falls on -/
def IsDeg (n a d : Nat) : Prop := 1 ≤ d ∧ d ≤ n ∧ sm n (d - 1) ≤ a ∧ a < sm n d
theorem IsDeg.uniq {n a d d' : Nat} (h : IsDeg n a d) (h' : IsDeg n a d') : d = d' := by
  obtain ⟨_, _, h3, h4⟩ := h
  obtain ⟨_, _, h7, h8⟩ := h'
  rcases Nat.lt_trichotomy d d' with e | e | e
  · have := sm_mono n d (d' - 1) (by omega); omega
  · exact e
  · have := sm_mono n d' (d - 1) (by omega); omega
theorem IsDeg.mono {n a a' d d' : Nat} (h : IsDeg n a d) (h' : IsDeg n a' d') (ha : a ≤ a') : d ≤ d' := by
  obtain ⟨_, _, h3, h4⟩ := h
  obtain ⟨_, _, h7, h8⟩ := h'
  rcases Nat.lt_or_ge d' d with e | e
  · have := sm_mono n d' (d - 1) (by omega); omega
  · exact e
theorem sms_getD (n k : Nat) (h : k < n) : (sms n n).getD k 0 = sm n (k + 1) := by simp [sms, h, List.getD]
def atx (n x : Nat) : Nat := x * sm n n / 4294967296
theorem atx_lt (n x : Nat) (h1 : 1 ≤ n) (h2 : n ≤ 80) (hx : x < 4294967296) : atx n x < sm n n := by
  obtain ⟨_, _, _, _, _, _, h7⟩ := wt_bound n n h1 h2 h1 (Nat.le_refl _)
  unfold atx
  rw [Nat.div_lt_iff_lt_mul (by omega), Nat.mul_comm]
  exact Nat.mul_lt_mul_of_pos_left hx h7
theorem degree_nil (x : Nat) (w : World) : Calls Tryd.prog 28 #[.pointer none, .int .u32 (x : Int)] w fun e w' => e = .returned (.int .i64 0) ∧ w = w' := by
  go_enter Tryd.func28, Tryd.ntmps28
  go_wp2_with (go_at_call 58; refine (empty_nil _).mono ?_; rintro e w' ⟨rfl, rfl⟩)
  go_ret
  exact ⟨rfl, rfl⟩
/-- a table whose sums are there -/
def Full (w : World) (g n : Nat) : Prop := ∃ A c, Tab w g n 1 0 (.slice A n c) ∧ Row w w.heap.size A n (u6 (sms n n)) ∧ (∀ b o, A = some ⟨b, o, none⟩ → b ≠ g)
theorem Full.below {w w' : World} {g n : Nat} (h : Full w g n) (hb : Below w.heap.size w w') : Full w' g n := by
  obtain ⟨A, c, h1, h2, h3⟩ := h
  exact ⟨A, c, h1.below hb h1.lt, (h2.below hb).more hb.size, h3⟩
theorem Full.lt {w : World} {g n : Nat} (h : Full w g n) : g < w.heap.size := by obtain ⟨A, c, h1, _⟩ := h; exact h1.lt
def DegOk (g n x : Nat) (w : World) (e : Ending) (w' : World) : Prop :=
  ∃ d : Nat, e = .returned (.int .i64 (d : Int)) ∧ Hid (IsDeg n (atx n x) d) ∧ Hid (Full w' g n) ∧ Hid (But w.heap.size g w w')
set_option maxRecDepth 100000 in
set_option maxHeartbeats 3200000 in
theorem degree_again (g n x : Nat) (w : World) (h : Full w g n) (h1 : 1 ≤ n) (h2 : n ≤ 80) (hx : x < 4294967296) :
    Calls Tryd.prog 28 #[.pointer (some ⟨g, 0, none⟩), .int .u32 (x : Int)] w (DegOk g n x w) := by
  have HF := Lib.hid h
  obtain ⟨A, c, hT, hR, _⟩ := h
  have HT := Lib.hid hT
  have HE := Lib.hid (fun w hT => empty_no g n 1 0 (.slice A n c) w hT h1)
  have HD := Lib.hid (fun (f : Value) w hT => do_done g n (.slice A n c) f w hT)
  obtain ⟨c0, _, _, _, c4⟩ := hT.cells
  obtain ⟨b, o, rfl, _, hcl⟩ := hR.cellAt (k := n - 1) (by omega) (u6_get _ (n - 1) (by rw [sms_length]; omega))
  rw [sms_getD n (n - 1) (by omega), show n - 1 + 1 = n by omega] at hcl
  have HR := Lib.hid hR
  obtain ⟨_, _, _, hs4, _, _, _⟩ := wt_bound n n h1 h2 h1 (Nat.le_refl _)
  have HATL := Lib.hid (atx_lt n x h1 h2 hx)
  obtain ⟨S, hS⟩ : ∃ S, sm n n = S := ⟨_, rfl⟩
  obtain ⟨T, hTT⟩ : ∃ T, atx n x = T := ⟨_, rfl⟩
  rw [hS] at hcl hs4
  have hmul : ∃ Q : Nat, (x : Int) * (S : Int) = (Q : Int) ∧ Q ≤ 18446744073709551615 ∧ (Q : Int) / 4294967296 = (T : Int) := by
    refine ⟨x * S, by push_cast; rfl, ?_, ?_⟩
    · have := Nat.mul_le_mul (show x ≤ 4294967296 by omega) hs4
      omega
    · rw [← hTT, atx, hS]; rfl
  obtain ⟨Q, hQ, hQ2, hQ3⟩ := hmul
  have HTT := Lib.hid hTT
  have HS := Lib.hid hS
  rw [hTT] at HATL
  have hni : (0 : Int) ≤ (n : Int) - 1 := by omega
  have hni2 : (n : Int) - 1 < (n : Int) := by omega
  have hnn : ((n : Int) - 1).toNat = n - 1 := by omega
  have hwn : IntKind.i64.wrap ((n : Int) - 1) = (n : Int) - 1 := IntWalk.i64_in _ (by omega)
  have hQi : (Q : Int) ≤ 18446744073709551615 := by omega
  have hwq : IntKind.u64.wrap (Q : Int) = (Q : Int) := by simp only [IntKind.wrap, IntKind.bits, IntKind.signed]; simp; omega
  have hwx : IntKind.u64.wrap (x : Int) = (x : Int) := by simp only [IntKind.wrap, IntKind.bits, IntKind.signed]; simp; omega
  have HQI := Lib.hid hQi
  clear hT hR hs4 hS hTT hQ2 hQi hx
  go_enter Tryd.func28, Tryd.ntmps28
  go_wp2_with (first | (go_at_call 58; refine (HE.out _ HT.out).mono ?_; rintro e w' ⟨rfl, rfl⟩) | (go_at_call 59; refine (HD.out _ _ HT.out).mono ?_; rintro e w' ⟨rfl, rfl⟩))
  go_quiet (fail)
  go_wp2_with fail
  have hFd : Hid (Full (w.drewN nq) g n) := HF.out.below ⟨rfl, rfl, rfl, Nat.le_refl _, fun _ _ => rfl⟩
  have hBd : Hid (But w.heap.size g w (w.drewN nq)) := But.of_below ⟨rfl, rfl, rfl, Nat.le_refl _, fun _ _ => rfl⟩
  have hc4d : (w.drewN nq).cell? ⟨g, 4, none⟩ = some (.slice (some ⟨b, o, none⟩) n c) := c4
  have hRd : Hid (Row (w.drewN nq) w.heap.size (some ⟨b, o, none⟩) n (u6 (sms n n))) := HR.out
  clear c0 c4 hcl hwx hwq hQ hQ3 hwn hnn hni hni2
  generalize w.drewN nq = w1 at *
  go_loop [6] (fun z => ∃ k : Nat, k < n ∧ z = .int .i64 (k + 1 : Nat) ∧ sm n k ≤ T) (fun z => n + 1 - (intOf z).toNat)
  case atStart => exact ⟨0, by omega, rfl, by simp [sm]⟩
  case round =>
    obtain ⟨k, hk, rfl, hle⟩ := hrel
    rw [show ((k + 1 : Nat) : Int) = (k : Int) + 1 by push_cast; rfl]
    obtain ⟨b', o', e', _, hcl⟩ := hRd.out.cellAt (k := k) hk (u6_get _ k (by rw [sms_length]; exact hk))
    injection e' with e'
    injection e' with e1 e2
    subst e1 e2
    rw [sms_getD n k hk] at hcl
    have hki : (k : Int) < (n : Int) := by omega
    have HLE := Lib.hid hle
    obtain ⟨Y, hY⟩ : ∃ Y, sm n (k + 1) = Y := ⟨_, rfl⟩
    rw [hY] at hcl
    have HY := Lib.hid hY
    clear hle hY
    by_cases hc : Y ≤ T
    · have hci : (Y : Int) ≤ (T : Int) := by omega
      have hkn : k + 1 < n := by
        rcases Nat.lt_or_ge (k + 1) n with h | h
        · exact h
        · have : k + 1 = n := by omega
          have h2 := HATL.out
          have h3 := HY.out
          rw [this] at h3
          omega
      go_wp2_with fail
      go_round
      case rel => exact ⟨k + 1, by omega, by go_num, by rw [HY.out]; exact hc⟩
      case measure => simp [intOf]; omega
    · have hci : ¬ (Y : Int) ≤ (T : Int) := by omega
      go_wp2_with fail
      go_ret
      refine ⟨k + 1, rfl, ?_, hFd, hBd⟩
      show IsDeg _ _ _
      rw [HTT.out]
      exact ⟨by omega, by omega, HLE.out, by rw [HY.out]; omega⟩
set_option maxRecDepth 100000 in
set_option maxHeartbeats 3200000 in
theorem degree_first (g n x : Nat) (w : World) (h : Tab w g n 0 0 (.slice none 0 0)) (h1 : 1 ≤ n) (h2 : n ≤ 80) (hx : x < 4294967296) :
    Calls Tryd.prog 28 #[.pointer (some ⟨g, 0, none⟩), .int .u32 (x : Int)] w (DegOk g n x w) := by
  have HT0 := Lib.hid h
  have hglt := h.lt
  have HX := Lib.hid hx
  clear h hx
  go_enter Tryd.func28, Tryd.ntmps28
  go_wp2_with (go_at_call 58; refine (empty_no g n 0 0 _ _ HT0.out h1).mono ?_; rintro e w' ⟨rfl, rfl⟩)
  refine (do_first g n w HT0.out h1 h2).mono ?_
  rintro e w2 ⟨rfl, A, c, hT2, hown2, hbt⟩
  have hx := HX.out
  have hAg : ∀ b o, A = some ⟨b, o, none⟩ → b ≠ g := by
    intro b o eA
    obtain ⟨g', c', hv, hg', _⟩ := hown2.out.form (by omega)
    injection hv with e1 e2 e3
    rw [eA] at e1
    injection e1 with e1
    injection e1 with e1
    omega
  have hT := hT2.out
  have hR := Row.of_own hown2.out
  have HF : Hid (Full w2 g n) := ⟨A, c, hT, hR, hAg⟩
  clear hAg hT2 hown2 HT0
  obtain ⟨c0, _, _, _, c4⟩ := hT.cells
  obtain ⟨b, o, rfl, _, hcl⟩ := hR.cellAt (k := n - 1) (by omega) (u6_get _ (n - 1) (by rw [sms_length]; omega))
  rw [sms_getD n (n - 1) (by omega), show n - 1 + 1 = n by omega] at hcl
  have HR := Lib.hid hR
  obtain ⟨_, _, _, hs4, _, _, _⟩ := wt_bound n n h1 h2 h1 (Nat.le_refl _)
  have HATL := Lib.hid (atx_lt n x h1 h2 hx)
  obtain ⟨S, hS⟩ : ∃ S, sm n n = S := ⟨_, rfl⟩
  obtain ⟨T, hTT⟩ : ∃ T, atx n x = T := ⟨_, rfl⟩
  rw [hS] at hcl hs4
  have hmul : ∃ Q : Nat, (x : Int) * (S : Int) = (Q : Int) ∧ Q ≤ 18446744073709551615 ∧ (Q : Int) / 4294967296 = (T : Int) := by
    refine ⟨x * S, by push_cast; rfl, ?_, ?_⟩
    · have := Nat.mul_le_mul (show x ≤ 4294967296 by omega) hs4
      omega
    · rw [← hTT, atx, hS]; rfl
  obtain ⟨Q, hQ, hQ2, hQ3⟩ := hmul
  have HTT := Lib.hid hTT
  have HS := Lib.hid hS
  rw [hTT] at HATL
  have hni : (0 : Int) ≤ (n : Int) - 1 := by omega
  have hni2 : (n : Int) - 1 < (n : Int) := by omega
  have hnn : ((n : Int) - 1).toNat = n - 1 := by omega
  have hwn : IntKind.i64.wrap ((n : Int) - 1) = (n : Int) - 1 := IntWalk.i64_in _ (by omega)
  have hQi : (Q : Int) ≤ 18446744073709551615 := by omega
  have hwq : IntKind.u64.wrap (Q : Int) = (Q : Int) := by simp only [IntKind.wrap, IntKind.bits, IntKind.signed]; simp; omega
  have hwx : IntKind.u64.wrap (x : Int) = (x : Int) := by simp only [IntKind.wrap, IntKind.bits, IntKind.signed]; simp; omega
  have HQI := Lib.hid hQi
  clear hT hR hs4 hS hTT hQ2 hQi hx
  go_wp2_with fail
  go_quiet (fail)
  go_wp2_with fail
  have hFd : Hid (Full (w2.drewN nq) g n) := HF.out.below ⟨rfl, rfl, rfl, Nat.le_refl _, fun _ _ => rfl⟩
  have hBd : Hid (But w.heap.size g w (w2.drewN nq)) := hbt.out.trans <| But.of_below ⟨rfl, rfl, rfl, Nat.le_refl _, fun _ _ => rfl⟩
  have hc4d : (w2.drewN nq).cell? ⟨g, 4, none⟩ = some (.slice (some ⟨b, o, none⟩) n c) := c4
  have hRd : Hid (Row (w2.drewN nq) w2.heap.size (some ⟨b, o, none⟩) n (u6 (sms n n))) := HR.out
  clear c0 c4 hcl hwx hwq hQ hQ3 hwn hnn hni hni2
  generalize w2.drewN nq = w1 at *
  go_loop [6] (fun z => ∃ k : Nat, k < n ∧ z = .int .i64 (k + 1 : Nat) ∧ sm n k ≤ T) (fun z => n + 1 - (intOf z).toNat)
  case atStart => exact ⟨0, by omega, rfl, by simp [sm]⟩
  case round =>
    obtain ⟨k, hk, rfl, hle⟩ := hrel
    rw [show ((k + 1 : Nat) : Int) = (k : Int) + 1 by push_cast; rfl]
    obtain ⟨b', o', e', _, hcl⟩ := hRd.out.cellAt (k := k) hk (u6_get _ k (by rw [sms_length]; exact hk))
    injection e' with e'
    injection e' with e1 e2
    subst e1 e2
    rw [sms_getD n k hk] at hcl
    have hki : (k : Int) < (n : Int) := by omega
    have HLE := Lib.hid hle
    obtain ⟨Y, hY⟩ : ∃ Y, sm n (k + 1) = Y := ⟨_, rfl⟩
    rw [hY] at hcl
    have HY := Lib.hid hY
    clear hle hY
    by_cases hc : Y ≤ T
    · have hci : (Y : Int) ≤ (T : Int) := by omega
      have hkn : k + 1 < n := by
        rcases Nat.lt_or_ge (k + 1) n with h | h
        · exact h
        · have : k + 1 = n := by omega
          have h2 := HATL.out
          have h3 := HY.out
          rw [this] at h3
          omega
      go_wp2_with fail
      go_round
      case rel => exact ⟨k + 1, by omega, by go_num, by rw [HY.out]; exact hc⟩
      case measure => simp [intOf]; omega
    · have hci : ¬ (Y : Int) ≤ (T : Int) := by omega
      go_wp2_with fail
      go_ret
      refine ⟨k + 1, rfl, ?_, hFd, hBd⟩
      show IsDeg _ _ _
      rw [HTT.out]
      exact ⟨by omega, by omega, HLE.out, by rw [HY.out]; omega⟩
theorem tab_full_but {w w' : World} {g g' n : Nat} (h : Full w g n) (hb : But w.heap.size g' w w') (hg : g ≠ g') (hA : ∀ A c, Tab w g n 1 0 (.slice A n c) → ∀ b o, A = some ⟨b, o, none⟩ → b ≠ g') : Full w' g n := by
  obtain ⟨A, c, h1, h2, h3⟩ := h
  exact ⟨A, c, (hb.block g h1.lt hg).trans h1, (h2.but hb (fun b o e _ => hA A c h1 b o e)).more hb.size, h3⟩
end Go.Proofs.YtibleaaghhhjkaaDoor
