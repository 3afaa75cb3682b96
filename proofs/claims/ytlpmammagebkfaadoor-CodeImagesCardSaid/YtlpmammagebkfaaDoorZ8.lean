/- Contracts of the functions that the law calls, part 8. -/
import Derived.Deep.QuietTactic
import Derived.BigQuiet
import Derived.Deep.DeepCutAuto
import Derived.Laws.Rows
import Derived.Test.YtlpmammagebkfaaDoorZ7
namespace Go.Proofs.YtlpmammagebkfaaDoor
open Go.RowKit
open SoM
theorem sm_mono (n i j : Nat) (h : i ≤ j) : sm n i ≤ sm n j := by
  induction j with
  | zero =>
    have h0 : i = 0 := by omega
    subst h0
    exact Nat.le_refl _
  | succ j ih =>
    rcases Nat.lt_or_ge j i with h2 | h2
    · obtain rfl : i = j + 1 := by omega
      exact Nat.le_refl _
    · have := ih h2
      show sm n i ≤ sm n j + wt n (j + 1)
      omega
/-- d is the number that a falls on -/
def IsDeg (n a d : Nat) : Prop := 1 ≤ d ∧ d ≤ n ∧ sm n (d - 1) ≤ a ∧ a < sm n d
theorem IsDeg.uniq {n a d d' : Nat} (h : IsDeg n a d) (h' : IsDeg n a d') : d = d' := by
  obtain ⟨_, _, h3, h4⟩ := h
  obtain ⟨_, _, h7, h8⟩ := h'
  rcases Nat.lt_trichotomy d d' with e | e | e
  · have := sm_mono n d (d' - 1) (by omega); omega
  · exact e
  · have := sm_mono n d' (d - 1) (by omega); omega
theorem IsDeg.mono {n a a' d d' : Nat} (h : IsDeg n a d) (h' : IsDeg n a' d') (ha : a ≤ a') : d ≤ d' := by
  obtain ⟨_, _, h3, h4⟩ := h
  obtain ⟨_, _, h7, h8⟩ := h'
  rcases Nat.lt_or_ge d' d with e | e
  · have := sm_mono n d' (d - 1) (by omega); omega
  · exact e
theorem sms_getD (n k : Nat) (h : k < n) : (sms n n).getD k 0 = sm n (k + 1) := by simp [sms, h, List.getD]
def atx (n x : Nat) : Nat := x * sm n n / 4294967296
theorem atx_lt (n x : Nat) (h1 : 1 ≤ n) (h2 : n ≤ 80) (hx : x < 4294967296) : atx n x < sm n n := by
  obtain ⟨_, _, _, _, _, _, h7⟩ := wt_bound n n h1 h2 h1 (Nat.le_refl _)
  unfold atx
  rw [Nat.div_lt_iff_lt_mul (by omega), Nat.mul_comm]
  exact Nat.mul_lt_mul_of_pos_left hx h7
theorem degree_nil (x : Nat) (w : World) : Calls Tryd.prog 26 #[.pointer none, .int .u32 (x : Int)] w fun e w' => e = .returned (.int .i64 0) ∧ w = w' := by
  go_enter Tryd.func26, Tryd.ntmps26
  go_wp2_with (go_at_call 41; refine (empty_nil _).mono ?_; rintro e w' ⟨rfl, rfl⟩)
  go_ret
  exact ⟨rfl, rfl⟩
/-- a table whose sums are there -/
def Full (w : World) (g n : Nat) : Prop := ∃ A c, Tab w g n 1 0 (.slice A n c) ∧ Row w w.heap.size A n (u6 (sms n n)) ∧ (∀ b o, A = some ⟨b, o, none⟩ → b ≠ g)
theorem Full.below {w w' : World} {g n : Nat} (h : Full w g n) (hb : Below w.heap.size w w') : Full w' g n := by
  obtain ⟨A, c, h1, h2, h3⟩ := h
  exact ⟨A, c, h1.below hb h1.lt, (h2.below hb).more hb.size, h3⟩
theorem Full.lt {w : World} {g n : Nat} (h : Full w g n) : g < w.heap.size := by obtain ⟨A, c, h1, _⟩ := h; exact h1.lt
def DegOk (g n x : Nat) (w : World) (e : Ending) (w' : World) : Prop :=
  ∃ d : Nat, e = .returned (.int .i64 (d : Int)) ∧ Hid (IsDeg n (atx n x) d) ∧ Hid (Full w' g n) ∧ Hid (But w.heap.size g w w')
set_option maxRecDepth 100000 in
set_option maxHeartbeats 3200000 in
theorem degree_again (g n x : Nat) (w : World) (h : Full w g n) (h1 : 1 ≤ n) (h2 : n ≤ 80) (hx : x < 4294967296) :
    Calls Tryd.prog 26 #[.pointer (some ⟨g, 0, none⟩), .int .u32 (x : Int)] w (DegOk g n x w) := by
  have HF := Lib.hid h
  obtain ⟨A, c, hT, hR, _⟩ := h
  have HT := Lib.hid hT
  have HE := Lib.hid (fun w hT => empty_no g n 1 0 (.slice A n c) w hT h1)
  have HD := Lib.hid (fun (f : Value) w hT => do_done g n (.slice A n c) f w hT)
  obtain ⟨c0, _, _, _, c4⟩ := hT.cells
  obtain ⟨b, o, rfl, _, hcl⟩ := hR.cellAt (k := n - 1) (by omega) (u6_get _ (n - 1) (by rw [sms_length]; omega))
  rw [sms_getD n (n - 1) (by omega), show n - 1 + 1 = n by omega] at hcl
  have HR := Lib.hid hR
  obtain ⟨_, _, _, hs4, _, _, _⟩ := wt_bound n n h1 h2 h1 (Nat.le_refl _)
  have HATL := Lib.hid (atx_lt n x h1 h2 hx)
  obtain ⟨S, hS⟩ : ∃ S, sm n n = S := ⟨_, rfl⟩
  obtain ⟨T, hTT⟩ : ∃ T, atx n x = T := ⟨_, rfl⟩
  rw [hS] at hcl hs4
  have hmul : ∃ Q : Nat, (x : Int) * (S : Int) = (Q : Int) ∧ Q ≤ 18446744073709551615 ∧ (Q : Int) / 4294967296 = (T : Int) := by
    refine ⟨x * S, by push_cast; rfl, ?_, ?_⟩
    · have := Nat.mul_le_mul (show x ≤ 4294967296 by omega) hs4
      omega
    · rw [← hTT, atx, hS]; rfl
  obtain ⟨Q, hQ, hQ2, hQ3⟩ := hmul
  have HTT := Lib.hid hTT
  have HS := Lib.hid hS
  rw [hTT] at HATL
  have hni : (0 : Int) ≤ (n : Int) - 1 := by omega
  have hni2 : (n : Int) - 1 < (n : Int) := by omega
  have hnn : ((n : Int) - 1).toNat = n - 1 := by omega
  have hwn : IntKind.i64.wrap ((n : Int) - 1) = (n : Int) - 1 := IntWalk.i64_in _ (by omega)
  have hQi : (Q : Int) ≤ 18446744073709551615 := by omega
  have hwq : IntKind.u64.wrap (Q : Int) = (Q : Int) := by simp only [IntKind.wrap, IntKind.bits, IntKind.signed]; simp; omega
  have hwx : IntKind.u64.wrap (x : Int) = (x : Int) := by simp only [IntKind.wrap, IntKind.bits, IntKind.signed]; simp; omega
  have HQI := Lib.hid hQi
  clear hT hR hs4 hS hTT hQ2 hQi hx
  go_enter Tryd.func26, Tryd.ntmps26
  go_wp2_with (first | (go_at_call 41; refine (HE.out _ HT.out).mono ?_; rintro e w' ⟨rfl, rfl⟩) | (go_at_call 30; refine (HD.out _ _ HT.out).mono ?_; rintro e w' ⟨rfl, rfl⟩))
  go_quiet (fail)
  go_wp2_with fail
  have hFd : Hid (Full (w.drewN nq) g n) := HF.out.below ⟨rfl, rfl, rfl, Nat.le_refl _, fun _ _ => rfl⟩
  have hBd : Hid (But w.heap.size g w (w.drewN nq)) := But.of_below ⟨rfl, rfl, rfl, Nat.le_refl _, fun _ _ => rfl⟩
  have hc4d : (w.drewN nq).cell? ⟨g, 4, none⟩ = some (.slice (some ⟨b, o, none⟩) n c) := c4
  have hRd : Hid (Row (w.drewN nq) w.heap.size (some ⟨b, o, none⟩) n (u6 (sms n n))) := HR.out
  clear c0 c4 hcl hwx hwq hQ hQ3 hwn hnn hni hni2
  generalize w.drewN nq = w1 at *
  go_loop [6] (fun z => ∃ k : Nat, k < n ∧ z = .int .i64 (k + 1 : Nat) ∧ sm n k ≤ T) (fun z => n + 1 - (intOf z).toNat)
  case atStart => exact ⟨0, by omega, rfl, by simp [sm]⟩
  case round =>
    obtain ⟨k, hk, rfl, hle⟩ := hrel
    rw [show ((k + 1 : Nat) : Int) = (k : Int) + 1 by push_cast; rfl]
    obtain ⟨b', o', e', _, hcl⟩ := hRd.out.cellAt (k := k) hk (u6_get _ k (by rw [sms_length]; exact hk))
    injection e' with e'
    injection e' with e1 e2
    subst e1 e2
    rw [sms_getD n k hk] at hcl
    have hki : (k : Int) < (n : Int) := by omega
    have HLE := Lib.hid hle
    obtain ⟨Y, hY⟩ : ∃ Y, sm n (k + 1) = Y := ⟨_, rfl⟩
    rw [hY] at hcl
    have HY := Lib.hid hY
    clear hle hY
    by_cases hc : Y ≤ T
    · have hci : (Y : Int) ≤ (T : Int) := by omega
      have hkn : k + 1 < n := by
        rcases Nat.lt_or_ge (k + 1) n with h | h
        · exact h
        · have : k + 1 = n := by omega
          have h2 := HATL.out
          have h3 := HY.out
          rw [this] at h3
          omega
      go_wp2_with fail
      go_round
      case rel => exact ⟨k + 1, by omega, by go_num, by rw [HY.out]; exact hc⟩
      case measure => simp [intOf]; omega
    · have hci : ¬ (Y : Int) ≤ (T : Int) := by omega
      go_wp2_with fail
      go_ret
      refine ⟨k + 1, rfl, ?_, hFd, hBd⟩
      show IsDeg _ _ _
      rw [HTT.out]
      exact ⟨by omega, by omega, HLE.out, by rw [HY.out]; omega⟩
set_option maxRecDepth 100000 in
set_option maxHeartbeats 3200000 in
theorem degree_first (g n x : Nat) (w : World) (h : Tab w g n 0 0 (.slice none 0 0)) (h1 : 1 ≤ n) (h2 : n ≤ 80) (hx : x < 4294967296) :
    Calls Tryd.prog 26 #[.pointer (some ⟨g, 0, none⟩), .int .u32 (x : Int)] w (DegOk g n x w) := by
  have HT0 := Lib.hid h
  have hglt := h.lt
  have HX := Lib.hid hx
  clear h hx
  go_enter Tryd.func26, Tryd.ntmps26
  go_wp2_with (go_at_call 41; refine (empty_no g n 0 0 _ _ HT0.out h1).mono ?_; rintro e w' ⟨rfl, rfl⟩)
  refine (do_first g n w HT0.out h1 h2).mono ?_
  rintro e w2 ⟨rfl, A, c, hT2, hown2, hbt⟩
  have hx := HX.out
  have hAg : ∀ b o, A = some ⟨b, o, none⟩ → b ≠ g := by
    intro b o eA
    obtain ⟨g', c', hv, hg', _⟩ := hown2.out.form (by omega)
    injection hv with e1 e2 e3
    rw [eA] at e1
    injection e1 with e1
    injection e1 with e1
    omega
  have hT := hT2.out
  have hR := Row.of_own hown2.out
  have HF : Hid (Full w2 g n) := ⟨A, c, hT, hR, hAg⟩
  clear hAg hT2 hown2 HT0
  obtain ⟨c0, _, _, _, c4⟩ := hT.cells
  obtain ⟨b, o, rfl, _, hcl⟩ := hR.cellAt (k := n - 1) (by omega) (u6_get _ (n - 1) (by rw [sms_length]; omega))
  rw [sms_getD n (n - 1) (by omega), show n - 1 + 1 = n by omega] at hcl
  have HR := Lib.hid hR
  obtain ⟨_, _, _, hs4, _, _, _⟩ := wt_bound n n h1 h2 h1 (Nat.le_refl _)
  have HATL := Lib.hid (atx_lt n x h1 h2 hx)
  obtain ⟨S, hS⟩ : ∃ S, sm n n = S := ⟨_, rfl⟩
  obtain ⟨T, hTT⟩ : ∃ T, atx n x = T := ⟨_, rfl⟩
  rw [hS] at hcl hs4
  have hmul : ∃ Q : Nat, (x : Int) * (S : Int) = (Q : Int) ∧ Q ≤ 18446744073709551615 ∧ (Q : Int) / 4294967296 = (T : Int) := by
    refine ⟨x * S, by push_cast; rfl, ?_, ?_⟩
    · have := Nat.mul_le_mul (show x ≤ 4294967296 by omega) hs4
      omega
    · rw [← hTT, atx, hS]; rfl
  obtain ⟨Q, hQ, hQ2, hQ3⟩ := hmul
  have HTT := Lib.hid hTT
  have HS := Lib.hid hS
  rw [hTT] at HATL
  have hni : (0 : Int) ≤ (n : Int) - 1 := by omega
  have hni2 : (n : Int) - 1 < (n : Int) := by omega
  have hnn : ((n : Int) - 1).toNat = n - 1 := by omega
  have hwn : IntKind.i64.wrap ((n : Int) - 1) = (n : Int) - 1 := IntWalk.i64_in _ (by omega)
  have hQi : (Q : Int) ≤ 18446744073709551615 := by omega
  have hwq : IntKind.u64.wrap (Q : Int) = (Q : Int) := by simp only [IntKind.wrap, IntKind.bits, IntKind.signed]; simp; omega
  have hwx : IntKind.u64.wrap (x : Int) = (x : Int) := by simp only [IntKind.wrap, IntKind.bits, IntKind.signed]; simp; omega
  have HQI := Lib.hid hQi
  clear hT hR hs4 hS hTT hQ2 hQi hx
  go_wp2_with fail
  go_quiet (fail)
  go_wp2_with fail
  have hFd : Hid (Full (w2.drewN nq) g n) := HF.out.below ⟨rfl, rfl, rfl, Nat.le_refl _, fun _ _ => rfl⟩
  have hBd : Hid (But w.heap.size g w (w2.drewN nq)) := hbt.out.trans <| But.of_below ⟨rfl, rfl, rfl, Nat.le_refl _, fun _ _ => rfl⟩
  have hc4d : (w2.drewN nq).cell? ⟨g, 4, none⟩ = some (.slice (some ⟨b, o, none⟩) n c) := c4
  have hRd : Hid (Row (w2.drewN nq) w2.heap.size (some ⟨b, o, none⟩) n (u6 (sms n n))) := HR.out
  clear c0 c4 hcl hwx hwq hQ hQ3 hwn hnn hni hni2
  generalize w2.drewN nq = w1 at *
  go_loop [6] (fun z => ∃ k : Nat, k < n ∧ z = .int .i64 (k + 1 : Nat) ∧ sm n k ≤ T) (fun z => n + 1 - (intOf z).toNat)
  case atStart => exact ⟨0, by omega, rfl, by simp [sm]⟩
  case round =>
    obtain ⟨k, hk, rfl, hle⟩ := hrel
    rw [show ((k + 1 : Nat) : Int) = (k : Int) + 1 by push_cast; rfl]
    obtain ⟨b', o', e', _, hcl⟩ := hRd.out.cellAt (k := k) hk (u6_get _ k (by rw [sms_length]; exact hk))
    injection e' with e'
    injection e' with e1 e2
    subst e1 e2
    rw [sms_getD n k hk] at hcl
    have hki : (k : Int) < (n : Int) := by omega
    have HLE := Lib.hid hle
    obtain ⟨Y, hY⟩ : ∃ Y, sm n (k + 1) = Y := ⟨_, rfl⟩
    rw [hY] at hcl
    have HY := Lib.hid hY
    clear hle hY
    by_cases hc : Y ≤ T
    · have hci : (Y : Int) ≤ (T : Int) := by omega
      have hkn : k + 1 < n := by
        rcases Nat.lt_or_ge (k + 1) n with h | h
        · exact h
        · have : k + 1 = n := by omega
          have h2 := HATL.out
          have h3 := HY.out
          rw [this] at h3
          omega
      go_wp2_with fail
      go_round
      case rel => exact ⟨k + 1, by omega, by go_num, by rw [HY.out]; exact hc⟩
      case measure => simp [intOf]; omega
    · have hci : ¬ (Y : Int) ≤ (T : Int) := by omega
      go_wp2_with fail
      go_ret
      refine ⟨k + 1, rfl, ?_, hFd, hBd⟩
      show IsDeg _ _ _
      rw [HTT.out]
      exact ⟨by omega, by omega, HLE.out, by rw [HY.out]; omega⟩
theorem tab_full_but {w w' : World} {g g' n : Nat} (h : Full w g n) (hb : But w.heap.size g' w w') (hg : g ≠ g') (hA : ∀ A c, Tab w g n 1 0 (.slice A n c) → ∀ b o, A = some ⟨b, o, none⟩ → b ≠ g') : Full w' g n := by
  obtain ⟨A, c, h1, h2, h3⟩ := h
  exact ⟨A, c, (hb.block g h1.lt hg).trans h1, (h2.but hb (fun b o e _ => hA A c h1 b o e)).more hb.size, h3⟩
end Go.Proofs.YtlpmammagebkfaaDoor
namespace Go.Proofs.YtlpmammagebkfaaDoor.Sp
open Go.RowKit
open VecM RdM SoM Vc
def degP (n a d : Nat) : Bool := decide (1 ≤ d) && decide (d ≤ n) && decide (sm n (d - 1) ≤ a) && decide (a < sm n d)
theorem degP_iff (n a d : Nat) : degP n a d = true ↔ IsDeg n a d := by
  unfold degP IsDeg; simp [and_assoc]
/-- the degree -/
def degF (n a : Nat) : Nat := ((List.range 81).find? (degP n a)).getD 0
theorem degF_eq {n a d : Nat} (h : IsDeg n a d) (hn : n ≤ 80) : degF n a = d := by
  have hd : d ∈ List.range 81 := by have := h.2.1; simp; omega
  unfold degF
  cases hf : (List.range 81).find? (degP n a) with
  | none =>
    rw [List.find?_eq_none] at hf
    exact absurd ((degP_iff n a d).2 h) (hf d hd)
  | some d' =>
    have h2 := (degP_iff n a d').1 (List.find?_some hf)
    exact (h.uniq h2).symm
theorem deg_exists (n a : Nat) (ha : a < sm n n) : ∃ d, IsDeg n a d := by
  have key : ∀ m, m ≤ n → a < sm n m → ∃ d, 1 ≤ d ∧ d ≤ m ∧ sm n (d - 1) ≤ a ∧ a < sm n d := by
    intro m
    induction m with
    | zero => intro _ h; exact absurd h (by simp [sm])
    | succ m ih =>
      intro hm h
      by_cases h2 : a < sm n m
      · obtain ⟨d, h3, h4, h5⟩ := ih (by omega) h2
        exact ⟨d, h3, by omega, h5⟩
      · exact ⟨m + 1, by omega, by omega, by simpa using h2, h⟩
  obtain ⟨d, h1, h2, h3, h4⟩ := key n (Nat.le_refl n) ha
  exact ⟨d, h1, h2, h3, h4⟩
/-- numbers that are all different, each within: so many bits are set -/
theorem count_fold (n : Nat) (hn : n ≤ 256) : ∀ (l : List Int) (X : Nat), l.Nodup → (∀ z ∈ l, 0 ≤ z ∧ z < (n : Int)) → (∀ z ∈ l, X.testBit z.toNat = false) → (L (l.foldl (setOne n) X) 256).length = (L X 256).length + l.length
  | [], X, _, _, _ => by simp
  | z :: t, X, hd, hr, hb => by
    have hz := hr z (by simp)
    have hzb := hb z (by simp)
    rw [List.nodup_cons] at hd
    have e : setOne n X z = X ||| 2 ^ z.toNat := by unfold setOne; rw [if_pos hz]
    rw [List.foldl_cons, e, count_fold n hn t _ hd.2 (fun y hy => hr y (by simp [hy])) (fun y hy => ?_), L_set X z.toNat hzb 256, if_pos (by omega), List.length_cons]
    · omega
    · rw [set_bit, hb y (by simp [hy])]
      have hy2 := hr y (by simp [hy])
      have : ¬ z.toNat = y.toNat := by
        intro e2
        have : z = y := by omega
        subst this
        exact hd.1 hy
      simp [this]
theorem count_ofL {n : Nat} (hn : n ≤ 256) {l : List Int} (hd : l.Nodup) (hr : ∀ z ∈ l, 0 ≤ z ∧ z < (n : Int)) : (Ls (ofL n l)).length = l.length := by
  have := count_fold n hn l 0 hd hr (fun z _ => by simp)
  rw [L_zero, List.length_nil, Nat.zero_add] at this
  exact this
/-- the row's numbers where chance tells them -/
def chance (s n id : Nat) : List Int := some_ n (sh (seed (s : Int) (id : Int))) (degF n (atx n (mx (sh (seed (s : Int) (id : Int)))).toNat))
/-- the pieces of symbol id -/
def spX (s K P id : Nat) : Nat := if id < K then 2 ^ id else ofL (K + P) (chance s (K + P) id)
theorem spX_lt {s K P id : Nat} : spX s K P id < 2 ^ (K + P) := by
  unfold spX
  split
  · exact Nat.pow_lt_pow_right (by decide) (by omega)
  · exact ofL_lt _
theorem pow_bit (i j : Nat) : (2 ^ i).testBit j = decide (i = j) := Nat.testBit_two_pow
theorem ofL_one (n i : Nat) (h : i < n) : ofL n [(i : Int)] = 2 ^ i := by
  show setOne n 0 (i : Int) = _
  unfold setOne
  rw [if_pos (by omega)]; simp
theorem Ls_pow (i : Nat) (h : i < 256) : Ls (2 ^ i) = [i] := by
  have h1 : (2 ^ i).testBit i = true := by rw [pow_bit]; simp
  have h2 : ∀ j, j < i → (2 ^ i).testBit j = false := fun j hj => by rw [pow_bit]; simp; omega
  have h3 : clr (2 ^ i) i = 0 := by
    apply Nat.eq_of_testBit_eq; intro j
    rw [clr_bit, pow_bit, Nat.zero_testBit]
    by_cases e : i = j
    · subst e; simp
    · simp [e]
  unfold Ls
  rw [L_low _ i 256 h h1 h2, h3, L_zero]
theorem chance_facts {s n id d : Nat} (hn : 1 ≤ n) (hn2 : n ≤ 80) (hd : IsDeg n (atx n (mx (sh (seed (s : Int) (id : Int)))).toNat) d) : (chance s n id).length = d ∧ (chance s n id).Nodup ∧ ∀ z ∈ chance s n id, 0 ≤ z ∧ z < (n : Int) := by
  have e := degF_eq hd hn2
  unfold chance
  rw [e]
  have h1 := some_sub n (by omega) (sh (seed (s : Int) (id : Int))) d hd.2.1
  exact ⟨some_length n _ d hd.2.1, h1.1, h1.2⟩
/-- how many pieces a row has: one at least -/
theorem spX_count {s K P id : Nat} (hK : 1 ≤ K) (hn2 : K + P ≤ 80) : 1 ≤ (Ls (spX s K P id)).length ∧ (Ls (spX s K P id)).length ≤ K + P ∧ (id < K → Ls (spX s K P id) = [id]) := by
  by_cases h : id < K
  · have e : spX s K P id = 2 ^ id := by unfold spX; rw [if_pos h]
    rw [e, Ls_pow id (by omega)]
    exact ⟨by simp, by simp; omega, fun _ => rfl⟩
  · have hm := mx_bounds (sh (seed (s : Int) (id : Int)))
    obtain ⟨d, hd⟩ := deg_exists (K + P) _ (atx_lt (K + P) (mx (sh (seed (s : Int) (id : Int)))).toNat (by omega) hn2 (by omega))
    obtain ⟨h1, h2, h3⟩ := chance_facts (s := s) (id := id) (by omega) hn2 hd
    have e : spX s K P id = ofL (K + P) (chance s (K + P) id) := by unfold spX; rw [if_neg h]
    rw [e, count_ofL (by omega) h2 h3, h1]
    exact ⟨hd.1, hd.2.1, fun h' => absurd h' h⟩
end Go.Proofs.YtlpmammagebkfaaDoor.Sp
namespace Go.Proofs.YtlpmammagebkfaaDoor.Cd
open Go.RowKit
open VecM RdM Vc Sp Pc
/-- symbol id -/
def symX (s K P Z : Nat) (img : List UInt8) (id : Nat) : List UInt8 := sumF ((Ls (spX s K P id)).map fun i => (allC s K P Z img).getD i [])
theorem sumF_eq {h : List UInt8} {t : List (List UInt8)} (e : ∀ x ∈ t, x.length = h.length) : sumF (h :: t) = sumTo h t := by
  show (if ∀ x ∈ t, x.length = h.length then sumTo h t else []) = _
  rw [if_pos e]
theorem Ls_lt {s K P id i : Nat} (hi : i ∈ Ls (spX s K P id)) : i < K + P := by
  have h := (mem_L _ _ _).1 hi
  by_cases e : i < K + P
  · exact e
  · have h1 : spX s K P id < 2 ^ i := Nat.lt_of_lt_of_le spX_lt (Nat.pow_le_pow_right (by decide) (by omega))
    rw [Nat.testBit_lt_two_pow h1] at h
    exact absurd h.2 (by decide)
theorem sumF_z {l : List (List UInt8)} {Z : Nat} (h0 : l ≠ []) (h : ∀ x ∈ l, x.length = Z) : (sumF l).length = Z := by
  cases l with
  | nil => exact absurd rfl h0
  | cons a t =>
    have ha := h a (by simp)
    rw [sumF_eq (fun x hx => by rw [h x (by simp [hx]), ha]), sumTo_length, ha]
theorem sym_z {s K P Z id : Nat} {img : List UInt8} : ∀ x ∈ (Ls (spX s K P id)).map (fun i => (allC s K P Z img).getD i []), x.length = Z := by
  intro x hx
  obtain ⟨i, hi, rfl⟩ := List.mem_map.1 hx
  exact allC_zi (Ls_lt hi)
theorem sym_ne {s K P Z id : Nat} {img : List UInt8} (hK : 1 ≤ K) (hn : K + P ≤ 80) : (Ls (spX s K P id)).map (fun i => (allC s K P Z img).getD i []) ≠ [] := by
  have h := (spX_count (s := s) (id := id) hK hn).1
  intro e
  have := congrArg List.length e
  simp at this
  rw [this] at h
  simp at h
theorem symX_length {s K P Z id : Nat} {img : List UInt8} (hK : 1 ≤ K) (hn : K + P ≤ 80) : (symX s K P Z img id).length = Z := sumF_z (sym_ne hK hn) sym_z
theorem symX_first {s K P Z id : Nat} {img : List UInt8} (h : id < K) (hK : 1 ≤ K) (hn : K + P ≤ 80) : symX s K P Z img id = (allC s K P Z img).getD id [] := by
  unfold symX
  rw [(spX_count (s := s) (id := id) hK hn).2.2 h]
  show sumF [_] = _
  rw [sumF_eq (by simp)]
  rfl
theorem xorL_getD (a b : List UInt8) (j : Nat) (h : j < a.length) : (xorL a b).getD j 0 = a.getD j 0 ^^^ b.getD j 0 := by
  unfold xorL
  rw [xl_getD _ _ _ _ h, if_pos h]
theorem sumTo_getD (j : Nat) : ∀ (t : List (List UInt8)) (h : List UInt8), j < h.length → (sumTo h t).getD j 0 = t.foldl (fun a x => a ^^^ x.getD j 0) (h.getD j 0)
  | [], h, _ => rfl
  | x :: t, h, hj => by
    show (sumTo (xorL h x) t).getD j 0 = _
    rw [sumTo_getD j t (xorL h x) (by rw [xorL_length]; exact hj), xorL_getD _ _ _ hj]
    rfl
theorem xor4 (a b c d : UInt8) : (a ^^^ b) ^^^ (c ^^^ d) = (a ^^^ c) ^^^ (b ^^^ d) := by
  rw [UInt8.xor_assoc, UInt8.xor_assoc, ← UInt8.xor_assoc b c d, UInt8.xor_comm b c, UInt8.xor_assoc c b d]
theorem fold_lin (fa fb fc : Nat → UInt8) : ∀ (l : List Nat) (a b : UInt8), (∀ i ∈ l, fc i = fa i ^^^ fb i) → l.foldl (fun x i => x ^^^ fc i) (a ^^^ b) = l.foldl (fun x i => x ^^^ fa i) a ^^^ l.foldl (fun x i => x ^^^ fb i) b
  | [], a, b, _ => rfl
  | i :: l, a, b, h => by
    show l.foldl _ ((a ^^^ b) ^^^ fc i) = l.foldl _ (a ^^^ fa i) ^^^ l.foldl _ (b ^^^ fb i)
    rw [h i (by simp), xor4, fold_lin fa fb fc l _ _ (fun i hi => h i (by simp [hi]))]
theorem sumF_lin {l : List Nat} {Z : Nat} (fa fb fc : Nat → List UInt8) (h0 : l ≠ []) (ha : ∀ i ∈ l, (fa i).length = Z) (hb : ∀ i ∈ l, (fb i).length = Z) (hc : ∀ i ∈ l, (fc i).length = Z) (j : Nat) (hj : j < Z)
    (h : ∀ i ∈ l, (fc i).getD j 0 = (fa i).getD j 0 ^^^ (fb i).getD j 0) : (sumF (l.map fc)).getD j 0 = (sumF (l.map fa)).getD j 0 ^^^ (sumF (l.map fb)).getD j 0 := by
  cases l with
  | nil => exact absurd rfl h0
  | cons i t =>
    have g : ∀ f : Nat → List UInt8, (∀ i' ∈ i :: t, (f i').length = Z) → (sumF ((i :: t).map f)).getD j 0 = t.foldl (fun x k => x ^^^ (f k).getD j 0) ((f i).getD j 0) := by
      intro f hf
      rw [List.map_cons, sumF_eq (fun x hx => by
        obtain ⟨k, hk, rfl⟩ := List.mem_map.1 hx
        rw [hf k (by simp [hk]), hf i (by simp)]), sumTo_getD _ _ _ (by rw [hf i (by simp)]; exact hj), List.foldl_map]
    rw [g fa ha, g fb hb, g fc hc, h i (by simp)]
    exact fold_lin (fun k => (fa k).getD j 0) (fun k => (fb k).getD j 0) (fun k => (fc k).getD j 0) t _ _ (fun k hk => h k (by simp [hk]))
theorem piece_getD (img : List UInt8) (Z i j : Nat) (hj : j < Z) : (BlkM.piece img Z i).getD j 0 = img.getD (i * Z + j) 0 := by
  unfold BlkM.piece
  by_cases h : j < ((img.drop (i * Z)).take Z).length
  · rw [List.getD_eq_getElem?_getD, List.getElem?_append_left h, List.getElem?_take, if_pos hj, List.getElem?_drop, List.getD_eq_getElem?_getD]
  · have h2 : img[i * Z + j]? = none := by
      apply List.getElem?_eq_none
      simp at h; omega
    rw [List.getD_eq_getElem?_getD, List.getElem?_append_right (by omega), List.getD_eq_getElem?_getD, h2]
    rw [List.getElem?_replicate]
    split <;> rfl
/-- images of one length: what is the sum of two has symbols that are sums -/
theorem symX_lin {s K P Z id : Nat} {a b c : List UInt8} (hK : 1 ≤ K) (hn : K + P ≤ 80) (h : ∀ j, c.getD j 0 = a.getD j 0 ^^^ b.getD j 0) (j : Nat) (hj : j < Z) :
    (symX s K P Z c id).getD j 0 = (symX s K P Z a id).getD j 0 ^^^ (symX s K P Z b id).getD j 0 := by
  have hne : Ls (spX s K P id) ≠ [] := by
    have h := (spX_count (s := s) (id := id) hK hn).1
    intro e; rw [e] at h; simp at h
  have hR : RelS Z (pcsL a Z K) K (pcsL b Z K) (pcsL c Z K) := ⟨pcsL_length _ _ _, pcsL_length _ _ _, pcsL_z, pcsL_z, fun i hi j hj => by
    rw [pcsL_get hi, pcsL_get hi, pcsL_get hi, piece_getD _ _ _ _ hj, piece_getD _ _ _ _ hj, piece_getD _ _ _ _ hj, h]⟩
  exact sumF_lin (fun i => (allC s K P Z a).getD i []) (fun i => (allC s K P Z b).getD i []) (fun i => (allC s K P Z c).getD i []) hne (fun i hi => allC_zi (Ls_lt hi)) (fun i hi => allC_zi (Ls_lt hi)) (fun i hi => allC_zi (Ls_lt hi)) j hj
    (fun i hi => allP_lin (pcsL_length _ _ _) hR i (Ls_lt hi) j hj)
end Go.Proofs.YtlpmammagebkfaaDoor.Cd
namespace Go.Proofs.YtlpmammagebkfaaDoor.Sp
open Go.RowKit
open VecM RdM SoM Vc
set_option maxRecDepth 100000 in
set_option maxHeartbeats 800000 in
theorem row_no (s id : Nat) (K P Z : Int) (w : World) (hm : mayB K P Z = false) : Calls Tryd.prog 11 #[parV s K P Z, .int .u32 (id : Int)] w fun e w' => e = .returned (.pointer none) ∧ Hid (Below w.heap.size w w') := by
  have hb0 : Below w.heap.size w (w.alloc (.cells #[.int .u32 (s : Int), .int .i64 K, .int .i64 P, .int .i64 Z] 24)) := (Below.refl _ _).alloc (Nat.le_refl _) _
  have HM := Lib.hid (fun W => may_any s K P Z W)
  rw [hm] at HM
  unfold parV at HM ⊢
  clear hm
  go_enter Tryd.func11, Tryd.ntmps11
  go_wp2_with fail
  refine (HM.out _).mono ?_
  rintro e w1 ⟨rfl, hb1⟩
  have HE := Lib.hid (hb0.trans (hb1.out.mono hb0.size))
  go_wp2_with fail
  go_ret
  exact ⟨rfl, HE⟩
set_option maxRecDepth 100000 in
set_option maxHeartbeats 1600000 in
theorem row_any (s id K P Z : Nat) (w : World) (hs : s < 4294967296) (hid : id < 4294967296) (hK : 1 ≤ K ∧ K ≤ 64) (hP : P ≤ 16) (hZ : 1 ≤ Z ∧ Z ≤ 16) : Calls Tryd.prog 11 #[parV s K P Z, .int .u32 (id : Int)] w (OfOk (K + P) (spX s K P id) w) := by
  have hx := heap_alloc_new w (.cells #[.int .u32 (s : Int), .int .i64 (K : Int), .int .i64 (P : Int), .int .i64 (Z : Int)] 24)
  have hb0 : Below w.heap.size w (w.alloc (.cells #[.int .u32 (s : Int), .int .i64 (K : Int), .int .i64 (P : Int), .int .i64 (Z : Int)] 24)) := (Below.refl _ _).alloc (Nat.le_refl _) _
  have hz : (w.alloc (.cells #[.int .u32 (s : Int), .int .i64 (K : Int), .int .i64 (P : Int), .int .i64 (Z : Int)] 24)).heap.size = w.heap.size + 1 := by simp
  have hm : mayB (K : Int) (P : Int) (Z : Int) = true := (mayB_iff _ _ _).2 ⟨by omega, by omega, by omega⟩
  have HM := Lib.hid (fun W => may_any s K P Z W)
  have HPC := Lib.hid (fun W => pieces_any s K P Z W (by omega) (by omega))
  rw [hm] at HM HPC
  have hn : (K : Int) + (P : Int) = ((K + P : Nat) : Int) := by omega
  rw [if_pos rfl, hn] at HPC
  have HX := Lib.hid hx
  have HB0 := Lib.hid hb0
  have HZ' := Lib.hid hz
  obtain ⟨n, hnn⟩ : ∃ n, K + P = n := ⟨_, rfl⟩
  rw [hnn] at HPC ⊢
  have hn80 : n ≤ 80 := by omega
  have hn1 : 1 ≤ n := by omega
  have HNN := Lib.hid hnn
  have hK1 := hK.1
  have hK2 := hK.2
  have HS := Lib.hid hs
  clear hx hb0 hz hm hn hnn hK hP hZ hs
  unfold parV at HM HPC ⊢
  by_cases hlt : id < K
  · have hlt' : (id : Int) < (K : Int) := by omega
    have HXX : Hid (spX s K P id = ofL n [(id : Int)]) := by
      show _ = _
      unfold spX; rw [if_pos hlt, ofL_one n id (by have := HNN.out; omega)]
    rw [HXX.out]
    clear hlt hid
    go_enter Tryd.func11, Tryd.ntmps11
    go_wp2_with fail
    refine (HM.out _).mono ?_
    rintro e w1 ⟨rfl, hb1⟩
    have hs1 : w.heap.size < w1.heap.size := by have := hb1.out.size; have := HZ'.out; omega
    have HX1 := Lib.hid ((hb1.out.block w.heap.size (by have := HZ'.out; omega)).trans HX.out)
    have HB1 := Lib.hid (HB0.out.trans (hb1.out.mono HB0.out.size))
    obtain ⟨c0, c1, c2, c3⟩ := box4 HX1.out
    clear hb1
    go_wp2_with fail
    refine (HPC.out _).mono ?_
    rintro e w2 ⟨rfl, hb2⟩
    have hs2 : w.heap.size < w2.heap.size := by have := hb2.out.size; omega
    have HX2 := Lib.hid ((hb2.out.block w.heap.size hs1).trans HX1.out)
    have HB2 := Lib.hid (HB1.out.trans (hb2.out.mono HB1.out.size))
    clear c0 c1 c2 c3 hb2
    obtain ⟨c0, c1, c2, c3⟩ := box4 HX2.out
    have hr : Row (w2.alloc (.cells #[.int .i64 (id : Int)] 3)) (w2.heap.size + 1) (some ⟨w2.heap.size, 0, none⟩) 1 (nv [(id : Int)]) := row_new w2 #[.int .i64 (id : Int)] 3 (0, 0)
    have HO := Lib.hid (of_any n (some ⟨w2.heap.size, 0, none⟩) 1 1 _ [(id : Int)] _ hr (by simp) (by omega) (by omega))
    have HB3 : Hid (Below w.heap.size w (w2.alloc (.cells #[.int .i64 (id : Int)] 3))) := HB2.out.alloc HB2.out.size _
    clear hr
    go_wp2_with fail
    refine HO.out.mono ?_
    rintro e w3 ⟨g, h, rfl, hg, hh, hv, hb3⟩
    have hs3 : w.heap.size ≤ (w2.alloc (.cells #[.int .i64 (id : Int)] 3)).heap.size := HB3.out.size
    have HE := Lib.hid (HB3.out.trans (hb3.out.mono HB3.out.size))
    have HG : Hid (w.heap.size ≤ g ∧ w.heap.size ≤ h) := ⟨by omega, by omega⟩
    clear hb3 hg hh hs3 c0 c1 c2 c3
    go_wp2_with fail
    go_ret
    exact ⟨g, h, rfl, HG.out.1, HG.out.2, hv, HE⟩
  · have hlt' : ¬ (id : Int) < (K : Int) := by omega
    have HXX : Hid (spX s K P id = ofL n (chance s n id)) := by
      show _ = _
      have := HNN.out
      unfold spX; rw [if_neg hlt, this]
    rw [HXX.out]
    obtain ⟨Q, hQ⟩ : ∃ Q, chance s n id = Q := ⟨_, rfl⟩
    rw [hQ]
    have HQ := Lib.hid hQ
    clear hlt hQ HXX
    go_enter Tryd.func11, Tryd.ntmps11
    go_wp2_with fail
    refine (HM.out _).mono ?_
    rintro e w1 ⟨rfl, hb1⟩
    have hs1 : w.heap.size < w1.heap.size := by have := hb1.out.size; have := HZ'.out; omega
    have HX1 := Lib.hid ((hb1.out.block w.heap.size (by have := HZ'.out; omega)).trans HX.out)
    have HB1 := Lib.hid (HB0.out.trans (hb1.out.mono HB0.out.size))
    obtain ⟨c0, c1, c2, c3⟩ := box4 HX1.out
    clear hb1
    go_wp2_with fail
    refine (HPC.out _).mono ?_
    rintro e w2 ⟨rfl, hb2⟩
    have hs2 : w.heap.size < w2.heap.size := by have := hb2.out.size; omega
    have HX2 := Lib.hid ((hb2.out.block w.heap.size hs1).trans HX1.out)
    have HB2 := Lib.hid (HB1.out.trans (hb2.out.mono HB1.out.size))
    clear c0 c1 c2 c3 hb2
    obtain ⟨c0, c1, c2, c3⟩ := box4 HX2.out
    have HNW := Lib.hid (Go.Proofs.YtlpmammagebkfaaDoor.new_any (s : Int) (id : Int) (by omega) (by have := HS.out; omega) (by omega) (by omega) w2)
    go_wp2_with fail
    refine HNW.out.mono ?_
    rintro e w3 ⟨rfl, hsrc3, hb3, hz3⟩
    have HSRC := Lib.hid hsrc3
    have HB3 := Lib.hid (HB2.out.trans (hb3.mono HB2.out.size))
    have hs3 : w2.heap.size < w3.heap.size := by omega
    clear hz3 hsrc3 hb3 c0 c1 c2 c3 HNW
    go_wp2_with fail
    have hbs3 := HB3.out.size
    refine (Go.Proofs.YtlpmammagebkfaaDoor.new_in n w3 hn1 hn80).mono ?_
    rintro e w4 ⟨rfl, htab, hb4⟩
    have HSRC4 := Lib.hid (HSRC.out.below hb4.out HSRC.out.lt)
    have HB4 := Lib.hid (HB3.out.trans (hb4.out.mono HB3.out.size))
    have hs4 := htab.out.lt
    have hs34 := hb4.out.size
    have HN4 := Lib.hid (Go.Proofs.YtlpmammagebkfaaDoor.next_any w2.heap.size _ w4 HSRC4.out)
    have hxm := mx_bounds (sh (seed (s : Int) (id : Int)))
    obtain ⟨x, hxx⟩ : ∃ x : Nat, mx (sh (seed (s : Int) (id : Int))) = (x : Int) := ⟨(mx (sh (seed (s : Int) (id : Int)))).toNat, by omega⟩
    have hx32 : x < 4294967296 := by omega
    rw [hxx] at HN4
    have HCH : Hid (some_ n (sh (seed (s : Int) (id : Int))) (degF n (atx n x)) = Q) := by
      show _ = _
      rw [← HQ.out]
      unfold chance
      rw [hxx, Int.toNat_natCast]
    generalize seed (s : Int) (id : Int) = sd at *
    have HHX := Lib.hid hx32
    clear hb4 HSRC HB3 hxm hxx hx32 HQ
    go_wp2_with fail
    refine HN4.out.mono ?_
    rintro e w5 ⟨rfl, hsrc5, hb5, hz5⟩
    have HTAB5 : Hid (Tab w5 w3.heap.size n 0 0 (.slice none 0 0)) := (hb5.block w3.heap.size hs4 (by omega)).trans htab.out
    have HSRC5 := Lib.hid hsrc5
    have HB5 := Lib.hid (HB4.out.trans (hb5.below (by omega) HB4.out.size))
    have hs5 : w5.heap.size = w4.heap.size := hz5
    have HZ5 := Lib.hid hs5
    clear hsrc5 hb5 hz5 hs5 htab HN4 HSRC4 HB4
    go_wp2_with fail
    refine (Go.Proofs.YtlpmammagebkfaaDoor.degree_first w3.heap.size n x w5 HTAB5.out hn1 hn80 HHX.out).mono ?_
    rintro e w6 ⟨d, rfl, hdeg, _, hb6⟩
    have HD : Hid (degF n (atx n x) = d) := degF_eq hdeg.out hn80
    rw [HD.out] at HCH
    have hd1 := hdeg.out.1
    have hdn := hdeg.out.2.1
    have hz5 := HZ5.out
    have HSRC6 := Lib.hid (hb6.out.other HSRC5.out (by omega) (by omega))
    have HB6 := Lib.hid (HB5.out.trans (hb6.out.below (by omega) HB5.out.size))
    have hs6 := hb6.out.size
    have HZ6 : Hid (w4.heap.size ≤ w6.heap.size) := by show _ ≤ _; omega
    have HST := Lib.hid (Go.Proofs.YtlpmammagebkfaaDoor.some_tot w2.heap.size n (sh sd) (d : Int) w6 HSRC6.out (by omega) d (by rw [kk_nat]; omega))
    clear hdeg hb6 HTAB5 HSRC5 HB5 hz5 hs6 HZ5 HD
    go_wp2_with fail
    refine HST.out.mono ?_
    rintro e w7 ⟨A7, c7, rfl, hrow7, _, hb7⟩
    have hz6 := HZ6.out
    have HB7 := Lib.hid (HB6.out.trans (hb7.out.below (by omega) HB6.out.size))
    have HO := Lib.hid (of_any n A7 d c7 _ (some_ n (sh sd) d) w7 hrow7.out (Nat.le_refl _) (by omega) (by omega))
    rw [HCH.out] at HO
    have hbs7 := HB7.out.size
    clear hrow7 hb7 HST HSRC6 HB6 hz6
    go_wp2_with fail
    refine HO.out.mono ?_
    rintro e w8 ⟨g, h, rfl, hg, hh, hv, hb8⟩
    have HE := Lib.hid (HB7.out.trans (hb8.out.mono HB7.out.size))
    have HG : Hid (w.heap.size ≤ g ∧ w.heap.size ≤ h) := ⟨by omega, by omega⟩
    clear hb8 hg hh
    go_wp2_with fail
    go_ret
    exact ⟨g, h, rfl, HG.out.1, HG.out.2, hv, HE⟩
end Go.Proofs.YtlpmammagebkfaaDoor.Sp
namespace Go.Proofs.YtlpmammagebkfaaDoor.Cd
open Go.RowKit
open VecM RdM Vc Sp Pc
/-- a head that has its pieces, in the rows of a list -/
def HMv (s K P Z : Nat) (img : List UInt8) (W : World) (B g : Nat) (A : Option Addr) (c : Nat) : Prop :=
  ∃ iv, W.heap[g]? = some (.cells (headC s K P Z iv 1 0 (.slice A (K + P) c)) 60 (0, 0)) ∧ PW (allC s K P Z img) B (.slice A (K + P) c) W ∧ g < B
theorem HMv.hm {s K P Z : Nat} {img : List UInt8} {W : World} {B g : Nat} {A : Option Addr} {c : Nat} (h : HMv s K P Z img W B g A c) : HM s K P Z img W B g := by
  obtain ⟨iv, h1, h2, h3⟩ := h
  exact ⟨iv, A, c, h1, h2, h3⟩
theorem HM.hv {s K P Z : Nat} {img : List UInt8} {W : World} {B g : Nat} (h : HM s K P Z img W B g) : ∃ A c, HMv s K P Z img W B g A c := by
  obtain ⟨iv, A, c, h1, h2, h3⟩ := h
  exact ⟨A, c, iv, h1, h2, h3⟩
theorem HMv.lt {s K P Z : Nat} {img : List UInt8} {W : World} {B g : Nat} {A : Option Addr} {c : Nat} (h : HMv s K P Z img W B g A c) : g < W.heap.size := h.hm.lt
theorem HMv.below {s K P Z : Nat} {img : List UInt8} {W W' : World} {B g : Nat} {A : Option Addr} {c : Nat} (h : HMv s K P Z img W B g A c) (hb : Below W.heap.size W W') : HMv s K P Z img W' B g A c := by
  have hl := h.lt
  obtain ⟨iv, h1, h2, h3⟩ := h
  exact ⟨iv, (hb.block g hl).trans h1, h2.below hb, h3⟩
theorem HF.ne_tab {s K P Z : Nat} {img : List UInt8} {W : World} {g : Nat} (h : HF s K P Z img W g) (ht : DTab W) : g ≠ 0 := by
  intro e
  obtain ⟨A, c, h1, _⟩ := h
  have h2 := ht.2 0 (by omega)
  have h3 := cell_at h1 (p := 0) rfl
  rw [e] at h3
  rw [h3] at h2
  injection h2 with h2
  injection h2 with h2
  cases h2
theorem DTab.but {w w' : World} {B g : Nat} (h : DTab w) (hb : But B g w w') (hB : w.heap.size ≤ B) (hg : g ≠ 0) : DTab w' :=
  ⟨Nat.lt_of_lt_of_le h.1 hb.size, fun j hj => by rw [World.cell?_of_block (w := w) (a := ⟨0, j, none⟩) (hb.block _ (Nat.lt_of_lt_of_le h.1 hB) (fun e => hg e.symm))]; exact h.2 j hj⟩
theorem results_cell1 {fn : Func} {p : Tmp} {ty : TypeId} (h : fn.results = #[.cell p ty]) (tmps : Array Value) (P : Program) (w : World) :
    (results fn tmps).run P w = ((asAddr (tmps.getD p undef)).run P w).andThen fun a w₁ => (loadVar ty a).run P w₁ := by
  simp only [results, h]
  simp [Sem.run_bind, Result.andThen]
theorem results_cell_one {P : Program} {fn : Func} {p : Tmp} {ty : TypeId} (h : fn.results = #[.cell p ty]) (tmps : Array Value) (w : World) (g : Nat) (t : TypeId) (cs : Array Value) (fr : Nat × Nat) (d : TypeDesc)
    (hp : tmps.getD p undef = .pointer (some ⟨g, 0, none⟩)) (hg : w.heap[g]? = some (.cells cs t fr))
    (hu : P.underlying ty = some d) (hd : (match d with | .struct _ | .array _ _ => true | _ => false) = true) (hi : (P.info? ty).map (·.size) = some cs.size) :
    (results fn tmps).run P w = .ok (.agg cs) w := by
  rw [results_cell1 h, hp]
  simp [asAddr, Result.andThen, run_loadVar_row w g t ty cs fr d hg hu hd hi]
def MadeOk (s K P Z : Nat) (img : List UInt8) (g B : Nat) (R : World → Prop) (e : Ending) (w' : World) : Prop :=
  ∃ A c, e = .returned (.slice A (K + P) c) ∧ Hid (HMv s K P Z img w' B g A c) ∧ Hid (R w')
set_option maxRecDepth 100000 in
set_option maxHeartbeats 800000 in
theorem made_done (s K P Z c g B : Nat) (A : Option Addr) (img : List UInt8) (w : World) (h : HMv s K P Z img w B g A c) :
    Calls Tryd.prog 19 #[.pointer (some ⟨g, 0, none⟩)] w (MadeOk s K P Z img g B (fun W => Below w.heap.size w W)) := by
  have hb0 : Below w.heap.size w (w.alloc (.cells #[.pointer (some ⟨g, 0, none⟩)] 28)) := (Below.refl _ _).alloc (Nat.le_refl _) _
  have H1 := Lib.hid (h.below hb0)
  have hx := heap_alloc_new w (.cells #[.pointer (some ⟨g, 0, none⟩)] 28)
  have HBX := Lib.hid hx
  have HB0 := Lib.hid hb0
  obtain ⟨iv, h1, _, _⟩ := H1.out
  have HH := Lib.hid h1
  have HD := Lib.hid (do_done_gen g 5 60 _ (.func (.func 31) #[] #[.pointer (some ⟨w.heap.size, 0, none⟩)]) _ h1 rfl)
  have hc := cell_at hx (p := 0) rfl
  clear h hb0 hx h1
  go_enter Tryd.func19, Tryd.ntmps19
  go_upto_region 1 with fail
  generalize (w.alloc (.cells #[.pointer (some ⟨g, 0, none⟩)] 28)) = w1 at *
  go_wp2_with (go_at_call 30; refine HD.out.mono ?_; rintro e w' ⟨rfl, rfl⟩; have hv := cell_at HH.out (p := 8) rfl)
  go_ret
  exact ⟨A, c, rfl, H1, HB0⟩
def OnceR (s K P Z : Nat) (img : List UInt8) (g : Nat) (iv : Value) (w w2 : World) : Prop := ∃ A2 c2, w2.heap[g]? = some (.cells (headC s K P Z iv 0 1 (.slice A2 (K + P) c2)) 60 (0, 0)) ∧ PW (allC s K P Z img) w.heap.size (.slice A2 (K + P) c2) w2 ∧ But w.heap.size g w w2
theorem once_end {s K P Z g : Nat} {img : List UInt8} {iv : Value} {w w2 : World} (h : OnceR s K P Z img g iv w w2) (hg : g < w.heap.size) : ∃ A c, HMv s K P Z img ((w2.drew.setCell ⟨g, 5, none⟩ (.int .u32 1)).setCell ⟨g, 6, none⟩ (.int .i32 0)) w.heap.size g A c ∧ But w.heap.size g w ((w2.drew.setCell ⟨g, 5, none⟩ (.int .u32 1)).setCell ⟨g, 6, none⟩ (.int .i32 0)) := by
  obtain ⟨A, c, h1, h2, h3⟩ := h
  have h1d : w2.drew.heap[g]? = some (.cells (headC s K P Z iv 0 1 (.slice A (K + P) c)) 60 (0, 0)) := h1
  have e1 := heap_setCell_same w2.drew g 5 _ _ (.int .u32 1) h1d
  have e2 := heap_setCell_same _ g 6 _ _ (.int .i32 0) e1
  have h2d : PW (allC s K P Z img) w.heap.size (.slice A (K + P) c) w2.drew := h2.below (Below.refl _ _).drew
  exact ⟨A, c, ⟨iv, e2, (h2d.set hg).set hg, hg⟩, ((h3.trans (But.of_below (Below.refl _ _).drew)).setSelf 5 _).setSelf 6 _⟩
theorem once_start {s K P Z c g : Nat} {img : List UInt8} {A : Option Addr} {w : World} (h1 : w.heap[g]? = some (.cells (headC s K P Z (.slice A img.length c) 0 0 (.slice none 0 0)) 60 (0, 0))) (h2 : Row w g A img.length (bv img)) :
    ∃ w1, ((w.alloc (.cells #[.pointer (some ⟨g, 0, none⟩)] 28)).setCell ⟨g, 6, none⟩ (.int .i32 1)) = w1 ∧ w1.heap.size = w.heap.size + 1 ∧ Row w1 g A img.length (bv img) ∧ MS s K P Z (.slice A img.length c) g w.heap.size w1 w1 ∧ But w.heap.size g w w1 := by
  have hl := (Array.getElem?_eq_some_iff.1 h1).1
  have hb : Below w.heap.size w (w.alloc (.cells #[.pointer (some ⟨g, 0, none⟩)] 28)) := (Below.refl _ _).alloc (Nat.le_refl _) _
  have hx := heap_alloc_new w (.cells #[.pointer (some ⟨g, 0, none⟩)] 28)
  have hg1 := (hb.block g hl).trans h1
  refine ⟨_, rfl, by simp, h2.below ((hb.mono (Nat.le_of_lt hl)).setCell (Nat.le_refl _) _), ⟨But.refl _ _ _, (heap_setCell_other _ _ _ _ (Nat.ne_of_gt hl)).trans hx, _, heap_setCell_same _ g 6 _ _ _ hg1⟩, (But.of_below hb).setSelf 6 _⟩
set_option maxRecDepth 100000 in
set_option maxHeartbeats 800000 in
theorem made_first (s K P Z g : Nat) (img : List UInt8) (w : World) (hs : s < 4294967296) (hK : 1 ≤ K ∧ K ≤ 64) (hP : P ≤ 16) (hZ : 1 ≤ Z ∧ Z ≤ 16) (hc : BlkM.count (img.length : Int) (Z : Int) = K) (h : HF s K P Z img w g) :
    Calls Tryd.prog 19 #[.pointer (some ⟨g, 0, none⟩)] w (MadeOk s K P Z img g (w.heap.size + 1) (fun W => But w.heap.size g w W)) := by
  have hlt := h.lt
  obtain ⟨A, c, h1, h2, h3⟩ := h
  obtain ⟨w1, hw1, hz1, hr1, hm1, hbt1⟩ := once_start h1 h2
  have hx := heap_alloc_new w (.cells #[.pointer (some ⟨g, 0, none⟩)] 28)
  have hb : Below w.heap.size w (w.alloc (.cells #[.pointer (some ⟨g, 0, none⟩)] 28)) := (Below.refl _ _).alloc (Nat.le_refl _) _
  have hg1 := (hb.block g hlt).trans h1
  have hone := (made1_any s K P Z c g w.heap.size A img w1 hs hK hP hZ hc h3 (by omega) hr1 hm1).mono (R' := fun e w2 => e = .returned (.tuple #[]) ∧ Hid (OnceR s K P Z img g (.slice A img.length c) w1 w2) ∧ Hid (Locked g 5 60 w2)) (by
    rintro e w2 ⟨rfl, A2, c2, q1, q2, q3⟩
    exact ⟨rfl, Lib.hid ⟨A2, c2, q1, q2, q3⟩, Lib.hid ⟨_, q1, rfl, rfl⟩⟩)
  have HDO := Lib.hid (do_gen g 5 60 _ (.pointer (some ⟨w.heap.size, 0, none⟩)) (OnceR s K P Z img g (.slice A img.length c) w1) _ hg1 rfl rfl (by rw [hw1]; exact hone))
  have hcb := cell_at hx (p := 0) rfl
  have HW1 := Lib.hid hw1
  have HZ1 := Lib.hid hz1
  have HBT1 := Lib.hid hbt1
  have HLT := Lib.hid hlt
  have HNE : Hid (w.heap.size ≠ g) := Lib.hid (by omega)
  have HR1 : Hid (∀ w2, OnceR s K P Z img g (.slice A img.length c) w1 w2 → w2.cell? ⟨w.heap.size, 0, none⟩ = some (.pointer (some ⟨g, 0, none⟩))) := Lib.hid fun w2 hw2 => by
    obtain ⟨_, _, _, _, hq⟩ := hw2
    exact cell_at ((hq.block _ (by omega) (by omega)).trans hm1.bx) rfl
  clear hs hK hP hZ hc h1 h2 h3 hw1 hz1 hr1 hm1 hbt1 hx hb hg1 hone hlt
  go_enter Tryd.func19, Tryd.ntmps19
  go_upto_region 1 with fail
  generalize (w.alloc (.cells #[.pointer (some ⟨g, 0, none⟩)] 28)) = w0 at *
  go_wp2_with fail
  refine HDO.out.mono ?_
  rintro e w3 ⟨rfl, w2, hR, rfl⟩
  obtain ⟨A9, c9, hm9, hb9⟩ := once_end hR.out (by have := HZ1.out; have := HLT.out; omega)
  have hcb2 : ((w2.drew.setCell ⟨g, 5, none⟩ (.int .u32 1)).setCell ⟨g, 6, none⟩ (.int .i32 0)).cell? ⟨w.heap.size, 0, none⟩ = some (.pointer (some ⟨g, 0, none⟩)) := by
    have hbk : ((w2.drew.setCell ⟨g, 5, none⟩ (.int .u32 1)).setCell ⟨g, 6, none⟩ (.int .i32 0)).heap[w.heap.size]? = w2.drew.heap[w.heap.size]? := (heap_setCell_other _ _ _ _ HNE.out).trans (heap_setCell_other _ _ _ _ HNE.out)
    rw [World.cell?_of_block (a := ⟨w.heap.size, 0, none⟩) hbk]
    exact HR1.out w2 hR.out
  have hcv : ((w2.drew.setCell ⟨g, 5, none⟩ (.int .u32 1)).setCell ⟨g, 6, none⟩ (.int .i32 0)).cell? ⟨g, 8, none⟩ = some (.slice A9 (K + P) c9) := by
    obtain ⟨iv, q, _⟩ := hm9
    exact cell_at q rfl
  have HE : Hid (But w.heap.size g w ((w2.drew.setCell ⟨g, 5, none⟩ (.int .u32 1)).setCell ⟨g, 6, none⟩ (.int .i32 0))) := Lib.hid (HBT1.out.trans (hb9.mono (by have := HZ1.out; omega)))
  have HM9 := Lib.hid hm9
  rw [HZ1.out] at HM9
  clear hR hm9 hb9 HDO hcb
  generalize ((w2.drew.setCell ⟨g, 5, none⟩ (.int .u32 1)).setCell ⟨g, 6, none⟩ (.int .i32 0)) = wf at *
  go_wp2_with fail
  go_ret
  exact ⟨A9, c9, rfl, HM9, HE⟩
set_option maxRecDepth 100000 in
theorem made_nil (w : World) : Calls Tryd.prog 19 #[.pointer none] w fun e w' => e = .returned (.slice none 0 0) ∧ Hid (Below w.heap.size w w') := by
  have hx := heap_alloc_new w (.cells #[.pointer none] 28)
  have hb : Below w.heap.size w (w.alloc (.cells #[.pointer none] 28)) := (Below.refl _ _).alloc (Nat.le_refl _) _
  have HB := Lib.hid hb
  have hc := cell_at hx (p := 0) rfl
  clear hb hx
  go_enter Tryd.func19, Tryd.ntmps19
  go_upto_region 1 with fail
  generalize (w.alloc (.cells #[.pointer none] 28)) = w0 at *
  go_wp2_with fail
  go_ret
  exact ⟨rfl, HB⟩
set_option maxRecDepth 100000 in
set_option maxHeartbeats 800000 in
theorem known_any (s K P Z g : Nat) (iv v : Value) (d m : Int) (w : World) (h : w.heap[g]? = some (.cells (headC s K P Z iv d m v) 60 (0, 0))) :
    Calls Tryd.prog 20 #[.pointer (some ⟨g, 0, none⟩)] w fun e w' => e = .returned (parV s K P Z) ∧ Hid (Below w.heap.size w w') := by
  have hl := (Array.getElem?_eq_some_iff.1 h).1
  have hx := heap_alloc_new w (.cells #[.int .u32 0, .int .i64 0, .int .i64 0, .int .i64 0] 24)
  have hb : Below w.heap.size w (w.alloc (.cells #[.int .u32 0, .int .i64 0, .int .i64 0, .int .i64 0] 24)) := (Below.refl _ _).alloc (Nat.le_refl _) _
  have h1 := (hb.block g hl).trans h
  have c0 : (w.alloc (.cells #[.int .u32 0, .int .i64 0, .int .i64 0, .int .i64 0] 24)).cell? ⟨g, 0, none⟩ = some (.int .u32 (s : Int)) := cell_at h1 (p := 0) rfl
  have c1 : (w.alloc (.cells #[.int .u32 0, .int .i64 0, .int .i64 0, .int .i64 0] 24)).cell? ⟨g, 1, none⟩ = some (.int .i64 (K : Int)) := cell_at h1 (p := 1) rfl
  have c2 : (w.alloc (.cells #[.int .u32 0, .int .i64 0, .int .i64 0, .int .i64 0] 24)).cell? ⟨g, 2, none⟩ = some (.int .i64 (P : Int)) := cell_at h1 (p := 2) rfl
  have c3 : (w.alloc (.cells #[.int .u32 0, .int .i64 0, .int .i64 0, .int .i64 0] 24)).cell? ⟨g, 3, none⟩ = some (.int .i64 (Z : Int)) := cell_at h1 (p := 3) rfl
  have HX := Lib.hid hx
  have HB := Lib.hid hb
  obtain ⟨b0, b1, b2, b3⟩ := box4 hx
  obtain ⟨f0, f1, f2, f3⟩ := frozenBox hx
  clear h hl hb h1 hx
  go_enter Tryd.func20, Tryd.ntmps20
  go_upto_region 1 with fail
  generalize (w.alloc (.cells #[.int .u32 0, .int .i64 0, .int .i64 0, .int .i64 0] 24)) = w0 at *
  go_wp2_with fail
  have hrow := setBox HX.out (.int .u32 (s : Int)) (.int .i64 (K : Int)) (.int .i64 (P : Int)) (.int .i64 (Z : Int))
  refine bodyPost_ret (results_cell_one rfl _ _ (w.heap.size) _ _ (0, 0) _ rfl hrow Tryd.underlying24 rfl (by kernel_rfl)) rfl ?_
  exact ⟨rfl, ((((HB.out.setCell (Nat.le_refl _) _).setCell (Nat.le_refl _) _).setCell (Nat.le_refl _) _).setCell (Nat.le_refl _) _)⟩
set_option maxRecDepth 100000 in
set_option maxHeartbeats 800000 in
theorem known_nil (w : World) : Calls Tryd.prog 20 #[.pointer none] w fun e w' => e = .returned (parV 0 0 0 0) ∧ Hid (Below w.heap.size w w') := by
  have hx := heap_alloc_new w (.cells #[.int .u32 0, .int .i64 0, .int .i64 0, .int .i64 0] 24)
  have hb : Below w.heap.size w (w.alloc (.cells #[.int .u32 0, .int .i64 0, .int .i64 0, .int .i64 0] 24)) := (Below.refl _ _).alloc (Nat.le_refl _) _
  have HX := Lib.hid hx
  have HB := Lib.hid hb
  obtain ⟨b0, b1, b2, b3⟩ := box4 hx
  obtain ⟨f0, f1, f2, f3⟩ := frozenBox hx
  clear hb hx
  go_enter Tryd.func20, Tryd.ntmps20
  go_upto_region 1 with fail
  generalize (w.alloc (.cells #[.int .u32 0, .int .i64 0, .int .i64 0, .int .i64 0] 24)) = w0 at *
  go_wp2_with fail
  have hrow := setBox HX.out (.int .u32 0) (.int .i64 0) (.int .i64 0) (.int .i64 0)
  refine bodyPost_ret (results_cell_one rfl _ _ (w.heap.size) _ _ (0, 0) _ rfl hrow Tryd.underlying24 rfl (by kernel_rfl)) rfl ?_
  exact ⟨rfl, ((((HB.out.setCell (Nat.le_refl _) _).setCell (Nat.le_refl _) _).setCell (Nat.le_refl _) _).setCell (Nat.le_refl _) _)⟩
end Go.Proofs.YtlpmammagebkfaaDoor.Cd
namespace Go.Proofs.YtlpmammagebkfaaDoor.Cd
open Go.RowKit
open VecM RdM Vc Sp Pc
def brow0 : BRow := ⟨none, 0, 0, []⟩
/-- what may happen to memory, however much comes behind -/
def Grows (R : World → Prop) (w : World) : Prop := (∀ W W', R W → Below W.heap.size W W' → R W') ∧ (∀ W, R W → w.heap.size ≤ W.heap.size) ∧ (∀ W, R W → DTab W)
def SymOk (s K P Z : Nat) (img : List UInt8) (id g B : Nat) (R : World → Prop) (w : World) (e : Ending) (w' : World) : Prop :=
  ∃ A n c, e = .returned (.slice A n c) ∧ Hid (n = (symX s K P Z img id).length) ∧ Hid (w'.ownsRow w.heap.size 5 1 (.slice A n c) n (bv (symX s K P Z img id))) ∧ Hid (HM s K P Z img w' B g) ∧ Hid (R w')
theorem ls_take (X k : Nat) (h : k < (Ls X).length) : (Ls X).take (k + 1) = (Ls X).take k ++ [(Ls X).getD k 0] := by
  rw [List.take_succ_eq_append_getElem h, List.getD_eq_getElem?_getD, List.getElem?_eq_getElem h]; rfl
set_option maxRecDepth 100000 in
set_option maxHeartbeats 3200000 in
theorem sym_gen (s K P Z id g B : Nat) (img : List UInt8) (R : World → Prop) (w : World) (hs : s < 4294967296) (hid : id < 4294967296) (hK : 1 ≤ K ∧ K ≤ 64) (hP : P ≤ 16) (hZ : 1 ≤ Z ∧ Z ≤ 16)
    (hR : Grows R w) (hm : Calls Tryd.prog 19 #[.pointer (some ⟨g, 0, none⟩)] w (MadeOk s K P Z img g B R)) :
    Calls Tryd.prog 9 #[.pointer (some ⟨g, 0, none⟩), .int .u32 (id : Int)] w (SymOk s K P Z img id g B R w) := by
  obtain ⟨i0, hi, hz0, hz1, hz2⟩ := info_parts Tryd.info25
  have HMD := Lib.hid hm
  have HRR := Lib.hid hR
  have HS := Lib.hid hs
  have HID := Lib.hid hid
  have HK := Lib.hid hK
  have HP := Lib.hid hP
  have HZ := Lib.hid hZ
  clear hm hR hs hid hK hP hZ
  go_enter Tryd.func9, Tryd.ntmps9
  go_wp2_with fail
  refine HMD.out.mono ?_
  rintro e w1 ⟨A, c, rfl, hv1, hr1⟩
  obtain ⟨iv, hh1, hpw1, hgB⟩ := hv1.out
  have HKN := Lib.hid (known_any s K P Z g iv _ 1 0 w1 hh1)
  clear HMD hh1
  go_wp2_with fail
  refine HKN.out.mono ?_
  rintro e w2 ⟨rfl, hb2⟩
  have HROW := Lib.hid (row_any s id K P Z w2 HS.out HID.out HK.out HP.out HZ.out)
  clear HKN
  go_wp2_with fail
  refine HROW.out.mono ?_
  rintro e w3 ⟨gv, hv, rfl, hgv, hhv, hvec, hb3⟩
  have hR3 : R w3 := HRR.out.1 _ _ (HRR.out.1 _ _ hr1.out hb2.out) hb3.out
  have HLS := Lib.hid (list_any gv hv (K + P) _ w3 hvec.out (HRR.out.2.2 _ hR3))
  clear HROW hgv hhv
  go_wp2_with fail
  refine HLS.out.mono ?_
  rintro e w4 ⟨A4, c4, rfl, hown4, hb4⟩
  have hR4 : R w4 := HRR.out.1 _ _ hR3 hb4.out
  have HB4 : Hid (Below w1.heap.size w1 w4) := Lib.hid (hb2.out.trans ((hb3.out.mono hb2.out.size).trans (hb4.out.mono (Nat.le_trans hb2.out.size hb3.out.size))))
  obtain ⟨A', c', es, hve, hes, hrows, _⟩ := hpw1.rows
  rw [allC_length] at hve hrows
  injection hve with e1 e2 e3
  subst e1 e3
  have HROWS := Lib.hid (hrows.below (hb := HB4.out))
  have HES := Lib.hid hes
  have HR4 := Lib.hid hR4
  have HV4 := Lib.hid (hv1.out.below HB4.out)
  have HL4 := Lib.hid (Row.of_own hown4.out)
  have HSZ4 : Hid (w1.heap.size ≤ w4.heap.size) := Lib.hid HB4.out.size
  have HMEM : Hid (∀ i ∈ Ls (spX s K P id), i < K + P) := Lib.hid fun i hi => Ls_lt hi
  have HC : Hid ((Ls (spX s K P id)).length ≤ 256) := Lib.hid (L_le _ 256)
  have HSY : Hid (symX s K P Z img id = sumF ((Ls (spX s K P id)).map fun i => (allC s K P Z img).getD i [])) := Lib.hid rfl
  have HCN : Hid (1 ≤ (Ls (spX s K P id)).length) := Lib.hid (spX_count HK.out.1 (by have := HK.out; have := HP.out; omega)).1
  have HTK := Lib.hid (fun k => ls_take (spX s K P id) k)
  clear HLS hown4 hR3 hR4 hb2 hb3 hb4 hvec hr1 hpw1 hrows hes hv1 HB4
  generalize spX s K P id = X at *
  obtain ⟨ls, hls⟩ : ∃ l, Ls X = l := ⟨_, rfl⟩
  rw [hls] at HL4 HMEM HC HSY HCN HTK ⊢
  clear hls
  obtain ⟨m, hmm⟩ : ∃ m, ls.length = m := ⟨_, rfl⟩
  have HM := Lib.hid hmm
  rw [hmm] at HL4 HC HCN HTK ⊢
  have hm256 : m ≤ 256 := HC.out
  clear hmm
  have hG : w.heap.size ≤ w4.heap.size := HRR.out.2.1 _ HR4.out
  have HG := Lib.hid hG
  go_wp2_with fail
  go_loopw [5, 17] (fun v i wr => ∃ k : Nat, k ≤ m ∧ i = .int .i64 k ∧ Hid (wr.ownsRow w4.heap.size 25 1 v k ((ls.take k).map fun i => (es.getD i brow0).val)) ∧ Hid (Below w4.heap.size w4 wr)) (fun _ i _ => m - (intOf i).toNat)
  case atStart => exact ⟨0, by omega, rfl, Lib.hid (World.ownsRow_nil _ _ _ _), Lib.hid (Below.refl _ _)⟩
  case round =>
    obtain ⟨k, hk, rfl, hown, hbk⟩ := hrel
    have hsz := hbk.out.size
    by_cases hlt : k < m
    · obtain ⟨b, o, rfl, _, hcell⟩ := (HL4.out.below hbk.out).cellAt hlt (u := .int .i64 ((ls.getD k 0 : Nat) : Int)) (by
        have hk2 : k < ls.length := by rw [HM.out]; exact hlt
        simp [nv, hk2, List.getD])
      have hmem : ls.getD k 0 ∈ ls := getD_mem (by rw [HM.out]; exact hlt)
      have hin := HMEM.out _ hmem
      have htk := HTK.out k hlt
      have HTKK := Lib.hid htk
      generalize ls.getD k 0 = i at *
      obtain ⟨b2, o2, rfl, r, hr, hcell2, hrow⟩ := (HROWS.out.below (hbk.out.mono HSZ4.out)).at_ hin
      have hrd : (es.getD i brow0) = r := by simp [List.getD, hr]
      have HRD := Lib.hid hrd
      have HOW := Lib.hid hown.out
      obtain ⟨Av, cv, rfl, _⟩ := own_slice hown.out
      have hki : (k : Int) < (m : Int) := by omega
      have hii : (i : Int) < ((K + P : Nat) : Int) := by omega
      have hK1 := HK.out
      have hP1 := HP.out
      clear hown hmem htk hr hrow hrd
      go_wp2_with (at_builtin; refine wpList_app rfl (.tmp 21) (.tmp 26) 31 rfl w4.heap.size 25 i0 (.slice none 0 0) 24 Tryd.underlying31 hi hz0 hz1 hz2 rfl _ k _ rfl (own_below HOW.out ((Below.refl _ _).alloc (Nat.le_refl _) _)) _ _ 1 1 _ rfl (row_new wr _ _ _) (by intro u hu; simp at hu; subst hu; rfl) (by unfold maxLen; omega) (by omega) (Nat.le_trans hsz ((Below.refl _ _).alloc (Nat.le_refl _) _).size) ?_; intro v6 w6 hown6 hg6 hat6)
      have hbW : Below w4.heap.size w4 (wr.alloc (.cells #[.slice r.A r.n r.c] 25)) := hbk.out.alloc hsz _
      have hnext : Hid (w6.ownsRow w4.heap.size 25 1 v6 (k + 1) ((ls.take (k + 1)).map fun i => (es.getD i brow0).val)) := by
        rw [HTKK.out, List.map_append, List.map_singleton, HRD.out]
        exact Lib.hid hown6
      have hbn : Hid (Below w4.heap.size w4 w6) := Lib.hid (below_app hbW hbW.size (own_below HOW.out ((Below.refl _ _).alloc (Nat.le_refl _) _)) (Nat.le_refl _) hg6)
      clear hown6 hg6 hat6 hbW HOW hbk
      go_wp2_with fail
      go_roundw
      case rel => exact ⟨k + 1, by omega, by go_num, hnext, hbn⟩
      case measure => simp [intOf]; omega
    · obtain rfl : m = k := by omega
      clear hlt
      obtain ⟨Av, cv, rfl, hcv, hcv2, _⟩ := own_slice hown.out
      have hfin := hown.out
      rw [List.take_of_length_le (by rw [HM.out]; exact Nat.le_refl _)] at hfin
      obtain ⟨fs, hfs⟩ : ∃ fs : List BRow, fs = ls.map fun i => es.getD i brow0 := ⟨_, rfl⟩
      have hfl : fs.length = m := by rw [hfs, List.length_map]; exact HM.out
      have h2 : Rows2 wr wr.heap.size Av m fs := by
        refine ⟨?_, fun r hr => ?_⟩
        · have := Row.of_own hfin
          rw [hfs, List.map_map]; exact this
        · rw [hfs] at hr
          obtain ⟨i, hi2, rfl⟩ := List.mem_map.1 hr
          obtain ⟨_, _, _, r, hr2, _, hrow⟩ := (HROWS.out.below (hbk.out.mono HSZ4.out)).at_ (HMEM.out i hi2)
          have : es.getD i brow0 = r := by simp [List.getD, hr2]
          rw [this]; exact hrow.more (Nat.le_trans HSZ4.out hsz)
      have hfm : fs.map (·.l) = ls.map fun i => (allC s K P Z img).getD i [] := by
        rw [hfs, List.map_map]
        apply List.map_congr_left
        intro i hi2
        rw [← HES.out]
        simp only [Function.comp, List.getD_eq_getElem?_getD, List.getElem?_map]
        cases es[i]? <;> rfl
      cases fs with
      | nil => exact absurd hfl (by have := HCN.out; simp; omega)
      | cons r0 fs =>
        obtain ⟨m', rfl⟩ : ∃ m', m = m' + 1 := ⟨m - 1, by have := HCN.out; omega⟩
        have hrn : r0.n = Z := by
          rw [← (h2.2 r0 (by simp)).blen]
          have h5 : r0.l ∈ ls.map fun i => (allC s K P Z img).getD i [] := by rw [← hfm]; simp
          obtain ⟨i, hi2, e5⟩ := List.mem_map.1 h5
          rw [← e5]
          exact allC_zi (HMEM.out i hi2)
        have HSUM := Lib.hid (sum_some wr.heap.size m' cv Av r0 fs wr h2 hcv (by unfold maxLen at hcv2; omega) (Nat.le_refl _) (by have := HZ.out; omega))
        rw [hfm, ← HSY.out] at HSUM
        have HBK := hbk
        have HSZ := Lib.hid hsz
        clear hfin hfs hfl h2 hfm hrn hown hcv hcv2 hbk hsz
        go_wp2_with fail
        refine HSUM.out.mono ?_
        rintro e w7 ⟨A7, n7, c7, rfl, hn7, hown7, hb7⟩
        have HO7 := Lib.hid (own_base hown7 (Nat.le_trans HG.out HSZ.out))
        have HM7 := Lib.hid ((HV4.out.below HBK.out).below hb7).hm
        have HR7 := Lib.hid (HRR.out.1 _ _ (HRR.out.1 _ _ HR4.out HBK.out) hb7)
        have HN7 := Lib.hid hn7
        clear HSUM hown7 hb7 hn7
        go_wp2_with fail
        go_ret
        exact ⟨A7, n7, c7, rfl, HN7, HO7, HM7, HR7⟩
end Go.Proofs.YtlpmammagebkfaaDoor.Cd
