/- soliton.Weights: by contract. -/
import Derived.Test.YtibleaaghhhjkaaDoorSoliton
namespace Go.Proofs.YtibleaaghhhjkaaDoor
open Go.RowKit
open SoM
def uv (l : List Nat) : List Value := l.map fun (x : Nat) => Value.int .u32 (x : Int)
theorem uv_length (l : List Nat) : (uv l).length = l.length := by simp [uv]
theorem uv_get (l : List Nat) (k : Nat) (h : k < l.length) : (uv l)[k]? = some (.int .u32 (l.getD k 0 : Nat)) := by simp [uv, h, List.getD]
theorem Tryd.info22 : (Tryd.prog.info? 22).map (fun i => (i.zero, i.size, i.bytes)) = some (some (.int .u32 0), 1, 4) := by kernel_rfl
theorem mk_u32 (c : Nat) (hc : c ≤ 1000000) (w : World) : (Instr.makeSlice 105 (.int .i64 (c : Int)) (.int .i64 (c : Int))).run Tryd.prog w = .ok (.slice (some ⟨w.heap.size, 0, none⟩) c c) (w.alloc (.cells (Array.replicate c (.int .u32 0)) 22)) := by
  obtain ⟨i0, hi, hz0, hz1, hz2⟩ := info_parts Tryd.info22
  have := run_make (P := Tryd.prog) w 105 22 i0 (.int .u32 0) Tryd.underlying105 hi hz0 .i64 .i64 c c (by omega) (Int.le_refl _) (by rw [hz2]; omega) (by omega)
  have e : madeCells #[Value.int .u32 0] c = Array.replicate c (.int .u32 0) := by
    apply Array.toList_inj.1
    rw [toList_madeCells_one]; simp
  simpa [hz1, Value.cells, e] using this
/-- the first k weights of n, then noughts -/
def wsl (n k : Nat) : List Nat := (List.range n).map fun j => if j < k then wt n (j + 1) else 0
theorem wsl_length (n k : Nat) : (wsl n k).length = n := by simp [wsl]
theorem wsl_get (n k j : Nat) (h : j < n) : (wsl n k)[j]? = some (if j < k then wt n (j + 1) else 0) := by simp [wsl, h]
theorem wsl_zero (n : Nat) : wsl n 0 = List.replicate n 0 := by
  apply List.ext_getElem <;> simp [wsl]
theorem wsl_all (n : Nat) : wsl n n = ws n n := by
  apply List.ext_getElem?
  intro j
  by_cases h : j < n
  · rw [wsl_get n n j h]; simp [ws, h]
  · rw [List.getElem?_eq_none (by rw [wsl_length]; omega), List.getElem?_eq_none (by simp [ws]; omega)]
theorem wsl_set (n k : Nat) (h : k < n) : (wsl n k).set k (wt n (k + 1)) = wsl n (k + 1) := by
  apply List.ext_getElem?
  intro j
  rw [List.getElem?_set]
  by_cases hj : j < n
  · rw [wsl_get n (k + 1) j hj]
    by_cases e : k = j
    · subst e; simp [wsl_length, h]
    · rw [if_neg e, wsl_get n k j hj]
      by_cases h1 : j < k
      · rw [if_pos h1, if_pos (by omega)]
      · rw [if_neg h1, if_neg (by omega)]
  · rw [List.getElem?_eq_none (by rw [wsl_length]; omega)]
    rw [List.getElem?_eq_none (by rw [wsl_length]; omega)]
    split
    · split
      · rename_i h3; rw [wsl_length] at h3; omega
      · rfl
    · rfl
theorem uv_set (l : List Nat) (k v : Nat) : (uv l).set k (.int .u32 (v : Nat)) = uv (l.set k v) := by simp [uv, List.map_set]
theorem root_rt (n : Nat) (h1 : 1 ≤ n) (h2 : n ≤ 80) (w : World) : Calls Tryd.prog 91 #[.int .i64 (n : Int)] w fun e w' => e = .returned (.int .i64 (rt n : Nat)) ∧ w = w' := by
  refine (root_pos n h1 (by omega) w).mono ?_
  rintro e w' ⟨⟨r, rfl, hr⟩, rfl⟩
  obtain ⟨_, _, a, b⟩ := hr.out
  rw [rt_eq n r h1 h2 a b]
  exact ⟨rfl, rfl⟩
theorem weights_nil (w : World) : Calls Tryd.prog 74 #[.pointer none] w fun e w' => e = .returned (.slice none 0 0) ∧ w = w' := by
  go_enter Tryd.func74, Tryd.ntmps74
  go_wp2_with (go_at_call 58; refine (empty_nil _).mono ?_; rintro e w' ⟨rfl, rfl⟩)
  go_ret
  exact ⟨rfl, rfl⟩
theorem wt_lt (n d R M P Q : Nat) (hR : rt n = R) (hM : n / R = M) (hP : d * n = P) (hQ : R * 262144 / P = Q) (h : d < M) : wt n d = ideal n d + Q := by
  unfold wt; rw [hR, hM, if_pos h, hP, hQ]
theorem wt_eq (n d R M Q : Nat) (hR : rt n = R) (hM : n / R = M) (hQ : R * 524288 / n = Q) (h : d = M) : wt n d = ideal n d + Q := by
  unfold wt; rw [hR, hM, if_neg (by omega), if_pos h, hQ]
theorem wt_gt (n d R M : Nat) (hR : rt n = R) (hM : n / R = M) (h : M < d) : wt n d = ideal n d := by
  unfold wt; rw [hR, hM, if_neg (by omega), if_neg (by omega)]; rfl
def WtOk (n : Nat) (w : World) (e : Ending) (w' : World) : Prop :=
  ∃ A c, e = .returned (.slice A n c) ∧ Hid (w'.ownsRow w.heap.size 22 1 (.slice A n c) n (uv (ws n n))) ∧ Hid (Below w.heap.size w w')
set_option maxRecDepth 100000 in
set_option maxHeartbeats 3200000 in
theorem weights_any (g n : Nat) (dn m0 : Int) (v : Value) (w : World) (h : Tab w g n dn m0 v) (h1 : 1 ≤ n) (h2 : n ≤ 80) : Calls Tryd.prog 74 #[.pointer (some ⟨g, 0, none⟩)] w (WtOk n w) := by
  obtain ⟨_, _, _, _, hR1, hR8, _⟩ := wt_bound n 1 h1 h2 (by omega) (by omega)
  obtain ⟨R, hR⟩ : ∃ R, rt n = R := ⟨_, rfl⟩
  rw [hR] at hR1 hR8
  have HRT := Lib.hid (root_rt n h1 h2)
  rw [hR] at HRT
  obtain ⟨M, hM⟩ : ∃ M, n / R = M := ⟨_, rfl⟩
  have hMi : (n : Int) / (R : Int) = (M : Int) := by rw [← Int.natCast_ediv, hM]
  have hMn : M ≤ n := by rw [← hM]; exact Nat.div_le_self _ _
  have hmk := mk_u32 n (by omega) w
  have HT := Lib.hid h
  have hlt := h.lt
  obtain ⟨c0, _, _, _, _⟩ := h.cells
  have hR0 : ¬ (R : Int) = 0 := by omega
  have HR := Lib.hid hR
  have HM := Lib.hid hM
  have HMI := Lib.hid hMi
  have hMi' := hMi
  clear h hR hM hMi
  go_enter Tryd.func74, Tryd.ntmps74
  go_wp2_with (first | (go_at_call 58; refine (empty_no g n dn m0 v _ HT.out h1).mono ?_; rintro e w' ⟨rfl, rfl⟩) | (go_at_call 91; refine (HRT.out _).mono ?_; rintro e w' ⟨rfl, rfl⟩))
  clear hmk hMi' c0
  go_loopw [6] (fun z wr => ∃ k : Nat, k ≤ n ∧ z = .int .i64 (k + 1 : Nat) ∧ Hid (wr.ownsRow w.heap.size 22 1 (.slice (some ⟨w.heap.size, 0, none⟩) n n) n (uv (wsl n k))) ∧ Hid (Below w.heap.size w wr)) (fun z _ => n + 1 - (intOf z).toNat)
  case atStart =>
    refine ⟨0, by omega, rfl, ?_, (Below.refl _ _).alloc (Nat.le_refl _) _⟩
    show World.ownsRow _ _ _ _ _ _ _
    rw [wsl_zero]
    have := own_lit (w := w) (base := w.heap.size) (g := w.heap.size) (n := n) (e := 22) (Array.replicate n (.int .u32 0)) rfl (Nat.le_refl _) (by simp) (by unfold maxLen; omega)
    simpa [uv] using this
  case round =>
    obtain ⟨k, hk, rfl, hown, hbl⟩ := hrel
    have hT := HT.out.below hbl.out hlt
    obtain ⟨c0, _, _, _, _⟩ := hT.cells
    clear hT
    rw [show ((k + 1 : Nat) : Int) = (k : Int) + 1 by push_cast; rfl]
    by_cases hlk : k < n
    · obtain ⟨b1, b2, b3, _, _, _, _⟩ := wt_bound n (k + 1) h1 h2 (by omega) (by omega)
      have hid := Lib.hid (fun w => ideal_any n (k + 1) w h1 h2 (by omega) (by omega))
      obtain ⟨I, hI⟩ : ∃ I, ideal n (k + 1) = I := ⟨_, rfl⟩
      rw [hI] at hid b3
      have hfz := hown.out.frozenAt k
      have hcs := (hown.out.cellAt k (by omega)).trans (uv_get _ k (by rw [wsl_length]; exact hlk))
      have hst := Lib.hid ((hown.out.stored k (.int .u32 (wt n (k + 1) : Nat))).1)
      have hset := Lib.hid (uv_set (wsl n k) k (wt n (k + 1)))
      have hids := Lib.hid (wsl_set n k hlk)
      generalize (wsl n k).getD k 0 = u at *
      have hle : (k : Int) + 1 ≤ (n : Int) := by omega
      have hI' := Lib.hid hI
      clear hI
      rcases Nat.lt_trichotomy (k + 1) M with hc | hc | hc
      · obtain ⟨P, hP⟩ : ∃ P, (k + 1) * n = P := ⟨_, rfl⟩
        have hP1 : 1 ≤ P := by rw [← hP]; exact Nat.mul_pos (by omega) (by omega)
        have hP2 : P ≤ 6400 := by
          have := Nat.mul_le_mul (show k + 1 ≤ 80 by omega) h2
          omega
        have hPi : ((k : Int) + 1) * (n : Int) = (P : Int) := by rw [← hP]; push_cast; rfl
        obtain ⟨Q, hQ⟩ : ∃ Q, R * 262144 / P = Q := ⟨_, rfl⟩
        have hQi : (R : Int) * 262144 / (P : Int) = (Q : Int) := by rw [← hQ, Int.natCast_ediv, Int.natCast_mul]; rfl
        have hQ2 : Q ≤ 2097152 := by
          rw [← hQ]
          exact Nat.le_trans (Nat.div_le_self _ _) (by omega)
        have hW := wt_lt n (k + 1) R M P Q HR.out HM.out hP hQ hc
        rw [hI'.out] at hW
        have HW := Lib.hid hW
        have hci : (k : Int) + 1 < (M : Int) := by omega
        have hP0 : ¬ (P : Int) = 0 := by omega
        have hWb : (I : Int) + (Q : Int) ≤ 4294967295 := by omega
        clear hP hQ hW hc b1 b2
        go_wp2_with (go_at_call 92; refine (hid.out _).mono ?_; rintro e w' ⟨rfl, rfl⟩)
        go_roundw
        case rel => exact ⟨k + 1, by omega, by go_num, by show World.ownsRow _ _ _ _ _ _ _; rw [← hids.out, ← hset.out]; have := hst.out; rw [HW.out] at this ⊢; exact this, hbl.out.setCell (Nat.le_refl _) _⟩
        case measure => simp [intOf]; omega
      · obtain ⟨Q, hQ⟩ : ∃ Q, R * 524288 / n = Q := ⟨_, rfl⟩
        have hQi : (R : Int) * 524288 / (n : Int) = (Q : Int) := by rw [← hQ, Int.natCast_ediv, Int.natCast_mul]; rfl
        have hQ2 : Q ≤ 4194304 := by
          rw [← hQ]
          exact Nat.le_trans (Nat.div_le_self _ _) (by omega)
        have hW := wt_eq n (k + 1) R M Q HR.out HM.out hQ hc
        rw [hI'.out] at hW
        have HW := Lib.hid hW
        have hci : ¬ (k : Int) + 1 < (M : Int) := by omega
        have hci2 : (((k : Int) + 1) == (M : Int)) = true := by simp; omega
        have hn0 : ¬ (n : Int) = 0 := by omega
        have hWb : (I : Int) + (Q : Int) ≤ 4294967295 := by omega
        clear hQ hW hc b1 b2
        go_wp2_with (go_at_call 92; refine (hid.out _).mono ?_; rintro e w' ⟨rfl, rfl⟩)
        go_roundw
        case rel => exact ⟨k + 1, by omega, by go_num, by show World.ownsRow _ _ _ _ _ _ _; rw [← hids.out, ← hset.out]; have := hst.out; rw [HW.out] at this ⊢; exact this, hbl.out.setCell (Nat.le_refl _) _⟩
        case measure => simp [intOf]; omega
      · have hW := wt_gt n (k + 1) R M HR.out HM.out hc
        rw [hI'.out] at hW
        have HW := Lib.hid hW
        have hci : ¬ (k : Int) + 1 < (M : Int) := by omega
        have hci2 : (((k : Int) + 1) == (M : Int)) = false := by simp; omega
        have hWb : (I : Int) ≤ 4294967295 := by omega
        clear hW hc b1 b2
        go_wp2_with (go_at_call 92; refine (hid.out _).mono ?_; rintro e w' ⟨rfl, rfl⟩)
        go_roundw
        case rel => exact ⟨k + 1, by omega, by go_num, by show World.ownsRow _ _ _ _ _ _ _; rw [← hids.out, ← hset.out]; have := hst.out; rw [HW.out] at this ⊢; exact this, hbl.out.setCell (Nat.le_refl _) _⟩
        case measure => simp [intOf]; omega
    · obtain rfl : n = k := by omega
      have hle : ¬ (n : Int) + 1 ≤ (n : Int) := by omega
      have hfin := hown.out
      rw [wsl_all] at hfin
      have HF := Lib.hid hfin
      clear hfin
      go_wp2_with fail
      go_ret
      exact ⟨_, n, rfl, HF.out, hbl⟩
end Go.Proofs.YtibleaaghhhjkaaDoor
