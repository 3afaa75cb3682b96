/- elim: Says, Rank, Full by contract. -/
import Derived.Test.YtgeodhffgbhmaaaDoorElMath
import Derived.BigQuiet
import Derived.Deep.QuietTactic
namespace Go.Proofs.YtgeodhffgbhmaaaDoor.El
open Go.RowKit
open VecM Vc
theorem sameC {P : Program} {f : FuncId} {args : Array Value} {w : World} {v : Value} (h : Calls P f args w fun e w' => e = .returned v ∧ w = w') : Calls P f args w fun e w' => e = .returned v ∧ w' = w := h.mono fun _ _ ⟨h1, h2⟩ => ⟨h1, h2.symm⟩
theorem MatAt.drewN {w : World} {F : Nat → Prop} {gm gr n z : Nat} {rs : List (Option ER)} (m : MatAt w F gm gr n z rs) (q : Nat) : MatAt (w.drewN q) F gm gr n z rs := m.keep fun _ _ _ => rfl
theorem field_row0 (W : World) (p : Option Addr) (v : Value) : (Instr.field 73 (.agg #[.pointer p, v]) 0).run Tryd.prog W = .ok (.pointer p) W := by kernel_rfl
set_option maxRecDepth 100000 in
set_option maxHeartbeats 1600000 in
theorem says_any (F : Nat → Prop) (gm gr n z : Nat) (rs : List (Option ER)) (g h X : Nat) (w : World) (m : MatAt w F gm gr n z rs) (v : VecAt w g h n X) (ht : DTab w) :
    Calls Tryd.prog 12 #[.pointer (some ⟨gm, 0, none⟩), .pointer (some ⟨g, 0, none⟩)] w fun e w' => e = .returned (.bool (decide ((redM (absM rs) X [] n).1 ≠ 0))) ∧ Hid (Below w.heap.size w w') := by
  have HM := Lib.hid m
  have HV := Lib.hid v
  have HT := Lib.hid ht
  have hne : ((n : Int) != (n : Int)) = false := by simp
  obtain ⟨c0, _⟩ := m.cells
  clear m v ht
  obtain ⟨Z, hZ0⟩ : ∃ Z, (redM (absM rs) X [] n).1 = Z := ⟨_, rfl⟩
  rw [hZ0]
  have HZ0 := Lib.hid hZ0
  clear hZ0
  go_enter Tryd.func12, Tryd.ntmps12
  go_wp2_with fail
  go_quiet ((first
    | (go_at_call 27; with_reducible exact Calls.quiet_of_same (sameC (empty_no F gm gr n z rs _ (HM.out.drewN _))))
    | (go_at_call 28; with_reducible exact Calls.quiet_of_same (sameC (len_any g h n X _ (HV.out.drewN _))))))
  have HB := Lib.hid (drew_below w nq)
  have HMq := Lib.hid (HM.out.drewN nq)
  have HVq := Lib.hid (HV.out.drewN nq)
  have HTq := Lib.hid (HT.out.grow (drew_below w nq))
  clear c0 HM HV HT hne
  generalize w.drewN nq = wq at *
  go_wp2_with fail
  refine (reducedN_any F gm gr n z rs g h X wq HMq.out HVq.out).mono ?_
  rintro e w1 ⟨g1, h1, rfl, _, _, hv1, hb1⟩
  rw [HZ0.out] at hv1
  have hfd := field_row0 w1 (some ⟨g1, 0, none⟩) (.slice none 0 0)
  go_wp2_with fail
  refine (first_any g1 h1 n _ w1 hv1.out (HTq.out.grow hb1.out)).mono ?_
  rintro e w2 ⟨rfl, rfl⟩
  clear hfd
  have HB2 := Lib.hid (HB.out.trans (hb1.out.mono HB.out.size))
  have hn := hv1.out.1
  have hX := hv1.out.2.1
  clear HMq HVq HTq hb1 hv1 HB
  by_cases hZ : Z = 0
  · subst hZ
    rw [firstI_zero]
    go_wp2_with fail
    go_ret
    exact ⟨by simp, HB2⟩
  · obtain ⟨f, hf, hbit, hlow⟩ := low_ex hX hZ
    rw [show firstI (Ls Z) = (f : Int) from firstI_low (by omega) hbit hlow]
    clear hbit hlow hX
    have hfi : (0 : Int) ≤ (f : Int) := by omega
    go_wp2_with fail
    go_ret
    exact ⟨by simp [hZ], HB2⟩
/-- nil rows say nothing -/
theorem says_nilv (F : Nat → Prop) (gm gr n z : Nat) (rs : List (Option ER)) (w : World) (m : MatAt w F gm gr n z rs) :
    Calls Tryd.prog 12 #[.pointer (some ⟨gm, 0, none⟩), .pointer none] w fun e w' => e = .returned (.bool false) ∧ Hid (Below w.heap.size w w') := by
  have HM := Lib.hid m
  have h1 := m.n1
  have hne : ((0 : Int) != (n : Int)) = true := by simp; omega
  obtain ⟨c0, _⟩ := m.cells
  clear m
  go_enter Tryd.func12, Tryd.ntmps12
  go_wp2_with fail
  go_quiet ((first
    | (go_at_call 27; with_reducible exact Calls.quiet_of_same (sameC (empty_no F gm gr n z rs _ (HM.out.drewN _))))
    | (go_at_call 28; with_reducible exact Calls.quiet_of_same (sameC (len_nil _)))))
  have HB := Lib.hid (drew_below w nq)
  generalize w.drewN nq = wq at *
  go_wp2_with fail
  go_ret
  exact ⟨rfl, HB⟩
/-- a matrix that there isn't -/
theorem says_nilm (p : Option Addr) (w : World) :
    Calls Tryd.prog 12 #[.pointer none, .pointer p] w fun e w' => e = .returned (.bool false) ∧ Hid (Below w.heap.size w w') := by
  go_enter Tryd.func12, Tryd.ntmps12
  go_wp2_with fail
  go_quiet ((first
    | (go_at_call 27; with_reducible exact Calls.quiet_of_same (sameC (empty_nil _)))))
  have HB := Lib.hid (drew_below w nq)
  generalize w.drewN nq = wq at *
  go_wp2_with fail
  go_ret
  exact ⟨rfl, HB⟩
set_option maxRecDepth 100000 in
theorem load64_any (g k : Nat) (x : Int) (w : World) (hc : w.cell? ⟨g, k, none⟩ = some (.int .i64 x)) : Calls Tryd.prog 51 #[.pointer (some ⟨g, k, none⟩)] w fun e w' => e = .returned (.int .i64 x) ∧ w = w' := by
  have hd := run_call_load (P := Tryd.prog) Tryd.func59 (by kernel_rfl) (by kernel_rfl) (by kernel_rfl) .i64 (by kernel_rfl) hc
  go_enter Tryd.func51, Tryd.ntmps51
  go_wp2
  go_ret
  exact ⟨rfl, rfl⟩
set_option maxRecDepth 100000 in
theorem rank_any (F : Nat → Prop) (gm gr n z : Nat) (rs : List (Option ER)) (w : World) (m : MatAt w F gm gr n z rs) : Calls Tryd.prog 23 #[.pointer (some ⟨gm, 0, none⟩)] w fun e w' => e = .returned (.int .i64 (rankE rs : Int)) ∧ w = w' := by
  obtain ⟨_, _, _, c3⟩ := m.cells
  have HM := Lib.hid m
  clear m
  go_enter Tryd.func23, Tryd.ntmps23
  go_wp2_with fail
  refine (empty_no F gm gr n z rs _ HM.out).mono ?_
  rintro e w1 ⟨rfl, rfl⟩
  go_wp2_with fail
  refine (load64_any gm 3 _ w c3).mono ?_
  rintro e w1 ⟨rfl, rfl⟩
  go_wp2_with fail
  go_ret
  exact ⟨rfl, rfl⟩
set_option maxRecDepth 100000 in
theorem rank_nil (w : World) : Calls Tryd.prog 23 #[.pointer none] w fun e w' => e = .returned (.int .i64 0) ∧ w = w' := by
  go_enter Tryd.func23, Tryd.ntmps23
  go_wp2_with fail
  refine (empty_nil _).mono ?_
  rintro e w1 ⟨rfl, rfl⟩
  go_wp2_with fail
  go_ret
  exact ⟨rfl, rfl⟩
set_option maxRecDepth 100000 in
theorem full_any (F : Nat → Prop) (gm gr n z : Nat) (rs : List (Option ER)) (w : World) (m : MatAt w F gm gr n z rs) : Calls Tryd.prog 24 #[.pointer (some ⟨gm, 0, none⟩)] w fun e w' => e = .returned (.bool (decide (rankE rs = n))) ∧ Hid (Below w.heap.size w w') := by
  have HM := Lib.hid m
  obtain ⟨c0, _⟩ := m.cells
  clear m
  have HR : Hid (∀ W, MatAt W F gm gr n z rs → Calls Tryd.prog 23 #[.pointer (some ⟨gm, 0, none⟩)] W fun e w' => e = .returned (.int .i64 (rankE rs : Int)) ∧ W = w') := Lib.hid (fun W hW => rank_any F gm gr n z rs W hW)
  obtain ⟨b, hb⟩ : ∃ b, decide (rankE rs = n) = b := ⟨_, rfl⟩
  have hbb : ((rankE rs : Int) == (n : Int)) = b := by rw [← hb]; rw [Bool.eq_iff_iff]; simp; omega
  have hcast : (decide ((rankE rs : Int) = (n : Int))) = b := by rw [← hb]; rw [Bool.eq_iff_iff]; simp; omega
  rw [hb]
  generalize (rankE rs : Int) = R at *
  clear hb
  go_enter Tryd.func24, Tryd.ntmps24
  go_wp2_with fail
  go_quiet ((first
    | (go_at_call 27; with_reducible exact Calls.quiet_of_same (sameC (empty_no F gm gr n z rs _ (HM.out.drewN _))))
    | (go_at_call 23; with_reducible exact Calls.quiet_of_same (sameC (HR.out _ (HM.out.drewN _))))))
  have HB := Lib.hid (drew_below w nq)
  clear HM c0 HR
  generalize w.drewN nq = wq at *
  go_wp2_with fail
  go_ret
  exact ⟨rfl, HB⟩
set_option maxRecDepth 100000 in
theorem full_nil (w : World) : Calls Tryd.prog 24 #[.pointer none] w fun e w' => e = .returned (.bool false) ∧ Hid (Below w.heap.size w w') := by
  go_enter Tryd.func24, Tryd.ntmps24
  go_wp2_with fail
  go_quiet ((first
    | (go_at_call 27; with_reducible exact Calls.quiet_of_same (sameC (empty_nil _)))))
  have HB := Lib.hid (drew_below w nq)
  generalize w.drewN nq = wq at *
  go_wp2_with fail
  go_ret
  exact ⟨rfl, HB⟩
end Go.Proofs.YtgeodhffgbhmaaaDoor.El
