/- BootForms' walk. -/
import Derived.Test.YtoclckfpbmglfaaDoorRBootQ
import Derived.Test.YtoclckfpbmglfaaDoorRBootNQ
import Derived.Test.YtoclckfpbmglfaaDoorRBootSQ
import Derived.Test.YtoclckfpbmglfaaDoorRBootCQ
import Derived.Test.YtoclckfpbmglfaaDoorRBootAQ
import Derived.Test.YtoclckfpbmglfaaDoorRFirstQ
import Derived.Test.YtoclckfpbmglfaaDoorRSameQ
namespace Go.Proofs.YtoclckfpbmglfaaDoor
open Go.RowKit Sh
def fitN (n : Nat) : Bool := decide (1 ≤ n ∧ n ≤ 512)
def firstA (v n : Nat) (l : List UInt8) : LSt := if fitN n then firstL v n (Sha.D l) else LSt.zero
def LSt.startA (L : LSt) : LSt := if L.may then L.start else LSt.zero
def LSt.startB (L : LSt) : Bool := L.may && decide (L.trial ≠ 0)
def LSt.confA (L : LSt) : LSt := if L.may then L.confirm else LSt.zero
def LSt.confB (L : LSt) : Bool := L.may && !L.confirm.eqb L
def LSt.actA (L : LSt) : LSt := if L.may && (L.on && decide (L.trial = 0)) then L.activate else LSt.zero
def LSt.actE (L : LSt) : Int := if L.may then (if L.on && decide (L.trial = 0) then 0 else 12) else 1
theorem retR_of {L : LSt} {v : Value} {w w' : World} {e : Ending} (h : RetSV L v w e w') : RetR L v w e w' := by
  obtain ⟨cs, h1, h2, h3⟩ := h
  exact ⟨cs, h1, Lib.hid (h2.out.imp fun _ _ _ => trivial), h3⟩
theorem retR_zero {v : Value} {w w' : World} {e : Ending} (h : e = .returned (.tuple #[.agg zState, v]) ∧ Below w.heap.size w w') : RetR LSt.zero v w e w' :=
  ⟨zState, h.1, Lib.hid (zero_is _ _), Lib.hid h.2⟩
section
variable {w : World} {P : Nat → Prop} {cs : Array Value} {L K : LSt} {b : Bool} {r : Int}
theorem startQ (h : IsSt w P cs L) (hK : Hid (L.startA = K)) (hb : Hid (L.startB = b)) : Calls Tryd.prog 9 #[.agg cs] w (RetR K (.bool b) w) := by
  rw [← hK.out, ← hb.out]
  unfold LSt.startA LSt.startB
  cases hm : L.may with
  | false => exact (start_no h hm).mono fun e w' hx => retR_zero hx
  | true => exact (start_yes h hm).mono fun e w' hx => retR_of hx
theorem rstartQ (h : IsSt w P cs L) (hK : Hid (L.startA = K)) (hb : Hid (L.startB = b)) : Calls Tryd.prog 14 #[.agg cs] w (RetR K (.bool b) w) := by
  rw [← hK.out, ← hb.out]
  unfold LSt.startA LSt.startB
  cases hm : L.may with
  | false => exact (rstart_no h hm).mono fun e w' hx => retR_zero hx
  | true => exact (rstart_yes h hm).mono fun e w' hx => hx
theorem confQ (h : IsSt w P cs L) (hK : Hid (L.confA = K)) (hb : Hid (L.confB = b)) : Calls Tryd.prog 11 #[.agg cs] w (RetR K (.bool b) w) := by
  rw [← hK.out, ← hb.out]
  unfold LSt.confA LSt.confB
  cases hm : L.may with
  | false => exact (confirm_no h hm).mono fun e w' hx => retR_zero hx
  | true => exact (confirm_yes h hm).mono fun e w' hx => retR_of hx
theorem rconfQ (h : IsSt w P cs L) (hK : Hid (L.confA = K)) (hb : Hid (L.confB = b)) : Calls Tryd.prog 16 #[.agg cs] w (RetR K (.bool b) w) := by
  rw [← hK.out, ← hb.out]
  unfold LSt.confA LSt.confB
  cases hm : L.may with
  | false => exact (rconfirm_no h hm).mono fun e w' hx => retR_zero hx
  | true => exact (rconfirm_yes h hm).mono fun e w' hx => hx
theorem actQ (h : IsSt w P cs L) (hK : Hid (L.actA = K)) (hb : Hid (L.actE = r)) : Calls Tryd.prog 8 #[.agg cs] w (RetR K (.int .i64 r) w) := by
  rw [← hK.out, ← hb.out]
  unfold LSt.actA LSt.actE
  cases hm : L.may with
  | false => exact (activate_no h hm).mono fun e w' hx => retR_zero hx
  | true =>
    by_cases ho : L.on = true ∧ L.trial = 0
    · have e1 : (L.on && decide (L.trial = 0)) = true := by simp [ho]
      rw [e1]
      exact (activate_yes h hm ho.1 ho.2).mono fun e w' hx => retR_of hx
    · have e1 : (L.on && decide (L.trial = 0)) = false := by
        rw [Bool.and_eq_false_iff, decide_eq_false_iff_not]
        by_cases h1 : L.on = true
        · exact .inr fun h2 => ho ⟨h1, h2⟩
        · exact .inl (by simpa using h1)
      rw [e1]
      exact (activate_st h hm ho).mono fun e w' hx => retR_zero hx
theorem ractQ (h : IsSt w P cs L) (hK : Hid (L.actA = K)) (hb : Hid (L.actE = r)) : Calls Tryd.prog 17 #[.agg cs] w (RetR K (.int .i64 r) w) := by
  rw [← hK.out, ← hb.out]
  unfold LSt.actA LSt.actE
  cases hm : L.may with
  | false => exact (ractivate_no h hm).mono fun e w' hx => retR_zero hx
  | true =>
    by_cases ho : L.on = true ∧ L.trial = 0
    · have e1 : (L.on && decide (L.trial = 0)) = true := by simp [ho]
      rw [e1]
      rcases (stMay_act hm).1 with ha | ha
      · exact ractivate_0 h hm ho.1 ho.2 ha
      · exact ractivate_1 h hm ho.1 ho.2 ha
    · have e1 : (L.on && decide (L.trial = 0)) = false := by
        rw [Bool.and_eq_false_iff, decide_eq_false_iff_not]
        by_cases h1 : L.on = true
        · exact .inr fun h2 => ho ⟨h1, h2⟩
        · exact .inl (by simpa using h1)
      rw [e1]
      exact (ractivate_st h hm ho).mono fun e w' hx => retR_zero hx
theorem rdropQ (h : IsSt w P cs L) : Calls Tryd.prog 19 #[.agg cs] w (fun e w' => ∃ ds, e = .returned (.agg ds) ∧ Hid (IsSt w' (fun _ => True) ds L.drop) ∧ Hid (Below w.heap.size w w')) := by
  cases hm : L.may with
  | false =>
    have hd : L.drop = LSt.zero := by unfold LSt.drop; rw [hm]; rfl
    rw [hd]
    exact (rdrop_no h hm).mono fun e w' hx => ⟨zState, hx.1, Lib.hid (zero_is _ _), Lib.hid hx.2⟩
  | true =>
    exact (rdrop_yes h hm).mono fun e w' ⟨ds, h1, h2, h3⟩ => ⟨ds, h1, Lib.hid ((h2.out.below h3.out).imp fun _ _ _ => trivial), h3⟩
end
section
variable {w : World} {K : LSt} {b : Bool} {v n cap : Nat} {A : Option Addr} {l : List UInt8}
theorem firstQ (ht : Tab w) (hl : Row w w.heap.size A n (bv l)) (hK : Hid (firstA v n l = K)) (hb : Hid (fitN n = b)) : Calls Tryd.prog 12 #[.int .u32 (v : Int), .slice A n cap] w (RetR K (.bool b) w) := by
  rw [← hK.out, ← hb.out]
  unfold firstA
  by_cases h : 1 ≤ n ∧ n ≤ 512
  · have hf : fitN n = true := by simp [fitN, h]
    rw [hf]
    exact (first_yes v n cap A l w ht hl h.1 h.2).mono fun e w' hx => retR_of hx
  · have hf : fitN n = false := by simp only [fitN, decide_eq_false_iff_not]; exact h
    rw [hf]
    exact (first_no v n cap A w (by omega)).mono fun e w' hx => retR_zero hx
theorem rfirstQ (hl : Row w w.heap.size A n (bv l)) (hK : Hid (firstA v n l = K)) (hb : Hid (fitN n = b)) : Calls Tryd.prog 13 #[.int .u32 (v : Int), .slice A n cap] w (RetR K (.bool b) w) := by
  rw [← hK.out, ← hb.out]
  unfold firstA
  by_cases h : 1 ≤ n ∧ n ≤ 512
  · have hf : fitN n = true := by simp [fitN, h]
    rw [hf]
    exact (rfirst_yes v n cap A l w hl h.1 h.2).mono fun e w' hx => retR_of hx
  · have hf : fitN n = false := by simp only [fitN, decide_eq_false_iff_not]; exact h
    rw [hf]
    exact (rfirst_no v n cap A w (by omega)).mono fun e w' hx => retR_zero hx
end
set_option maxRecDepth 100000 in
set_option maxHeartbeats 12800000 in
theorem bforms_walk (cs : Array Value) (L : LSt) (ver n cap : Nat) (A : Option Addr) (l : List UInt8) (w : World) (ht : Tab w) (hs : IsSt w (fun _ => True) cs L) (hr : Row w w.heap.size A n (bv l)) :
    Calls Tryd.prog 4 #[.agg cs, .int .u32 (ver : Int), .slice A n cap] w fun e w' => e = .returned (.bool true) ∧ Below w.heap.size w w' := by
  have E0 := Lib.hid (((Env.start w).addSt hs).alloc cs 30)
  have IN := Lib.hid hs.inf
  have HT := Lib.hid ht
  have HR := Lib.hid hr
  clear hs ht hr
  go_enter Tryd.func4, Tryd.ntmps4
  go_wp2_with ((with_reducible show wpList _ _ _ _ _ _); refine wpList_load_row (o := ⟨some 23, _, _, _, _, _⟩) rfl _ (.tmp 3) rfl (w.heap.size) rfl _ _ _ _ (E0.out.bx _ _ _ (.head _)) Tryd.underlying30 rfl IN.out ?_)
  generalize w.alloc (.cells cs 30) = w0 at *
  by_cases hl : L.light
  case neg =>
    refine (heavyS_yes (E0.out.st _ _ (.head _)) hl).mono ?_
    rintro e w1 ⟨rfl, hb1⟩
    have E1 := Lib.hid (E0.out.below hb1)
    clear hb1 E0
    go_wp2_with fail
    refine (awake21_any w1 (HT.out.below E1.out.b HT.out.1)).mono ?_
    rintro e w2 ⟨rfl, hb2⟩
    have hb := (E1.out.below hb2).b
    go_wp2_with fail
    go_ret
    exact ⟨rfl, hb⟩
  have HLT := Lib.hid hl
  refine (heavyS_no (E0.out.st _ _ (.head _)) hl).mono ?_
  rintro e w1 ⟨rfl, hb1⟩
  have E1 := Lib.hid (E0.out.below hb1)
  clear hb1 E0 hl
  by_cases h700 : 700 < n
  · have q0 : decide (700 < (n : Int)) = true := by rw [decide_eq_true_eq]; omega
    clear h700
    go_wp2_with fail
    refine (awake21_any w1 (HT.out.below E1.out.b HT.out.1)).mono ?_
    rintro e w2 ⟨rfl, hb2⟩
    have hb := (E1.out.below hb2).b
    go_wp2_with fail
    go_ret
    exact ⟨rfl, hb⟩
  have q0 : decide (700 < (n : Int)) = false := by rw [decide_eq_false_iff_not]; omega
  clear h700
  obtain ⟨K1, hK1⟩ : ∃ K, firstA ver n l = K := ⟨_, rfl⟩
  obtain ⟨b1, hb1⟩ : ∃ b, fitN n = b := ⟨_, rfl⟩
  obtain ⟨K2, hK2⟩ : ∃ K, L.startA = K := ⟨_, rfl⟩
  obtain ⟨b2, hb2⟩ : ∃ b, L.startB = b := ⟨_, rfl⟩
  obtain ⟨K3, hK3⟩ : ∃ K, L.confA = K := ⟨_, rfl⟩
  obtain ⟨b3, hb3⟩ : ∃ b, L.confB = b := ⟨_, rfl⟩
  obtain ⟨K4, hK4⟩ : ∃ K, L.actA = K := ⟨_, rfl⟩
  obtain ⟨r4, hb4⟩ : ∃ b, L.actE = b := ⟨_, rfl⟩
  have HK1 := Lib.hid hK1
  have HK2 := Lib.hid hK2
  have HK3 := Lib.hid hK3
  have HK4 := Lib.hid hK4
  have HB1 := Lib.hid hb1
  have HB2 := Lib.hid hb2
  have HB3 := Lib.hid hb3
  have HB4 := Lib.hid hb4
  clear hK1 hK2 hK3 hK4 hb1 hb2 hb3 hb4
  have n1 : (b1 != b1) = false := by simp
  have n2 : (b2 != b2) = false := by simp
  have n3 : (b3 == b3) = true := by simp
  have n4 : (r4 == r4) = true := by simp
  go_wp2_with fail
  refine (firstQ (HT.out.below E1.out.b HT.out.1) ((HR.out.below E1.out.b).more E1.out.b.size) HK1 HB1).mono ?_
  rintro e w1a ⟨a1, rfl, hs1, hb1⟩
  have E1b := Lib.hid (((E1.out.below hb1.out).addSt hs1.out).alloc a1 30)
  have I1 := Lib.hid hs1.out.inf
  have O1 := Lib.hid hs1.out.one
  have Z1 : Hid (17 = a1.size) := Lib.hid hs1.out.size.symm
  clear hb1 hs1 E1
  go_upto_region 4 with ((with_reducible show wpList _ _ _ _ _ _); refine wpList_store_new rfl rfl _ (.tmp 7) (.tmp 36) rfl _ _ a1 _ rfl rfl I1.out Z1.out O1.out ?_)
  generalize hg1 : w1a.heap.size = g1 at *
  clear hg1
  generalize w1a.alloc (.cells a1 30) = w1b at *
  go_wp2_with fail
  refine (rfirstQ ((HR.out.below E1b.out.b).more E1b.out.b.size) HK1 HB1).mono ?_
  rintro e w2a ⟨a2, rfl, hs2, hb2⟩
  have E2b := Lib.hid (((E1b.out.below hb2.out).addSt hs2.out).alloc a2 30)
  have I2 := Lib.hid hs2.out.inf
  have O2 := Lib.hid hs2.out.one
  have Z2 : Hid (17 = a2.size) := Lib.hid hs2.out.size.symm
  clear hb2 hs2 E1b
  go_upto_region 5 with ((with_reducible show wpList _ _ _ _ _ _); refine wpList_store_new rfl rfl _ (.tmp 9) (.tmp 42) rfl _ _ a2 _ rfl rfl I2.out Z2.out O2.out ?_)
  generalize hg2 : w2a.heap.size = g2 at *
  clear hg2
  generalize w2a.alloc (.cells a2 30) = w2b at *
  go_wp2_with ((with_reducible show wpList _ _ _ _ _ _); refine wpList_load_row (o := ⟨some 45, _, _, _, _, _⟩) rfl _ (.tmp 3) rfl (w.heap.size) rfl _ _ _ _ (E2b.out.bx _ _ _ (.tail _ (.tail _ (.head _)))) Tryd.underlying30 rfl IN.out ?_)
  refine (startQ (E2b.out.st _ _ (.tail _ (.tail _ (.head _)))) HK2 HB2).mono ?_
  rintro e w3a ⟨a3, rfl, hs3, hb3⟩
  have E3b := Lib.hid (((E2b.out.below hb3.out).addSt hs3.out).alloc a3 30)
  have I3 := Lib.hid hs3.out.inf
  have O3 := Lib.hid hs3.out.one
  have Z3 : Hid (17 = a3.size) := Lib.hid hs3.out.size.symm
  clear hb3 hs3 E2b
  go_upto_region 6 with ((with_reducible show wpList _ _ _ _ _ _); refine wpList_store_new rfl rfl _ (.tmp 11) (.tmp 47) rfl _ _ a3 _ rfl rfl I3.out Z3.out O3.out ?_)
  generalize hg3 : w3a.heap.size = g3 at *
  clear hg3
  generalize w3a.alloc (.cells a3 30) = w3b at *
  go_wp2_with ((with_reducible show wpList _ _ _ _ _ _); refine wpList_load_row (o := ⟨some 50, _, _, _, _, _⟩) rfl _ (.tmp 3) rfl (w.heap.size) rfl _ _ _ _ (E3b.out.bx _ _ _ (.tail _ (.tail _ (.tail _ (.head _))))) Tryd.underlying30 rfl IN.out ?_)
  refine (rstartQ (E3b.out.st _ _ (.tail _ (.tail _ (.tail _ (.head _))))) HK2 HB2).mono ?_
  rintro e w4a ⟨a4, rfl, hs4, hb4⟩
  have E4b := Lib.hid (((E3b.out.below hb4.out).addSt hs4.out).alloc a4 30)
  have I4 := Lib.hid hs4.out.inf
  have O4 := Lib.hid hs4.out.one
  have Z4 : Hid (17 = a4.size) := Lib.hid hs4.out.size.symm
  clear hb4 hs4 E3b
  go_upto_region 7 with ((with_reducible show wpList _ _ _ _ _ _); refine wpList_store_new rfl rfl _ (.tmp 13) (.tmp 52) rfl _ _ a4 _ rfl rfl I4.out Z4.out O4.out ?_)
  generalize hg4 : w4a.heap.size = g4 at *
  clear hg4
  generalize w4a.alloc (.cells a4 30) = w4b at *
  have HQ1 : Hid (K1.eqb K1 = true) := Lib.hid (eqb_refl _)
  have HQ2 : Hid (K2.eqb K2 = true) := Lib.hid (eqb_refl _)
  go_wp2_with (first
    | ((with_reducible show wpList _ _ _ _ _ _); refine wpList_load_row (o := ⟨some 54, _, _, _, _, _⟩) rfl _ (.tmp 7) rfl (g1) rfl _ _ _ _ (E4b.out.bx _ _ _ (.tail _ (.tail _ (.tail _ (.head _))))) Tryd.underlying30 rfl I1.out ?_)
    | ((with_reducible show wpList _ _ _ _ _ _); refine wpList_load_row (o := ⟨some 55, _, _, _, _, _⟩) rfl _ (.tmp 9) rfl (g2) rfl _ _ _ _ (E4b.out.bx _ _ _ (.tail _ (.tail _ (.head _)))) Tryd.underlying30 rfl I2.out ?_))
  refine (rsameS (E4b.out.st _ _ (.tail _ (.tail _ (.tail _ (.head _))))) (E4b.out.st _ _ (.tail _ (.tail _ (.head _))))).mono ?_
  rintro e w7a ⟨rfl, hb7a⟩
  rw [HQ1.out]
  have E7a := Lib.hid (E4b.out.below hb7a)
  clear hb7a E4b
  go_wp2_with (first
    | ((with_reducible show wpList _ _ _ _ _ _); refine wpList_load_rowG (o := ⟨some 64, _, _, _, _, _⟩) (by rfl) _ (.tmp 11) rfl (g3) rfl _ _ _ _ (E7a.out.bx _ _ _ (.tail _ (.head _))) Tryd.underlying30 rfl I3.out ?_)
    | ((with_reducible show wpList _ _ _ _ _ _); refine wpList_load_rowG (o := ⟨some 65, _, _, _, _, _⟩) (by rfl) _ (.tmp 13) rfl (g4) rfl _ _ _ _ (E7a.out.bx _ _ _ (.head _)) Tryd.underlying30 rfl I4.out ?_))
  refine (rsameS (E7a.out.st _ _ (.tail _ (.head _))) (E7a.out.st _ _ (.head _))).mono ?_
  rintro e w7 ⟨rfl, hb7⟩
  rw [HQ2.out]
  have E7c := Lib.hid (E7a.out.below hb7)
  clear hb7 E7a
  have E7 := E7c
  clear E7c
  go_wp2_with ((with_reducible show wpList _ _ _ _ _ _); refine wpList_load_row (o := ⟨some 75, _, _, _, _, _⟩) rfl _ (.tmp 3) rfl (w.heap.size) rfl _ _ _ _ (E7.out.bx _ _ _ (.tail _ (.tail _ (.tail _ (.tail _ (.head _)))))) Tryd.underlying30 rfl IN.out ?_)
  refine (confQ (E7.out.st _ _ (.tail _ (.tail _ (.tail _ (.tail _ (.head _)))))) HK3 HB3).mono ?_
  rintro e w5a ⟨a5, rfl, hs5, hb5⟩
  have E5b := Lib.hid (((E7.out.below hb5.out).addSt hs5.out).alloc a5 30)
  have I5 := Lib.hid hs5.out.inf
  have O5 := Lib.hid hs5.out.one
  have Z5 : Hid (17 = a5.size) := Lib.hid hs5.out.size.symm
  clear hb5 hs5 E7
  go_upto_region 10 with ((with_reducible show wpList _ _ _ _ _ _); refine wpList_store_new rfl rfl _ (.tmp 15) (.tmp 77) rfl _ _ a5 _ rfl rfl I5.out Z5.out O5.out ?_)
  generalize hg5 : w5a.heap.size = g5 at *
  clear hg5
  generalize w5a.alloc (.cells a5 30) = w5b at *
  go_wp2_with ((with_reducible show wpList _ _ _ _ _ _); refine wpList_load_row (o := ⟨some 80, _, _, _, _, _⟩) rfl _ (.tmp 3) rfl (w.heap.size) rfl _ _ _ _ (E5b.out.bx _ _ _ (.tail _ (.tail _ (.tail _ (.tail _ (.tail _ (.head _))))))) Tryd.underlying30 rfl IN.out ?_)
  refine (rconfQ (E5b.out.st _ _ (.tail _ (.tail _ (.tail _ (.tail _ (.tail _ (.head _))))))) HK3 HB3).mono ?_
  rintro e w6a ⟨a6, rfl, hs6, hb6⟩
  have E6b := Lib.hid (((E5b.out.below hb6.out).addSt hs6.out).alloc a6 30)
  have I6 := Lib.hid hs6.out.inf
  have O6 := Lib.hid hs6.out.one
  have Z6 : Hid (17 = a6.size) := Lib.hid hs6.out.size.symm
  clear hb6 hs6 E5b
  go_upto_region 11 with ((with_reducible show wpList _ _ _ _ _ _); refine wpList_store_new rfl rfl _ (.tmp 17) (.tmp 82) rfl _ _ a6 _ rfl rfl I6.out Z6.out O6.out ?_)
  generalize hg6 : w6a.heap.size = g6 at *
  clear hg6
  generalize w6a.alloc (.cells a6 30) = w6b at *
  go_wp2_with ((with_reducible show wpList _ _ _ _ _ _); refine wpList_load_row (o := ⟨some 85, _, _, _, _, _⟩) rfl _ (.tmp 3) rfl (w.heap.size) rfl _ _ _ _ (E6b.out.bx _ _ _ (.tail _ (.tail _ (.tail _ (.tail _ (.tail _ (.tail _ (.head _)))))))) Tryd.underlying30 rfl IN.out ?_)
  refine (actQ (E6b.out.st _ _ (.tail _ (.tail _ (.tail _ (.tail _ (.tail _ (.tail _ (.head _)))))))) HK4 HB4).mono ?_
  rintro e w7a ⟨a7, rfl, hs7, hb7⟩
  have E7b := Lib.hid (((E6b.out.below hb7.out).addSt hs7.out).alloc a7 30)
  have I7 := Lib.hid hs7.out.inf
  have O7 := Lib.hid hs7.out.one
  have Z7 : Hid (17 = a7.size) := Lib.hid hs7.out.size.symm
  clear hb7 hs7 E6b
  go_upto_region 12 with ((with_reducible show wpList _ _ _ _ _ _); refine wpList_store_new rfl rfl _ (.tmp 19) (.tmp 87) rfl _ _ a7 _ rfl rfl I7.out Z7.out O7.out ?_)
  generalize hg7 : w7a.heap.size = g7 at *
  clear hg7
  generalize w7a.alloc (.cells a7 30) = w7b at *
  go_wp2_with ((with_reducible show wpList _ _ _ _ _ _); refine wpList_load_row (o := ⟨some 90, _, _, _, _, _⟩) rfl _ (.tmp 3) rfl (w.heap.size) rfl _ _ _ _ (E7b.out.bx _ _ _ (.tail _ (.tail _ (.tail _ (.tail _ (.tail _ (.tail _ (.tail _ (.head _))))))))) Tryd.underlying30 rfl IN.out ?_)
  refine (ractQ (E7b.out.st _ _ (.tail _ (.tail _ (.tail _ (.tail _ (.tail _ (.tail _ (.tail _ (.head _))))))))) HK4 HB4).mono ?_
  rintro e w8a ⟨a8, rfl, hs8, hb8⟩
  have E8b := Lib.hid (((E7b.out.below hb8.out).addSt hs8.out).alloc a8 30)
  have I8 := Lib.hid hs8.out.inf
  have O8 := Lib.hid hs8.out.one
  have Z8 : Hid (17 = a8.size) := Lib.hid hs8.out.size.symm
  clear hb8 hs8 E7b
  go_upto_region 13 with ((with_reducible show wpList _ _ _ _ _ _); refine wpList_store_new rfl rfl _ (.tmp 21) (.tmp 92) rfl _ _ a8 _ rfl rfl I8.out Z8.out O8.out ?_)
  generalize hg8 : w8a.heap.size = g8 at *
  clear hg8
  generalize w8a.alloc (.cells a8 30) = w8b at *
  have HE : Hid (∀ W, Below w8b.heap.size w8b W → Env w W [(g8, a8, 30), (g7, a7, 30), (g6, a6, 30), (g5, a5, 30), (g4, a4, 30), (g3, a3, 30), (g2, a2, 30), (g1, a1, 30), (w.heap.size, cs, 30)] [(a8, K4), (a7, K4), (a6, K3), (a5, K3), (a4, K2), (a3, K2), (a2, K1), (a1, K1), (cs, L)] []) := Lib.hid (fun W hW => E8b.out.below hW)
  have HQ3 : Hid (K3.eqb K3 = true) := Lib.hid (eqb_refl _)
  have HQ4 : Hid (K4.eqb K4 = true) := Lib.hid (eqb_refl _)
  obtain ⟨KD, hKD⟩ : ∃ K, L.drop = K := ⟨_, rfl⟩
  have HKD := Lib.hid hKD
  have HQ5 : Hid (KD.eqb KD = true) := Lib.hid (eqb_refl _)
  clear hKD E8b
  refine wp_region_noPanic ?_
  refine wp_region_held_drew (S := (fun W => Below (w8b.heap.size) w8b W)) (by kernel_rfl) (Below.refl _ _).drew (fun hH0 => ?_)
  have hH0 : Below (w8b.heap.size) w8b w8b.drew := hH0
  generalize w8b.drew = wd3000 at *
  refine wpAnyH_take (i := 0) (oi := { dst := some 94, op := Op.load 30 (Operand.tmp 15), type := 30, pos := "law.go:36", after := #[], guard := none }) (v := .agg a5) rfl (by kernel_rfl) (by kernel_rfl) (by kernel_rfl) (fun _ _ _ h => h) (yields_row (by rfl) _ _ rfl (g5) rfl _ _ _ _ (fun W hW => (HE.out W hW).bx _ _ _ (.tail _ (.tail _ (.tail _ (.head _))))) Tryd.underlying30 rfl I5.out) hH0 ?tkr3001
  try simp only [Act.put, List.setIfInBounds_toArray, List.set_cons_zero, List.set_cons_succ]
  refine wpAnyH_take (i := 1) (oi := { dst := some 95, op := Op.load 30 (Operand.tmp 17), type := 30, pos := "law.go:36", after := #[], guard := none }) (v := .agg a6) rfl (by kernel_rfl) (by kernel_rfl) (by kernel_rfl) (fun _ _ _ h => h) (yields_row (by rfl) _ _ rfl (g6) rfl _ _ _ _ (fun W hW => (HE.out W hW).bx _ _ _ (.tail _ (.tail _ (.head _)))) Tryd.underlying30 rfl I6.out) hH0 ?tkr3002
  try simp only [Act.put, List.setIfInBounds_toArray, List.set_cons_zero, List.set_cons_succ]
  refine wpAnyH_ready (rs := [2]) (by kernel_rfl) (by simp) ?_
  refine AllReadyH.cons (o := { dst := some 96, op := Op.call { callee := Callee.value (Operand.func 15), args := #[Operand.tmp 94, Operand.tmp 95], argTypes := #[30, 30] }, type := 4, pos := "law.go:36", after := #[{ on := 0, ground := Ground.data }, { on := 1, ground := Ground.data }], guard := none }) rfl (fun K hK => ?_) AllReadyH.nil
  go_simp
  refine (rsameS ((HE.out wd3000 (hH0)).st _ _ (.tail _ (.tail _ (.tail _ (.head _))))) ((HE.out wd3000 (hH0)).st _ _ (.tail _ (.tail _ (.head _))))).mono ?_
  rintro e' wn3003 ⟨rfl, hb3003⟩
  rw [HQ3.out]
  go_simp
  have hS3003 : Below (w8b.heap.size) w8b wn3003 := (hH0).trans (hb3003.mono (hH0).size)
  refine hK.out _ _ hS3003 (fun hH3003 => ?_)
  have hH3003 : Below (w8b.heap.size) w8b wn3003 := hH3003
  clear hK K hS3003
  try simp only [Act.put, List.setIfInBounds_toArray, List.set_cons_zero, List.set_cons_succ]
  refine wpAnyH_take (i := 3) (oi := { dst := some 97, op := Op.move (Operand.tmp 96), type := 4, pos := "law.go:36", after := #[{ on := 2, ground := Ground.data }, { on := 2, ground := Ground.chain }], guard := none }) (v := ?tkv3004) rfl (by kernel_rfl) (by kernel_rfl) (by kernel_rfl) (fun _ _ _ h => h) (Or.inl ⟨by rfl, ?tky3004⟩) hH3003 ?tkr3004
  case tky3004 => (intro w' hSw; clear hSw; go_simp; try with_reducible rfl)
  try simp only [Act.put, List.setIfInBounds_toArray, List.set_cons_zero, List.set_cons_succ]
  refine wpAnyH_take (i := 4) (oi := { dst := some 98, op := Op.move (Operand.tmp 16), type := 4, pos := "law.go:36", after := #[{ on := 3, ground := Ground.guard }], guard := some (3, true) }) (v := ?tkv3005) rfl (by kernel_rfl) (by kernel_rfl) (by kernel_rfl) (fun _ _ _ h => h) (Or.inl ⟨by rfl, ?tky3005⟩) hH3003 ?tkr3005
  case tky3005 => (intro w' hSw; clear hSw; go_simp; try with_reducible rfl)
  try simp only [Act.put, List.setIfInBounds_toArray, List.set_cons_zero, List.set_cons_succ]
  refine wpAnyH_take (i := 5) (oi := { dst := some 99, op := Op.move (Operand.tmp 18), type := 4, pos := "law.go:36", after := #[{ on := 3, ground := Ground.guard }], guard := some (3, true) }) (v := ?tkv3006) rfl (by kernel_rfl) (by kernel_rfl) (by kernel_rfl) (fun _ _ _ h => h) (Or.inl ⟨by rfl, ?tky3006⟩) hH3003 ?tkr3006
  case tky3006 => (intro w' hSw; clear hSw; go_simp; try with_reducible rfl)
  try simp only [Act.put, List.setIfInBounds_toArray, List.set_cons_zero, List.set_cons_succ]
  refine wpAnyH_take (i := 6) (oi := { dst := some 100, op := Op.binOp BinOp.eql 4 (Operand.tmp 98) (Operand.tmp 99) 4, type := 4, pos := "law.go:36", after := #[{ on := 4, ground := Ground.data }, { on := 5, ground := Ground.data }, { on := 3, ground := Ground.guard }], guard := some (3, true) }) (v := ?tkv3007) rfl (by kernel_rfl) (by kernel_rfl) (by kernel_rfl) (fun _ _ _ h => h) (Or.inl ⟨by rfl, ?tky3007⟩) hH3003 ?tkr3007
  case tky3007 => (intro w' hSw; clear hSw; go_simp; try with_reducible rfl)
  try simp only [Act.put, List.setIfInBounds_toArray, List.set_cons_zero, List.set_cons_succ]
  refine wpAnyH_take (i := 7) (oi := { dst := some 101, op := Op.pick (Operand.tmp 97) (Operand.tmp 100) (Operand.const (Value.bool false)), type := 4, pos := "law.go:36", after := #[{ on := 3, ground := Ground.data }, { on := 6, ground := Ground.data }], guard := none }) (v := ?tkv3008) rfl (by kernel_rfl) (by kernel_rfl) (by kernel_rfl) (fun _ _ _ h => h) (Or.inl ⟨by rfl, ?tky3008⟩) hH3003 ?tkr3008
  case tky3008 => (intro w' hSw; clear hSw; go_simp; try with_reducible rfl)
  try simp only [Act.put, List.setIfInBounds_toArray, List.set_cons_zero, List.set_cons_succ]
  refine wpAnyH_take (i := 8) (oi := { dst := some 102, op := Op.move (Operand.tmp 101), type := 4, pos := "law.go:36", after := #[{ on := 7, ground := Ground.data }, { on := 3, ground := Ground.chain }], guard := none }) (v := ?tkv3009) rfl (by kernel_rfl) (by kernel_rfl) (by kernel_rfl) (fun _ _ _ h => h) (Or.inl ⟨by rfl, ?tky3009⟩) hH3003 ?tkr3009
  case tky3009 => (intro w' hSw; clear hSw; go_simp; try with_reducible rfl)
  try simp only [Act.put, List.setIfInBounds_toArray, List.set_cons_zero, List.set_cons_succ]
  refine wpAnyH_take (i := 9) (oi := { dst := some 103, op := Op.load 30 (Operand.tmp 19), type := 30, pos := "law.go:36", after := #[{ on := 8, ground := Ground.guard }], guard := some (8, true) }) (v := .agg a7) rfl (by kernel_rfl) (by kernel_rfl) (by kernel_rfl) (fun _ _ _ h => h) (yields_row (by rfl) _ _ rfl (g7) rfl _ _ _ _ (fun W hW => (HE.out W hW).bx _ _ _ (.tail _ (.head _))) Tryd.underlying30 rfl I7.out) hH3003 ?tkr3010
  try simp only [Act.put, List.setIfInBounds_toArray, List.set_cons_zero, List.set_cons_succ]
  refine wpAnyH_take (i := 10) (oi := { dst := some 104, op := Op.load 30 (Operand.tmp 21), type := 30, pos := "law.go:36", after := #[{ on := 8, ground := Ground.guard }], guard := some (8, true) }) (v := .agg a8) rfl (by kernel_rfl) (by kernel_rfl) (by kernel_rfl) (fun _ _ _ h => h) (yields_row (by rfl) _ _ rfl (g8) rfl _ _ _ _ (fun W hW => (HE.out W hW).bx _ _ _ (.head _)) Tryd.underlying30 rfl I8.out) hH3003 ?tkr3011
  try simp only [Act.put, List.setIfInBounds_toArray, List.set_cons_zero, List.set_cons_succ]
  refine wpAnyH_ready (rs := [11]) (by kernel_rfl) (by simp) ?_
  refine AllReadyH.cons (o := { dst := some 105, op := Op.call { callee := Callee.value (Operand.func 15), args := #[Operand.tmp 103, Operand.tmp 104], argTypes := #[30, 30] }, type := 4, pos := "law.go:36", after := #[{ on := 9, ground := Ground.data }, { on := 10, ground := Ground.data }, { on := 8, ground := Ground.chain }, { on := 8, ground := Ground.guard }], guard := some (8, true) }) rfl (fun K hK => ?_) AllReadyH.nil
  go_simp
  refine (rsameS ((HE.out wn3003 (hH3003)).st _ _ (.tail _ (.head _))) ((HE.out wn3003 (hH3003)).st _ _ (.head _))).mono ?_
  rintro e' wn3012 ⟨rfl, hb3012⟩
  rw [HQ4.out]
  go_simp
  have hS3012 : Below (w8b.heap.size) w8b wn3012 := (hH3003).trans (hb3012.mono (hH3003).size)
  refine hK.out _ _ hS3012 (fun hH3012 => ?_)
  have hH3012 : Below (w8b.heap.size) w8b wn3012 := hH3012
  clear hK K hS3012
  try simp only [Act.put, List.setIfInBounds_toArray, List.set_cons_zero, List.set_cons_succ]
  refine wpAnyH_take (i := 12) (oi := { dst := some 106, op := Op.pick (Operand.tmp 102) (Operand.tmp 105) (Operand.const (Value.bool false)), type := 4, pos := "law.go:36", after := #[{ on := 8, ground := Ground.data }, { on := 11, ground := Ground.data }], guard := none }) (v := ?tkv3013) rfl (by kernel_rfl) (by kernel_rfl) (by kernel_rfl) (fun _ _ _ h => h) (Or.inl ⟨by rfl, ?tky3013⟩) hH3012 ?tkr3013
  case tky3013 => (intro w' hSw; clear hSw; go_simp; try with_reducible rfl)
  try simp only [Act.put, List.setIfInBounds_toArray, List.set_cons_zero, List.set_cons_succ]
  refine wpAnyH_take (i := 13) (oi := { dst := some 107, op := Op.move (Operand.tmp 106), type := 4, pos := "law.go:36", after := #[{ on := 12, ground := Ground.data }, { on := 11, ground := Ground.chain }], guard := none }) (v := ?tkv3014) rfl (by kernel_rfl) (by kernel_rfl) (by kernel_rfl) (fun _ _ _ h => h) (Or.inl ⟨by rfl, ?tky3014⟩) hH3012 ?tkr3014
  case tky3014 => (intro w' hSw; clear hSw; go_simp; try with_reducible rfl)
  try simp only [Act.put, List.setIfInBounds_toArray, List.set_cons_zero, List.set_cons_succ]
  refine wpAnyH_take (i := 14) (oi := { dst := some 108, op := Op.move (Operand.tmp 20), type := 34, pos := "law.go:36", after := #[{ on := 13, ground := Ground.guard }], guard := some (13, true) }) (v := ?tkv3015) rfl (by kernel_rfl) (by kernel_rfl) (by kernel_rfl) (fun _ _ _ h => h) (Or.inl ⟨by rfl, ?tky3015⟩) hH3012 ?tkr3015
  case tky3015 => (intro w' hSw; clear hSw; go_simp; try with_reducible rfl)
  try simp only [Act.put, List.setIfInBounds_toArray, List.set_cons_zero, List.set_cons_succ]
  refine wpAnyH_take (i := 15) (oi := { dst := some 109, op := Op.move (Operand.tmp 22), type := 34, pos := "law.go:36", after := #[{ on := 13, ground := Ground.guard }], guard := some (13, true) }) (v := ?tkv3016) rfl (by kernel_rfl) (by kernel_rfl) (by kernel_rfl) (fun _ _ _ h => h) (Or.inl ⟨by rfl, ?tky3016⟩) hH3012 ?tkr3016
  case tky3016 => (intro w' hSw; clear hSw; go_simp; try with_reducible rfl)
  try simp only [Act.put, List.setIfInBounds_toArray, List.set_cons_zero, List.set_cons_succ]
  refine wpAnyH_take (i := 16) (oi := { dst := some 110, op := Op.binOp BinOp.eql 34 (Operand.tmp 108) (Operand.tmp 109) 34, type := 4, pos := "law.go:36", after := #[{ on := 14, ground := Ground.data }, { on := 15, ground := Ground.data }, { on := 13, ground := Ground.guard }], guard := some (13, true) }) (v := ?tkv3017) rfl (by kernel_rfl) (by kernel_rfl) (by kernel_rfl) (fun _ _ _ h => h) (Or.inl ⟨by rfl, ?tky3017⟩) hH3012 ?tkr3017
  case tky3017 => (intro w' hSw; clear hSw; go_simp; try with_reducible rfl)
  try simp only [Act.put, List.setIfInBounds_toArray, List.set_cons_zero, List.set_cons_succ]
  refine wpAnyH_take (i := 17) (oi := { dst := some 111, op := Op.pick (Operand.tmp 107) (Operand.tmp 110) (Operand.const (Value.bool false)), type := 4, pos := "law.go:36", after := #[{ on := 13, ground := Ground.data }, { on := 16, ground := Ground.data }], guard := none }) (v := ?tkv3018) rfl (by kernel_rfl) (by kernel_rfl) (by kernel_rfl) (fun _ _ _ h => h) (Or.inl ⟨by rfl, ?tky3018⟩) hH3012 ?tkr3018
  case tky3018 => (intro w' hSw; clear hSw; go_simp; try with_reducible rfl)
  try simp only [Act.put, List.setIfInBounds_toArray, List.set_cons_zero, List.set_cons_succ]
  refine wpAnyH_take (i := 18) (oi := { dst := some 112, op := Op.move (Operand.tmp 111), type := 4, pos := "law.go:36", after := #[{ on := 17, ground := Ground.data }, { on := 13, ground := Ground.chain }], guard := none }) (v := ?tkv3019) rfl (by kernel_rfl) (by kernel_rfl) (by kernel_rfl) (fun _ _ _ h => h) (Or.inl ⟨by rfl, ?tky3019⟩) hH3012 ?tkr3019
  case tky3019 => (intro w' hSw; clear hSw; go_simp; try with_reducible rfl)
  try simp only [Act.put, List.setIfInBounds_toArray, List.set_cons_zero, List.set_cons_succ]
  refine wpAnyH_take (i := 19) (oi := { dst := some 113, op := Op.load 30 (Operand.tmp 3), type := 30, pos := "law.go:36", after := #[{ on := 18, ground := Ground.guard }], guard := some (18, true) }) (v := .agg cs) rfl (by kernel_rfl) (by kernel_rfl) (by kernel_rfl) (fun _ _ _ h => h) (yields_row (by rfl) _ _ rfl (w.heap.size) rfl _ _ _ _ (fun W hW => (HE.out W hW).bx _ _ _ (.tail _ (.tail _ (.tail _ (.tail _ (.tail _ (.tail _ (.tail _ (.tail _ (.head _)))))))))) Tryd.underlying30 rfl IN.out) hH3012 ?tkr3020
  try simp only [Act.put, List.setIfInBounds_toArray, List.set_cons_zero, List.set_cons_succ]
  refine wpAnyH_take (i := 21) (oi := { dst := some 115, op := Op.load 30 (Operand.tmp 3), type := 30, pos := "law.go:36", after := #[{ on := 18, ground := Ground.guard }], guard := some (18, true) }) (v := .agg cs) rfl (by kernel_rfl) (by kernel_rfl) (by kernel_rfl) (fun _ _ _ h => h) (yields_row (by rfl) _ _ rfl (w.heap.size) rfl _ _ _ _ (fun W hW => (HE.out W hW).bx _ _ _ (.tail _ (.tail _ (.tail _ (.tail _ (.tail _ (.tail _ (.tail _ (.tail _ (.head _)))))))))) Tryd.underlying30 rfl IN.out) hH3012 ?tkr3021
  try simp only [Act.put, List.setIfInBounds_toArray, List.set_cons_zero, List.set_cons_succ]
  refine wpAnyH_ready (rs := [20]) (by kernel_rfl) (by simp) ?_
  refine AllReadyH.cons (o := { dst := some 114, op := Op.call { callee := Callee.value (Operand.func 18), args := #[Operand.tmp 113], argTypes := #[30] }, type := 30, pos := "law.go:36", after := #[{ on := 19, ground := Ground.data }, { on := 18, ground := Ground.chain }, { on := 18, ground := Ground.guard }], guard := some (18, true) }) rfl (fun K hK => ?_) AllReadyH.nil
  go_simp
  refine (dropS ((HE.out wn3012 (hH3012)).st _ _ (.tail _ (.tail _ (.tail _ (.tail _ (.tail _ (.tail _ (.tail _ (.tail _ (.head _)))))))))) HLT.out).mono ?_
  rintro e' wn3022 ⟨cd3022, rfl, D3022, hbo3022⟩
  have hb3022 := hbo3022.out
  rw [HKD.out] at D3022
  go_simp
  have hS3022 : Below (w8b.heap.size) w8b wn3022 := (hH3012).trans (hb3022.mono (hH3012).size)
  refine hK.out _ _ hS3022 (fun hH3022 => ?_)
  have hH3022 : Below (w8b.heap.size) w8b wn3022 := hH3022
  clear hK K hS3022
  try simp only [Act.put, List.setIfInBounds_toArray, List.set_cons_zero, List.set_cons_succ]
  refine wpAnyH_ready (rs := [22]) (by kernel_rfl) (by simp) ?_
  refine AllReadyH.cons (o := { dst := some 116, op := Op.call { callee := Callee.value (Operand.func 19), args := #[Operand.tmp 115], argTypes := #[30] }, type := 30, pos := "law.go:36", after := #[{ on := 21, ground := Ground.data }, { on := 20, ground := Ground.chain }, { on := 18, ground := Ground.guard }], guard := some (18, true) }) rfl (fun K hK => ?_) AllReadyH.nil
  go_simp
  refine (rdropQ ((HE.out wn3022 (hH3022)).st _ _ (.tail _ (.tail _ (.tail _ (.tail _ (.tail _ (.tail _ (.tail _ (.tail _ (.head _))))))))))).mono ?_
  rintro e' wn3023 ⟨ce3023, rfl, R3023, hbo3023⟩
  have hb3023 := hbo3023.out
  rw [HKD.out] at R3023
  go_simp
  have D3022_3023 := Lib.hid (D3022.out.below hb3023)
  have hS3023 : Below (w8b.heap.size) w8b wn3023 := (hH3022).trans (hb3023.mono (hH3022).size)
  refine hK.out _ _ hS3023 (fun hH3023 => ?_)
  have hH3023 : Below (w8b.heap.size) w8b wn3023 := hH3023
  clear hK K hS3023
  try simp only [Act.put, List.setIfInBounds_toArray, List.set_cons_zero, List.set_cons_succ]
  refine wpAnyH_ready (rs := [23]) (by kernel_rfl) (by simp) ?_
  refine AllReadyH.cons (o := { dst := some 117, op := Op.call { callee := Callee.value (Operand.func 15), args := #[Operand.tmp 114, Operand.tmp 116], argTypes := #[30, 30] }, type := 4, pos := "law.go:36", after := #[{ on := 20, ground := Ground.data }, { on := 22, ground := Ground.data }, { on := 22, ground := Ground.chain }, { on := 18, ground := Ground.guard }], guard := some (18, true) }) rfl (fun K hK => ?_) AllReadyH.nil
  go_simp
  refine (rsameS D3022_3023.out R3023.out).mono ?_
  rintro e' wn3024 ⟨rfl, hb3024⟩
  rw [HQ5.out]
  go_simp
  have D3022_3024 := Lib.hid (D3022_3023.out.below hb3024)
  have R3023_3024 := Lib.hid (R3023.out.below hb3024)
  have hS3024 : Below (w8b.heap.size) w8b wn3024 := (hH3023).trans (hb3024.mono (hH3023).size)
  refine hK.out _ _ hS3024 (fun hH3024 => ?_)
  have hH3024 : Below (w8b.heap.size) w8b wn3024 := hH3024
  clear hK K hS3024
  try simp only [Act.put, List.setIfInBounds_toArray, List.set_cons_zero, List.set_cons_succ]
  refine wpAnyH_take (i := 24) (oi := { dst := some 118, op := Op.pick (Operand.tmp 112) (Operand.tmp 117) (Operand.const (Value.bool false)), type := 4, pos := "law.go:36", after := #[{ on := 18, ground := Ground.data }, { on := 23, ground := Ground.data }], guard := none }) (v := ?tkv3025) rfl (by kernel_rfl) (by kernel_rfl) (by kernel_rfl) (fun _ _ _ h => h) (Or.inl ⟨by rfl, ?tky3025⟩) hH3024 ?tkr3025
  case tky3025 => (intro w' hSw; clear hSw; go_simp; try with_reducible rfl)
  try simp only [Act.put, List.setIfInBounds_toArray, List.set_cons_zero, List.set_cons_succ]
  refine wpAnyH_take (i := 25) (oi := { dst := some 119, op := Op.move (Operand.tmp 118), type := 4, pos := "law.go:36", after := #[{ on := 24, ground := Ground.data }, { on := 23, ground := Ground.chain }], guard := none }) (v := ?tkv3026) rfl (by kernel_rfl) (by kernel_rfl) (by kernel_rfl) (fun _ _ _ h => h) (Or.inl ⟨by rfl, ?tky3026⟩) hH3024 ?tkr3026
  case tky3026 => (intro w' hSw; clear hSw; go_simp; try with_reducible rfl)
  try simp only [Act.put, List.setIfInBounds_toArray, List.set_cons_zero, List.set_cons_succ]
  refine wpAnyH_ready (rs := [26]) (by kernel_rfl) (by simp) ?_
  refine AllReadyH.cons (o := { dst := some 120, op := Op.call { callee := Callee.value (Operand.func 7), args := #[], argTypes := #[] }, type := 4, pos := "law.go:36", after := #[{ on := 25, ground := Ground.chain }, { on := 25, ground := Ground.guard }], guard := some (25, true) }) rfl (fun K hK => ?_) AllReadyH.nil
  go_simp
  refine (awake21_any wn3024 (HT.out.below (HE.out _ (hH3024)).b HT.out.1)).mono ?_
  rintro e' wn3027 ⟨rfl, hb3027⟩
  go_simp
  have D3022_3027 := Lib.hid (D3022_3024.out.below hb3027)
  have R3023_3027 := Lib.hid (R3023_3024.out.below hb3027)
  have hS3027 : Below (w8b.heap.size) w8b wn3027 := (hH3024).trans (hb3027.mono (hH3024).size)
  refine hK.out _ _ hS3027 (fun hH3027 => ?_)
  have hH3027 : Below (w8b.heap.size) w8b wn3027 := hH3027
  clear hK K hS3027
  try simp only [Act.put, List.setIfInBounds_toArray, List.set_cons_zero, List.set_cons_succ]
  refine wpAnyH_take (i := 27) (oi := { dst := some 121, op := Op.pick (Operand.tmp 119) (Operand.tmp 120) (Operand.const (Value.bool false)), type := 4, pos := "law.go:36", after := #[{ on := 25, ground := Ground.data }, { on := 26, ground := Ground.data }], guard := none }) (v := ?tkv3028) rfl (by kernel_rfl) (by kernel_rfl) (by kernel_rfl) (fun _ _ _ h => h) (Or.inl ⟨by rfl, ?tky3028⟩) hH3027 ?tkr3028
  case tky3028 => (intro w' hSw; clear hSw; go_simp; try with_reducible rfl)
  try simp only [Act.put, List.setIfInBounds_toArray, List.set_cons_zero, List.set_cons_succ]
  refine wpAnyH_take (i := 28) (oi := { dst := some 6, op := Op.assign (Operand.tmp 121), type := 4, pos := "law.go:36", after := #[{ on := 27, ground := Ground.data }, { on := 26, ground := Ground.chain }, { on := 0, ground := Ground.phase }, { on := 1, ground := Ground.phase }, { on := 2, ground := Ground.phase }, { on := 3, ground := Ground.phase }, { on := 4, ground := Ground.phase }, { on := 5, ground := Ground.phase }, { on := 6, ground := Ground.phase }, { on := 7, ground := Ground.phase }, { on := 8, ground := Ground.phase }, { on := 9, ground := Ground.phase }, { on := 10, ground := Ground.phase }, { on := 11, ground := Ground.phase }, { on := 12, ground := Ground.phase }, { on := 13, ground := Ground.phase }, { on := 14, ground := Ground.phase }, { on := 15, ground := Ground.phase }, { on := 16, ground := Ground.phase }, { on := 17, ground := Ground.phase }, { on := 18, ground := Ground.phase }, { on := 19, ground := Ground.phase }, { on := 20, ground := Ground.phase }, { on := 21, ground := Ground.phase }, { on := 22, ground := Ground.phase }, { on := 23, ground := Ground.phase }, { on := 24, ground := Ground.phase }, { on := 25, ground := Ground.phase }, { on := 26, ground := Ground.phase }, { on := 27, ground := Ground.phase }], guard := none }) (v := ?tkv3029) rfl (by kernel_rfl) (by kernel_rfl) (by kernel_rfl) (fun _ _ _ h => h) (Or.inl ⟨by rfl, ?tky3029⟩) hH3027 ?tkr3029
  case tky3029 => (intro w' hSw; clear hSw; go_simp; try with_reducible rfl)
  try simp only [Act.put, List.setIfInBounds_toArray, List.set_cons_zero, List.set_cons_succ]
  refine wpAnyH_done (by kernel_rfl) ?_ _
  refine NoPanic.normal ?_
  have HEND := Lib.hid ((HE.out _ (hH3027)).b)
  go_wp2_with fail
  go_ret
  exact ⟨rfl, HEND.out⟩
end Go.Proofs.YtoclckfpbmglfaaDoor
