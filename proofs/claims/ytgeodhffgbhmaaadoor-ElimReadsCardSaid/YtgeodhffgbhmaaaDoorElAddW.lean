/- elim.Add's walk. -/
import Derived.Test.YtgeodhffgbhmaaaDoorElAdd
namespace Go.Proofs.YtgeodhffgbhmaaaDoor.El
open Go.RowKit
open VecM Vc
/-- between two rows of Add's loop -/
structure AddAt (w : World) (F : Nat → Prop) (gm gr n z : Nat) (g h d c Z : Nat) (q : List UInt8) (b7 : Nat) (rs : List (Option ER)) (wr : World) : Prop where
  m : MatAt wr F gm gr n z rs
  v : VecAt wr g h n Z
  dat : DatAt wr (some ⟨d, 0, none⟩) c q
  bx : wr.heap[b7]? = some (.cells #[.pointer (some ⟨g, 0, none⟩), .slice (some ⟨d, 0, none⟩) z c] 73 (0, 0))
  fr : Fr w wr F
section
variable {w wr w' : World} {F : Nat → Prop} {gm gr n z g h d c Z b7 : Nat} {q : List UInt8} {rs : List (Option ER)}
theorem AddAt.below (a : AddAt w F gm gr n z g h d c Z q b7 rs wr) (hb : Below wr.heap.size wr w') : AddAt w F gm gr n z g h d c Z q b7 rs w' :=
  ⟨a.m.below hb, a.v.below hb, a.dat.keep fun b he => hb.block b (a.dat.lt he), (hb.block _ (Array.getElem?_eq_some_iff.1 a.bx).1).trans a.bx, a.fr.trans (Fr.of_below hb) fun _ _ h => h⟩
theorem AddAt.change (a : AddAt w F gm gr n z g h d c Z q b7 rs wr) {k : Nat} {r : ER} (hk : rs[k]? = some (some r)) (hrw : r.h < w.heap.size ∧ r.d < w.heap.size) (hgw : w.heap.size ≤ g ∧ w.heap.size ≤ h ∧ w.heap.size ≤ d ∧ w.heap.size ≤ b7)
    {X' : Nat} {l' : List UInt8} (hv : VecAt w' r.g r.h n X') (hd : DatAt w' (some ⟨r.d, 0, none⟩) r.c l') (hl : l'.length = z) (hf : Fr wr w' (fun b => b = r.h ∨ b = r.d)) : AddAt w F gm gr n z g h d c Z q b7 (rs.set k (some { r with X := X', l := l' })) w' := by
  obtain ⟨_, _, _, _, a5, a6⟩ := a.m.at_ k r hk
  refine ⟨a.m.upd hk hf hv hd hl, a.v.keep (hf.block _ a.v.lt.1 (by omega)) (hf.block _ a.v.lt.2 (by omega)), a.dat.keep fun b he => ?_, (hf.block _ (Array.getElem?_eq_some_iff.1 a.bx).1 (by omega)).trans a.bx, a.fr.trans hf fun b _ hb => ?_⟩
  · have he2 : d = b := Option.some.inj he
    exact hf.block _ (a.dat.lt he) (by omega)
  · rcases hb with rfl | rfl
    · exact a5
    · exact a6
end
def AddOk (F : Nat → Prop) (gm gr n z : Nat) (M : Mx) (w : World) (e : Ending) (w' : World) : Prop :=
  ∃ rs, e = .returned (.bool true) ∧ absM rs = M ∧ Hid (MatAt w' (fun b => F b ∨ (w.heap.size ≤ b ∧ b < w'.heap.size)) gm gr n z rs) ∧ Hid (Fr w w' F)
theorem redM_lt {w : World} {F : Nat → Prop} {gm gr n z : Nat} {rs : List (Option ER)} (m : MatAt w F gm gr n z rs) {X : Nat} (hX : X < 2 ^ n) (l : List UInt8) (k : Nat) : (redM (absM rs) X l k).1 < 2 ^ n := by
  induction k with
  | zero => exact hX
  | succ k ih =>
    cases h : (absM rs).getD k none with
    | none => rw [redM_none h]; exact ih
    | some r =>
      rw [redM_some h]
      split
      · refine Nat.xor_lt_two_pow ih ?_
        rw [absM_getD] at h
        cases h2 : rs.getD k none with
        | none => rw [h2] at h; cases h
        | some s =>
          rw [h2] at h
          injection h with h
          subst h
          exact (m.at_ k s (getD_get h2)).1.2.1
      · exact ih
theorem drew_heap (w : World) : w.drew.heap = w.heap := rfl
set_option maxRecDepth 100000 in
set_option maxHeartbeats 1600000 in
theorem add_no (F : Nat → Prop) (gm gr n z : Nat) (rs : List (Option ER)) (g0 h0 X c0 : Nat) (A : Option Addr) (l : List UInt8) (w : World) (m : MatAt w F gm gr n z rs) (v : VecAt w g0 h0 n X) (hr : Row w w.heap.size A l.length (bv l)) (hl : l.length = z) (ht : DTab w) (hz : (redM (absM rs) X l n).1 = 0) :
    Calls Tryd.prog 14 #[.pointer (some ⟨gm, 0, none⟩), .pointer (some ⟨g0, 0, none⟩), .slice A z c0] w fun e w' => e = .returned (.bool false) ∧ Hid (Below w.heap.size w w') := by
  have HM := Lib.hid m
  have HV := Lib.hid v
  have HT := Lib.hid ht
  have HR := Lib.hid hr
  have HL := Lib.hid hl
  have HZ := Lib.hid hz
  have hne : ((n : Int) != (n : Int)) = false := by simp
  have hnz : ((z : Int) != (z : Int)) = false := by simp
  obtain ⟨c0', c1, _⟩ := m.cells
  clear m v ht hr hl hz
  go_enter Tryd.func14, Tryd.ntmps14
  go_wp2_with fail
  go_quiet ((first
    | (go_at_call 27; with_reducible exact Calls.quiet_of_same (sameC (empty_no F gm gr n z rs _ (HM.out.drewN _))))
    | (go_at_call 28; with_reducible exact Calls.quiet_of_same (sameC (len_any g0 h0 n X _ (HV.out.drewN _))))))
  have HB := Lib.hid (drew_below w nq)
  have HMq := Lib.hid (HM.out.drewN nq)
  have HVq := Lib.hid (HV.out.drewN nq)
  have HTq := Lib.hid (HT.out.grow (drew_below w nq))
  have HRq := Lib.hid (HR.out.drewN nq)
  rw [show w.heap.size = (w.drewN nq).heap.size from rfl] at HRq
  clear c0' c1 HM HV HT hne hnz HR
  generalize w.drewN nq = wq at *
  go_wp2_with fail
  refine (reduced_any F gm gr n z rs g0 h0 X c0 A l wq HMq.out HVq.out HRq.out HL.out).mono ?_
  rintro e w1 ⟨g, h, d, c, rfl, _, _, _, hv1, _, hb1⟩
  rw [HZ.out] at hv1
  have hq := (redM_len (absM rs) X l n).trans HL.out
  rw [hq]
  clear hq
  go_upto_region 4 with fail
  have hba : Below w1.heap.size w1 (w1.alloc (.cells #[.pointer (some ⟨g, 0, none⟩), .slice (some ⟨d, 0, none⟩) z c] 73)) := (Below.refl _ _).alloc (Nat.le_refl _) _
  have hx := heap_alloc_new w1 (.cells #[.pointer (some ⟨g, 0, none⟩), .slice (some ⟨d, 0, none⟩) z c] 73)
  generalize w1.alloc (.cells #[.pointer (some ⟨g, 0, none⟩), .slice (some ⟨d, 0, none⟩) z c] 73) = wa at *
  have c1 : wa.cell? ⟨w1.heap.size, 0, none⟩ = some (.pointer (some ⟨g, 0, none⟩)) := by rw [cell_of_row wa _ 0 _ _ (0, 0) hx]; rfl
  have HB1 := Lib.hid (HB.out.trans ((hb1.out.trans (hba.mono hb1.out.size)).mono HB.out.size))
  have HT1 := Lib.hid ((HTq.out.grow hb1.out).grow hba)
  have HV1 := Lib.hid (hv1.out.below hba)
  clear hx hba hb1 hv1 HMq HVq HTq HRq HB
  go_wp2_with fail
  refine (first_any g h n 0 wa HV1.out HT1.out).mono ?_
  rintro e w2 ⟨rfl, rfl⟩
  rw [firstI_zero]
  go_wp2_with fail
  go_ret
  exact ⟨rfl, HB1⟩
/-- data of another length -/
theorem add_len (F : Nat → Prop) (gm gr n z : Nat) (rs : List (Option ER)) (g0 h0 X c0 : Nat) (A : Option Addr) (k : Nat) (w : World) (m : MatAt w F gm gr n z rs) (v : VecAt w g0 h0 n X) (hk : k ≠ z) :
    Calls Tryd.prog 14 #[.pointer (some ⟨gm, 0, none⟩), .pointer (some ⟨g0, 0, none⟩), .slice A k c0] w fun e w' => e = .returned (.bool false) ∧ Hid (Below w.heap.size w w') := by
  have HM := Lib.hid m
  have HV := Lib.hid v
  have hne : ((n : Int) != (n : Int)) = false := by simp
  have hnz : ((k : Int) != (z : Int)) = true := by simp; omega
  obtain ⟨c0', c1, _⟩ := m.cells
  clear m v hk
  go_enter Tryd.func14, Tryd.ntmps14
  go_wp2_with fail
  go_quiet ((first
    | (go_at_call 27; with_reducible exact Calls.quiet_of_same (sameC (empty_no F gm gr n z rs _ (HM.out.drewN _))))
    | (go_at_call 28; with_reducible exact Calls.quiet_of_same (sameC (len_any g0 h0 n X _ (HV.out.drewN _))))))
  have HB := Lib.hid (drew_below w nq)
  generalize w.drewN nq = wq at *
  go_wp2_with fail
  go_ret
  exact ⟨rfl, HB⟩
/-- no row -/
theorem add_nilv (F : Nat → Prop) (gm gr n z : Nat) (rs : List (Option ER)) (c0 : Nat) (A : Option Addr) (k : Nat) (w : World) (m : MatAt w F gm gr n z rs) :
    Calls Tryd.prog 14 #[.pointer (some ⟨gm, 0, none⟩), .pointer none, .slice A k c0] w fun e w' => e = .returned (.bool false) ∧ Hid (Below w.heap.size w w') := by
  have HM := Lib.hid m
  have h1 := m.n1
  have hne : ((0 : Int) != (n : Int)) = true := by simp; omega
  obtain ⟨c0', c1, _⟩ := m.cells
  clear m
  go_enter Tryd.func14, Tryd.ntmps14
  go_wp2_with fail
  go_quiet ((first
    | (go_at_call 27; with_reducible exact Calls.quiet_of_same (sameC (empty_no F gm gr n z rs _ (HM.out.drewN _))))
    | (go_at_call 28; with_reducible exact Calls.quiet_of_same (sameC (len_nil _)))))
  have HB := Lib.hid (drew_below w nq)
  generalize w.drewN nq = wq at *
  go_wp2_with fail
  go_ret
  exact ⟨rfl, HB⟩
/-- no matrix -/
theorem add_nilm (p : Option Addr) (A : Option Addr) (k c0 : Nat) (w : World) :
    Calls Tryd.prog 14 #[.pointer none, .pointer p, .slice A k c0] w fun e w' => e = .returned (.bool false) ∧ Hid (Below w.heap.size w w') := by
  go_enter Tryd.func14, Tryd.ntmps14
  go_wp2_with fail
  go_quiet ((first
    | (go_at_call 27; with_reducible exact Calls.quiet_of_same (sameC (empty_nil _)))))
  have HB := Lib.hid (drew_below w nq)
  generalize w.drewN nq = wq at *
  go_wp2_with fail
  go_ret
  exact ⟨rfl, HB⟩
set_option maxRecDepth 100000 in
set_option maxHeartbeats 3200000 in
theorem add_yes (F : Nat → Prop) (gm gr n z : Nat) (rs : List (Option ER)) (g0 h0 X c0 : Nat) (A : Option Addr) (l : List UInt8) (w : World) (m : MatAt w F gm gr n z rs) (v : VecAt w g0 h0 n X) (hr : Row w w.heap.size A l.length (bv l)) (hl : l.length = z) (ht : DTab w) (Z : Nat) (q : List UInt8) (hz : redM (absM rs) X l n = (Z, q)) (f : Nat) (hf : f < n) (hbit : Z.testBit f = true) (hlow : ∀ j, j < f → Z.testBit j = false) (hnone : rs[f]? = some none) :
    Calls Tryd.prog 14 #[.pointer (some ⟨gm, 0, none⟩), .pointer (some ⟨g0, 0, none⟩), .slice A z c0] w (AddOk F gm gr n z (addM (absM rs) Z q f) w) := by
  have HM := Lib.hid m
  have HV := Lib.hid v
  have HT := Lib.hid ht
  have HR := Lib.hid hr
  have HL := Lib.hid hl
  have HZ := Lib.hid hz
  have hne : ((n : Int) != (n : Int)) = false := by simp
  have hnz : ((z : Int) != (z : Int)) = false := by simp
  obtain ⟨c0', c1, _⟩ := m.cells
  have HF := Lib.hid hf
  have HBIT := Lib.hid (And.intro hbit hlow)
  have HNO := Lib.hid hnone
  have hn2 : (n : Int) ≤ 256 := by have := m.n2; omega
  have HN2 := Lib.hid m.n2
  clear m v ht hr hl hz hf hbit hlow hnone
  go_enter Tryd.func14, Tryd.ntmps14
  go_wp2_with fail
  go_quiet ((first
    | (go_at_call 27; with_reducible exact Calls.quiet_of_same (sameC (empty_no F gm gr n z rs _ (HM.out.drewN _))))
    | (go_at_call 28; with_reducible exact Calls.quiet_of_same (sameC (len_any g0 h0 n X _ (HV.out.drewN _))))))
  have HB := Lib.hid (drew_below w nq)
  have HMq := Lib.hid (HM.out.drewN nq)
  have HVq := Lib.hid (HV.out.drewN nq)
  have HTq := Lib.hid (HT.out.grow (drew_below w nq))
  have HRq := Lib.hid (HR.out.drewN nq)
  rw [show w.heap.size = (w.drewN nq).heap.size from rfl] at HRq
  clear c0' c1 HM HV HT hne hnz HR
  have HWQ : Hid ((w.drewN nq).heap.size = w.heap.size) := Lib.hid rfl
  generalize w.drewN nq = wq at *
  go_wp2_with fail
  refine (reduced_any F gm gr n z rs g0 h0 X c0 A l wq HMq.out HVq.out HRq.out HL.out).mono ?_
  rintro e w1 ⟨g, h, d, c, rfl, hg, hh, hd, hv1, hd1, hb1⟩
  rw [HZ.out] at hv1 hd1 ⊢
  have hq := redM_len (absM rs) X l n
  rw [HZ.out, HL.out] at hq
  simp only at hq hv1 hd1 ⊢
  rw [hq]
  have HQ := Lib.hid hq
  clear hq
  go_upto_region 4 with fail
  have hba : Below w1.heap.size w1 (w1.alloc (.cells #[.pointer (some ⟨g, 0, none⟩), .slice (some ⟨d, 0, none⟩) z c] 73)) := (Below.refl _ _).alloc (Nat.le_refl _) _
  have hx := heap_alloc_new w1 (.cells #[.pointer (some ⟨g, 0, none⟩), .slice (some ⟨d, 0, none⟩) z c] 73)
  generalize w1.alloc (.cells #[.pointer (some ⟨g, 0, none⟩), .slice (some ⟨d, 0, none⟩) z c] 73) = wa at *
  have c1 : wa.cell? ⟨w1.heap.size, 0, none⟩ = some (.pointer (some ⟨g, 0, none⟩)) := by rw [cell_of_row wa _ 0 _ _ (0, 0) hx]; rfl
  have hB1 := hb1.out.trans (hba.mono hb1.out.size)
  have HB1 := Lib.hid (HB.out.trans (hB1.mono HB.out.size))
  have HT1 := Lib.hid ((HTq.out.grow hb1.out).grow hba)
  have HGW : Hid (w.heap.size ≤ g ∧ w.heap.size ≤ h ∧ w.heap.size ≤ d ∧ w.heap.size ≤ w1.heap.size) := Lib.hid (by have := HB.out.size; have := hb1.out.size; omega)
  have HA : Hid (AddAt w F gm gr n z g h d c Z q w1.heap.size (chgTo Z q f rs 0) wa) := Lib.hid (by
    rw [chgTo_zero]
    exact ⟨HMq.out.below hB1, hv1.out.below hba, hd1.out.keep fun b he => hba.block b (hd1.out.lt he), hx, Fr.of_below HB1.out⟩)
  clear hx hba hb1 hv1 hd1 HVq HTq HRq HB hB1 hg hh hd
  go_wp2_with fail
  refine (first_any g h n Z wa HA.out.v HT1.out).mono ?_
  rintro e w2 ⟨rfl, rfl⟩
  rw [show firstI (Ls Z) = (f : Int) from firstI_low (by have := HF.out; have := HN2.out; omega) HBIT.out.1 HBIT.out.2]
  have hf0 : (0 : Int) ≤ (f : Int) := by omega
  obtain ⟨_, _, m2, _⟩ := HA.out.m.cells
  clear c1
  go_wp2_with fail
  clear m2
  have HMW := Lib.hid (And.intro HMq.out HB1.out)
  go_loopw [46] (fun x wr => ∃ k : Nat, k ≤ n ∧ x = .int .i64 k ∧ Hid (AddAt w F gm gr n z g h d c Z q w1.heap.size (chgTo Z q f rs k) wr)) (fun x _ => n - (intOf x).toNat)
  case atStart => exact ⟨0, by omega, rfl, HA⟩
  case round =>
    obtain ⟨k, hk, rfl, ha⟩ := hrel
    clear HA HT1
    by_cases hlt : k < n
    · have hki : (k : Int) < (n : Int) := by omega
      obtain ⟨r1, r2⟩ := ha.out.m.row hlt
      have hgr : gr < wr.heap.size := ha.out.m.lt.2
      have hlk : k < rs.length := by rw [HMq.out.len]; exact hlt
      have hck : (chgTo Z q f rs k)[k]? = rs[k]? := by rw [chgTo_get, if_neg (Nat.lt_irrefl _)]
      have hrk : rs[k]? = some (rs.getD k none) := by rw [List.getD_eq_getElem?_getD, List.getElem?_eq_getElem hlk]; rfl
      have hdk : (chgTo Z q f rs k).getD k none = rs.getD k none := by rw [List.getD_eq_getElem?_getD, List.getD_eq_getElem?_getD, hck]
      rw [hdk] at r1 r2
      have HRK := Lib.hid hrk
      have HCK := Lib.hid hck
      clear hck hrk hdk hlk
      cases hro : rs.getD k none with
      | none =>
        rw [hro] at r1 r2 HRK
        unfold ptrOf at r1
        unfold slcOf at r2
        simp only at r1 r2
        clear hro
        have HS : Hid (AddAt w F gm gr n z g h d c Z q w1.heap.size (chgTo Z q f rs (k + 1)) (wr.alloc (.cells #[.pointer none, .slice none 0 0] 73))) := Lib.hid (by
          rw [chgTo_same Z q f rs k HRK.out rfl]
          exact ha.out.below ((Below.refl _ _).alloc (Nat.le_refl _) _))
        clear ha
        go_wp2_with fail
        refine (has_no none _ _ (within_nil _ _)).mono ?_
        rintro e w3 ⟨rfl, rfl⟩
        go_wp2_with fail
        go_roundw
        case rel => exact ⟨k + 1, by omega, by go_num, HS⟩
        case measure => simp [intOf]; omega
      | some r =>
        rw [hro] at r1 r2 HRK
        obtain ⟨e1, e2, e3, e4, e5, e6⟩ := HMq.out.at_ k r HRK.out
        unfold ptrOf at r1
        unfold slcOf at r2
        simp only [e3] at r1 r2
        obtain ⟨v1, v2, v3, _⟩ := ha.out.m.at_ k r (HCK.out.trans HRK.out)
        have HE := Lib.hid (And.intro e1 (And.intro e2 e3))
        clear hro e1 e2 e3 e4 e5 e6 v1 v2 v3
        go_upto_region 10 with fail
        have hra := ha.out.below (w' := wr.alloc (.cells #[.pointer (some ⟨r.g, 0, none⟩), .slice (some ⟨r.d, 0, none⟩) z r.c] 73)) ((Below.refl _ _).alloc (Nat.le_refl _) _)
        have hxa := heap_alloc_new wr (.cells #[.pointer (some ⟨r.g, 0, none⟩), .slice (some ⟨r.d, 0, none⟩) z r.c] 73)
        have HRA := Lib.hid hra
        have HXA := Lib.hid hxa
        generalize wr.alloc (.cells #[.pointer (some ⟨r.g, 0, none⟩), .slice (some ⟨r.d, 0, none⟩) z r.c] 73) = wb at *
        clear hra hxa r1 r2 hgr ha
        have c1 : wb.cell? ⟨w1.heap.size, 0, none⟩ = some (.pointer (some ⟨g, 0, none⟩)) := by rw [cell_of_row wb _ 0 _ _ (0, 0) HRA.out.bx]; rfl
        have c2 : wb.cell? ⟨w1.heap.size, 1, none⟩ = some (.slice (some ⟨d, 0, none⟩) z c) := by rw [cell_of_row wb _ 1 _ _ (0, 0) HRA.out.bx]; rfl
        have c3 : wb.cell? ⟨wr.heap.size, 0, none⟩ = some (.pointer (some ⟨r.g, 0, none⟩)) := by rw [cell_of_row wb _ 0 _ _ (0, 0) HXA.out]; rfl
        have c4 : wb.cell? ⟨wr.heap.size, 1, none⟩ = some (.slice (some ⟨r.d, 0, none⟩) z r.c) := by rw [cell_of_row wb _ 1 _ _ (0, 0) HXA.out]; rfl
        obtain ⟨y1, y2, y3, _⟩ := HRA.out.m.at_ k r (HCK.out.trans HRK.out)
        have Y1 := Lib.hid y1
        have Y2 := Lib.hid y2
        have Y3 := Lib.hid y3
        clear y1 y2 y3
        go_wp2_with fail
        refine (has_in r.g r.h n r.X f wb Y1.out HF.out).mono ?_
        rintro e w3 ⟨rfl, rfl⟩
        cases hb2 : r.X.testBit f with
        | false =>
          have HS : Hid (AddAt w F gm gr n z g h d c Z q w1.heap.size (chgTo Z q f rs (k + 1)) wb) := Lib.hid (by
            rw [chgTo_same Z q f rs k HRK.out (by unfold chgE; simp [hb2])]
            exact HRA.out)
          clear hb2
          go_wp2_with fail
          go_roundw
          case rel => exact ⟨k + 1, by omega, by go_num, HS⟩
          case measure => simp [intOf]; omega
        | true =>
          have HN : Hid (chgTo Z q f rs (k + 1) = (chgTo Z q f rs k).set k (some { r with X := r.X ^^^ Z, l := xorL r.l q })) := Lib.hid (by
            rw [chgTo_next Z q f rs k HRK.out]
            unfold chgE
            simp [hb2])
          clear hb2
          go_wp2_with fail
          have hrw : r.h < w.heap.size ∧ r.d < w.heap.size := by rw [← HWQ.out]; exact ⟨HE.out.1.lt.2, HE.out.2.1.lt rfl⟩
          refine (change_any r.g r.h n r.X r.d r.c z g h Z d c r.l q wb Y1.out Y2.out HRA.out.v HRA.out.dat (by have := HGW.out; omega) (by have := HGW.out; omega) Y3.out HQ.out (by have := HMq.out.z2; omega)).mono ?_
          rintro e w5 ⟨rfl, hv5, hd5, hf5⟩
          have HF5 : Hid (AddAt w F gm gr n z g h d c Z q w1.heap.size (chgTo Z q f rs (k + 1)) w5) := Lib.hid (by
            rw [HN.out]
            exact HRA.out.change (HCK.out.trans HRK.out) hrw HGW.out hv5.out hd5.out (by rw [xorL_length]; exact Y3.out) hf5.out)
          clear hrw hv5 hd5 hf5 c1 c2 c3 c4
          go_wp2_with fail
          go_roundw
          case rel => exact ⟨k + 1, by omega, by go_num, HF5⟩
          case measure => simp [intOf]; omega
    · obtain rfl : n = k := by omega
      have hlen := HMq.out.len
      have HAF : Hid (AddAt w F gm gr n z g h d c Z q w1.heap.size (rs.map (chgE Z q f)) wr) := Lib.hid (by
        have := ha.out
        rw [← hlen, chgTo_all] at this
        rw [← hlen]
        exact this)
      have HNF : Hid ((rs.map (chgE Z q f))[f]? = some none) := Lib.hid (by rw [List.getElem?_map, HNO.out]; rfl)
      have hdf : (rs.map (chgE Z q f)).getD f none = none := by rw [List.getD_eq_getElem?_getD, HNF.out]; rfl
      clear ha hlen
      obtain ⟨_, _, m2, m3⟩ := HAF.out.m.cells
      obtain ⟨r1, r2⟩ := HAF.out.m.row HF.out
      rw [hdf] at r1 r2
      unfold ptrOf at r1
      unfold slcOf at r2
      simp only at r1 r2
      have f1 := (HAF.out.m.frozen (f * 2)).1
      have f2 := (HAF.out.m.frozen (f * 2 + 1)).1
      have c1 : wr.cell? ⟨w1.heap.size, 0, none⟩ = some (.pointer (some ⟨g, 0, none⟩)) := by rw [cell_of_row wr _ 0 _ _ (0, 0) HAF.out.bx]; rfl
      have c2 : wr.cell? ⟨w1.heap.size, 1, none⟩ = some (.slice (some ⟨d, 0, none⟩) z c) := by rw [cell_of_row wr _ 1 _ _ (0, 0) HAF.out.bx]; rfl
      have hfi : (f : Int) < (n : Int) := by have := HF.out; omega
      clear hdf
      go_wp2_with fail
      go_region
      have hne : gm ≠ gr := by
        obtain ⟨cs, hr, _⟩ := HAF.out.m.rows
        exact ne_of_types HAF.out.m.head hr (by decide)
      have h3 : (((wr.setCell ⟨gr, f * 2, none⟩ (.pointer (some ⟨g, 0, none⟩))).setCell ⟨gr, f * 2 + 1, none⟩ (.slice (some ⟨d, 0, none⟩) z c)).drew).heap[gm]? = some (.cells #[.int .i64 (n : Int), .int .i64 (z : Int), .slice (some ⟨gr, 0, none⟩) n n, .int .i64 (rankE (rs.map (chgE Z q f)) : Int)] 69 (0, 0)) := by
        rw [drew_heap, heap_setCell_other _ _ _ _ hne, heap_setCell_other _ _ _ _ hne]; exact HAF.out.m.head
      have HFIN : Hid (∀ W', W' = (((wr.setCell ⟨gr, f * 2, none⟩ (.pointer (some ⟨g, 0, none⟩))).setCell ⟨gr, f * 2 + 1, none⟩ (.slice (some ⟨d, 0, none⟩) z c)).drew).setCell ⟨gm, 3, none⟩ (.int .i64 ((rankE (rs.map (chgE Z q f)) : Int) + 1)) → AddOk F gm gr n z (addM (absM rs) Z q f) w (.returned (.bool true)) W') := Lib.hid (fun W' hW' => by
        have hP := HAF.out.m.put HNF.out HAF.out.v HAF.out.dat HQ.out (fun i r hr => by
          rw [List.getElem?_map] at hr
          cases hi : rs[i]? with
          | none => rw [hi] at hr; cases hr
          | some o =>
            rw [hi] at hr
            injection hr with hr
            cases o with
            | none => cases hr
            | some s =>
              have hs := HMq.out.at_ i s hi
              have e : r.h = s.h ∧ r.d = s.d := by
                unfold chgE at hr
                simp only [Option.map] at hr
                injection hr with hr
                rw [← hr]
                split <;> exact ⟨rfl, rfl⟩
              have l1 := hs.1.lt.2
              have l2 := hs.2.1.lt (d := s.d) rfl
              have hG := HGW.out
              rw [HWQ.out] at l1 l2
              omega)
        have hh : W'.heap = (putW wr gm gr f g d z c (rankE (rs.map (chgE Z q f)) + 1)).heap := by rw [hW']; rfl
        have hsz : (putW wr gm gr f g d z c (rankE (rs.map (chgE Z q f)) + 1)).heap.size = wr.heap.size := by unfold putW; simp
        have hvl := HAF.out.v.lt
        have hdl := HAF.out.dat.lt (d := d) rfl
        refine ⟨_, rfl, ?_, (hP.keep (W' := W') fun b _ _ => by rw [hh]).more fun b hb => ?_, HAF.out.fr.trans (F' := fun b => b = gr ∨ b = gm) ⟨?_, ?_, ?_, ?_, fun b _ hb => ?_⟩ fun b _ hb => ?_⟩
        · rw [absM_set, absM_chg]; rfl
        · rcases hb with hb | hb | hb | hb
          · exact .inl hb
          all_goals (right; subst hb; rw [hh, hsz]; have := HGW.out; omega)
        · rw [hW']; rfl
        · rw [hW']; rfl
        · rw [hW']; rfl
        · rw [hh, hsz]; exact Nat.le_refl _
        · rw [hh]; exact putW_other _ _ _ _ _ _ _ _ _ (fun e => hb (.inl e)) (fun e => hb (.inr e))
        · rcases hb with rfl | rfl
          · exact HAF.out.m.fr
          · exact HAF.out.m.fm)
      have hrk : (0 : Int) ≤ (rankE (rs.map (chgE Z q f)) : Int) ∧ (rankE (rs.map (chgE Z q f)) : Int) ≤ 1000000 := by
        have h1 : rankE (rs.map (chgE Z q f)) ≤ (rs.map (chgE Z q f)).length := List.length_filter_le _ _
        rw [List.length_map, HMq.out.len] at h1
        have := HMq.out.n2
        omega
      have HRK := Lib.hid hrk
      clear hne hrk m2 m3 r1 r2 f1 f2 c1 c2
      generalize (((wr.setCell ⟨gr, f * 2, none⟩ (.pointer (some ⟨g, 0, none⟩))).setCell ⟨gr, f * 2 + 1, none⟩ (.slice (some ⟨d, 0, none⟩) z c)).drew) = W2 at *
      have k3 : W2.cell? ⟨gm, 3, none⟩ = some (.int .i64 (rankE (rs.map (chgE Z q f)) : Int)) := by rw [cell_of_row W2 _ 3 _ _ (0, 0) h3]; rfl
      have k4 := frozen_of_row W2 gm 3 _ _ h3
      have K3 := Lib.hid k3
      have K4 := Lib.hid k4
      clear h3 k3 k4
      go_wp2_with fail
      refine (add64_any gm 3 _ W2 K3.out K4.out HRK.out).mono ?_
      rintro e w5 ⟨rfl, rfl⟩
      have hf := HFIN.out _ rfl
      have HFF := Lib.hid hf
      clear hf HFIN
      go_wp2_with fail
      go_ret
      exact HFF.out
end Go.Proofs.YtgeodhffgbhmaaaDoor.El
