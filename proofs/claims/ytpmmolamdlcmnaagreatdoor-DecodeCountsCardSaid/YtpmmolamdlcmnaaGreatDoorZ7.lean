/- Contracts of the functions that the law calls, part 7. -/
import Derived.BigQuiet
import Derived.Deep.QuietTactic
import Derived.Test.YtpmmolamdlcmnaaGreatDoorZ6
namespace Go.Proofs.YtpmmolamdlcmnaaGreatDoor.El
open VecM Vc
theorem low_ex {X n : Nat} (hX : X < 2 ^ n) (h0 : X ≠ 0) : ∃ f, f < n ∧ X.testBit f = true ∧ ∀ j, j < f → X.testBit j = false := by
  have key : ∀ k, k ≤ n → (∃ f, f < k ∧ X.testBit f = true ∧ ∀ j, j < f → X.testBit j = false) ∨ ∀ j, j < k → X.testBit j = false := by
    intro k
    induction k with
    | zero => exact fun _ => .inr fun j hj => absurd hj (Nat.not_lt_zero j)
    | succ k ih =>
      intro hk
      rcases ih (by omega) with ⟨f, h1, h2⟩ | h
      · exact .inl ⟨f, by omega, h2⟩
      · cases hb : X.testBit k with
        | true => exact .inl ⟨k, by omega, hb, h⟩
        | false =>
          refine .inr fun j hj => ?_
          rcases Nat.lt_succ_iff_lt_or_eq.1 hj with h1 | h1
          · exact h j h1
          · rw [h1]; exact hb
  rcases key n (Nat.le_refl _) with h | h
  · exact h
  · exfalso
    apply h0
    apply Nat.eq_of_testBit_eq
    intro j
    rw [Nat.zero_testBit]
    by_cases hj : j < n
    · exact h j hj
    · exact Nat.testBit_lt_two_pow (Nat.lt_of_lt_of_le hX (Nat.pow_le_pow_right (by decide) (by omega)))
theorem L_empty {X f : Nat} (h : ∀ j, j < f → X.testBit j = false) : L X f = [] := by
  unfold L
  rw [List.filter_eq_nil_iff]
  intro j hj
  rw [List.mem_range] at hj
  rw [h j hj]; simp
theorem firstI_low {X f n : Nat} (hf : f < n) (hb : X.testBit f = true) (h : ∀ j, j < f → X.testBit j = false) : firstI (L X n) = (f : Int) := by
  have e : List.range n = List.range f ++ (f :: (List.range (n - f - 1)).map (f + 1 + ·)) := by
    have h1 : n = f + (n - f) := by omega
    have h2 : n - f = 1 + (n - f - 1) := by omega
    rw [h1, List.range_add, h2, List.range_add, List.map_append]
    have h3 : f + (1 + (n - f - 1)) - f - 1 = n - f - 1 := by omega
    rw [h3]
    simp [Nat.add_assoc]
  unfold L
  rw [e, List.filter_append]
  have h0 := L_empty h
  unfold L at h0
  rw [h0, List.nil_append, List.filter_cons, if_pos hb]
  rfl
theorem firstI_zero : firstI (Ls 0) = -1 := by
  unfold Ls; rw [L_zero]; rfl
/-- M with X, l as its row f: what has bit f is changed by it -/
def chgD (X : Nat) (l : List UInt8) (f : Nat) (o : Option (Nat × List UInt8)) : Option (Nat × List UInt8) := o.map fun r => if r.1.testBit f then (r.1 ^^^ X, xorL r.2 l) else r
def addM (M : Mx) (X : Nat) (l : List UInt8) (f : Nat) : Mx := (M.map (chgD X l f)).set f (some (X, l))
theorem redM_bits (M : Mx) (X : Nat) (l l' : List UInt8) (k : Nat) : (redM M X l k).1 = (redM M X l' k).1 := by
  induction k with
  | zero => rfl
  | succ k ih =>
    cases h : M.getD k none with
    | none => rw [redM_none h, redM_none h]; exact ih
    | some r =>
      rw [redM_some h, redM_some h, ih]
      split
      · rfl
      · exact ih
end Go.Proofs.YtpmmolamdlcmnaaGreatDoor.El
namespace Go.Proofs.YtpmmolamdlcmnaaGreatDoor.El
open Go.RowKit
open VecM Vc
theorem sameC {P : Program} {f : FuncId} {args : Array Value} {w : World} {v : Value} (h : Calls P f args w fun e w' => e = .returned v ∧ w = w') : Calls P f args w fun e w' => e = .returned v ∧ w' = w := h.mono fun _ _ ⟨h1, h2⟩ => ⟨h1, h2.symm⟩
theorem MatAt.drewN {w : World} {F : Nat → Prop} {gm gr n z : Nat} {rs : List (Option ER)} (m : MatAt w F gm gr n z rs) (q : Nat) : MatAt (w.drewN q) F gm gr n z rs := m.keep fun _ _ _ => rfl
theorem field_row0 (W : World) (p : Option Addr) (v : Value) : (Instr.field 91 (.agg #[.pointer p, v]) 0).run Tryz.prog W = .ok (.pointer p) W := by kernel_rfl
set_option maxRecDepth 100000 in
set_option maxHeartbeats 1600000 in
theorem says_any (F : Nat → Prop) (gm gr n z : Nat) (rs : List (Option ER)) (g h X : Nat) (w : World) (m : MatAt w F gm gr n z rs) (v : VecAt w g h n X) (ht : DTab w) :
    Calls Tryz.prog 30 #[.pointer (some ⟨gm, 0, none⟩), .pointer (some ⟨g, 0, none⟩)] w fun e w' => e = .returned (.bool (decide ((redM (absM rs) X [] n).1 ≠ 0))) ∧ Hid (Below w.heap.size w w') := by
  have HM := Lib.hid m
  have HV := Lib.hid v
  have HT := Lib.hid ht
  have hne : ((n : Int) != (n : Int)) = false := by simp
  obtain ⟨c0, _⟩ := m.cells
  clear m v ht
  obtain ⟨Z, hZ0⟩ : ∃ Z, (redM (absM rs) X [] n).1 = Z := ⟨_, rfl⟩
  rw [hZ0]
  have HZ0 := Lib.hid hZ0
  clear hZ0
  go_enter Tryz.func30, Tryz.ntmps30
  go_wp2_with fail
  go_quiet ((first
    | (go_at_call 37; with_reducible exact Calls.quiet_of_same (sameC (empty_no F gm gr n z rs _ (HM.out.drewN _))))
    | (go_at_call 38; with_reducible exact Calls.quiet_of_same (sameC (len_any g h n X _ (HV.out.drewN _))))))
  have HB := Lib.hid (drew_below w nq)
  have HMq := Lib.hid (HM.out.drewN nq)
  have HVq := Lib.hid (HV.out.drewN nq)
  have HTq := Lib.hid (HT.out.grow (drew_below w nq))
  clear c0 HM HV HT hne
  generalize w.drewN nq = wq at *
  go_wp2_with fail
  refine (reducedN_any F gm gr n z rs g h X wq HMq.out HVq.out).mono ?_
  rintro e w1 ⟨g1, h1, rfl, _, _, hv1, hb1⟩
  rw [HZ0.out] at hv1
  have hfd := field_row0 w1 (some ⟨g1, 0, none⟩) (.slice none 0 0)
  go_wp2_with fail
  refine (first_any g1 h1 n _ w1 hv1.out (HTq.out.grow hb1.out)).mono ?_
  rintro e w2 ⟨rfl, rfl⟩
  clear hfd
  have HB2 := Lib.hid (HB.out.trans (hb1.out.mono HB.out.size))
  have hn := hv1.out.1
  have hX := hv1.out.2.1
  clear HMq HVq HTq hb1 hv1 HB
  by_cases hZ : Z = 0
  · subst hZ
    rw [firstI_zero]
    go_wp2_with fail
    go_ret
    exact ⟨by simp, HB2⟩
  · obtain ⟨f, hf, hbit, hlow⟩ := low_ex hX hZ
    rw [show firstI (Ls Z) = (f : Int) from firstI_low (by omega) hbit hlow]
    clear hbit hlow hX
    have hfi : (0 : Int) ≤ (f : Int) := by omega
    go_wp2_with fail
    go_ret
    exact ⟨by simp [hZ], HB2⟩
/-- nil rows say nothing -/
theorem says_nilv (F : Nat → Prop) (gm gr n z : Nat) (rs : List (Option ER)) (w : World) (m : MatAt w F gm gr n z rs) :
    Calls Tryz.prog 30 #[.pointer (some ⟨gm, 0, none⟩), .pointer none] w fun e w' => e = .returned (.bool false) ∧ Hid (Below w.heap.size w w') := by
  have HM := Lib.hid m
  have h1 := m.n1
  have hne : ((0 : Int) != (n : Int)) = true := by simp; omega
  obtain ⟨c0, _⟩ := m.cells
  clear m
  go_enter Tryz.func30, Tryz.ntmps30
  go_wp2_with fail
  go_quiet ((first
    | (go_at_call 37; with_reducible exact Calls.quiet_of_same (sameC (empty_no F gm gr n z rs _ (HM.out.drewN _))))
    | (go_at_call 38; with_reducible exact Calls.quiet_of_same (sameC (len_nil _)))))
  have HB := Lib.hid (drew_below w nq)
  generalize w.drewN nq = wq at *
  go_wp2_with fail
  go_ret
  exact ⟨rfl, HB⟩
/-- a matrix that there isn't -/
theorem says_nilm (p : Option Addr) (w : World) :
    Calls Tryz.prog 30 #[.pointer none, .pointer p] w fun e w' => e = .returned (.bool false) ∧ Hid (Below w.heap.size w w') := by
  go_enter Tryz.func30, Tryz.ntmps30
  go_wp2_with fail
  go_quiet ((first
    | (go_at_call 37; with_reducible exact Calls.quiet_of_same (sameC (empty_nil _)))))
  have HB := Lib.hid (drew_below w nq)
  generalize w.drewN nq = wq at *
  go_wp2_with fail
  go_ret
  exact ⟨rfl, HB⟩
set_option maxRecDepth 100000 in
theorem load64_any (g k : Nat) (x : Int) (w : World) (hc : w.cell? ⟨g, k, none⟩ = some (.int .i64 x)) : Calls Tryz.prog 32 #[.pointer (some ⟨g, k, none⟩)] w fun e w' => e = .returned (.int .i64 x) ∧ w = w' := by
  have hd := run_call_load (P := Tryz.prog) Tryz.func56 (by kernel_rfl) (by kernel_rfl) (by kernel_rfl) .i64 (by kernel_rfl) hc
  go_enter Tryz.func32, Tryz.ntmps32
  go_wp2
  go_ret
  exact ⟨rfl, rfl⟩
set_option maxRecDepth 100000 in
theorem rank_any (F : Nat → Prop) (gm gr n z : Nat) (rs : List (Option ER)) (w : World) (m : MatAt w F gm gr n z rs) : Calls Tryz.prog 22 #[.pointer (some ⟨gm, 0, none⟩)] w fun e w' => e = .returned (.int .i64 (rankE rs : Int)) ∧ w = w' := by
  obtain ⟨_, _, _, c3⟩ := m.cells
  have HM := Lib.hid m
  clear m
  go_enter Tryz.func22, Tryz.ntmps22
  go_wp2_with fail
  refine (empty_no F gm gr n z rs _ HM.out).mono ?_
  rintro e w1 ⟨rfl, rfl⟩
  go_wp2_with fail
  refine (load64_any gm 3 _ w c3).mono ?_
  rintro e w1 ⟨rfl, rfl⟩
  go_wp2_with fail
  go_ret
  exact ⟨rfl, rfl⟩
set_option maxRecDepth 100000 in
theorem rank_nil (w : World) : Calls Tryz.prog 22 #[.pointer none] w fun e w' => e = .returned (.int .i64 0) ∧ w = w' := by
  go_enter Tryz.func22, Tryz.ntmps22
  go_wp2_with fail
  refine (empty_nil _).mono ?_
  rintro e w1 ⟨rfl, rfl⟩
  go_wp2_with fail
  go_ret
  exact ⟨rfl, rfl⟩
set_option maxRecDepth 100000 in
theorem full_any (F : Nat → Prop) (gm gr n z : Nat) (rs : List (Option ER)) (w : World) (m : MatAt w F gm gr n z rs) : Calls Tryz.prog 23 #[.pointer (some ⟨gm, 0, none⟩)] w fun e w' => e = .returned (.bool (decide (rankE rs = n))) ∧ Hid (Below w.heap.size w w') := by
  have HM := Lib.hid m
  obtain ⟨c0, _⟩ := m.cells
  clear m
  have HR : Hid (∀ W, MatAt W F gm gr n z rs → Calls Tryz.prog 22 #[.pointer (some ⟨gm, 0, none⟩)] W fun e w' => e = .returned (.int .i64 (rankE rs : Int)) ∧ W = w') := Lib.hid (fun W hW => rank_any F gm gr n z rs W hW)
  obtain ⟨b, hb⟩ : ∃ b, decide (rankE rs = n) = b := ⟨_, rfl⟩
  have hbb : ((rankE rs : Int) == (n : Int)) = b := by rw [← hb]; rw [Bool.eq_iff_iff]; simp; omega
  have hcast : (decide ((rankE rs : Int) = (n : Int))) = b := by rw [← hb]; rw [Bool.eq_iff_iff]; simp; omega
  rw [hb]
  generalize (rankE rs : Int) = R at *
  clear hb
  go_enter Tryz.func23, Tryz.ntmps23
  go_wp2_with fail
  go_quiet ((first
    | (go_at_call 37; with_reducible exact Calls.quiet_of_same (sameC (empty_no F gm gr n z rs _ (HM.out.drewN _))))
    | (go_at_call 22; with_reducible exact Calls.quiet_of_same (sameC (HR.out _ (HM.out.drewN _))))))
  have HB := Lib.hid (drew_below w nq)
  clear HM c0 HR
  generalize w.drewN nq = wq at *
  go_wp2_with fail
  go_ret
  exact ⟨rfl, HB⟩
set_option maxRecDepth 100000 in
theorem full_nil (w : World) : Calls Tryz.prog 23 #[.pointer none] w fun e w' => e = .returned (.bool false) ∧ Hid (Below w.heap.size w w') := by
  go_enter Tryz.func23, Tryz.ntmps23
  go_wp2_with fail
  go_quiet ((first
    | (go_at_call 37; with_reducible exact Calls.quiet_of_same (sameC (empty_nil _)))))
  have HB := Lib.hid (drew_below w nq)
  generalize w.drewN nq = wq at *
  go_wp2_with fail
  go_ret
  exact ⟨rfl, HB⟩
end Go.Proofs.YtpmmolamdlcmnaaGreatDoor.El
namespace Go.Proofs.YtpmmolamdlcmnaaGreatDoor.El
open Go.RowKit
open VecM Vc
section
variable {W W' : World} {F : Nat → Prop} {gm gr n z : Nat} {rs : List (Option ER)}
theorem rankE_set {rs : List (Option ER)} {k : Nat} {o o' : Option ER} (h : rs[k]? = some o) (ho : o.isSome = o'.isSome) : rankE (rs.set k o') = rankE rs := by
  unfold rankE
  induction rs generalizing k with
  | nil => cases h
  | cons x t ih =>
    cases k with
    | zero =>
      injection h with h
      subst h
      rw [List.set_cons_zero, List.filter_cons, List.filter_cons, ho]
      split <;> rfl
    | succ k =>
      rw [List.set_cons_succ, List.filter_cons, List.filter_cons]
      have := ih (k := k) h
      split
      · rw [List.length_cons, List.length_cons, this]
      · exact this
theorem rankE_add {rs : List (Option ER)} {k : Nat} {r : ER} (h : rs[k]? = some none) : rankE (rs.set k (some r)) = rankE rs + 1 := by
  unfold rankE
  induction rs generalizing k with
  | nil => cases h
  | cons x t ih =>
    cases k with
    | zero =>
      injection h with h
      subst h
      rw [List.set_cons_zero, List.filter_cons, List.filter_cons]
      simp
    | succ k =>
      rw [List.set_cons_succ, List.filter_cons, List.filter_cons]
      have := ih (k := k) h
      split
      · rw [List.length_cons, List.length_cons, this]
      · exact this
theorem getD_set (rs : List (Option ER)) (k i : Nat) (o : Option ER) (hk : k < rs.length) : (rs.set k o).getD i none = if k = i then o else rs.getD i none := by
  rw [List.getD_eq_getElem?_getD, List.getD_eq_getElem?_getD, List.getElem?_set]
  by_cases e : k = i
  · subst e; rw [if_pos rfl, if_pos hk, if_pos rfl]; rfl
  · rw [if_neg e, if_neg e]
theorem get_set {rs : List (Option ER)} {k i : Nat} {o : Option ER} {r : ER} (h : (rs.set k o)[i]? = some (some r)) : (i = k ∧ o = some r) ∨ (i ≠ k ∧ rs[i]? = some (some r)) := by
  rw [List.getElem?_set] at h
  by_cases e : k = i
  · rw [if_pos e] at h
    split at h
    · injection h with h; exact .inl ⟨e.symm, h⟩
    · cases h
  · rw [if_neg e] at h; exact .inr ⟨fun x => e x.symm, h⟩
/-- one row is changed, in its own blocks -/
theorem MatAt.upd (m : MatAt W F gm gr n z rs) {k : Nat} {r : ER} {X : Nat} {l : List UInt8} (hk : rs[k]? = some (some r)) (hf : Fr W W' (fun b => b = r.h ∨ b = r.d)) (hv : VecAt W' r.g r.h n X) (hd : DatAt W' (some ⟨r.d, 0, none⟩) r.c l) (hl : l.length = z) : MatAt W' F gm gr n z (rs.set k (some { r with X := X, l := l })) := by
  obtain ⟨a1, a2, a3, a4, a5, a6⟩ := m.at_ k r hk
  have hkl : k < rs.length := (List.getElem?_eq_some_iff.1 hk).1
  obtain ⟨hb1, hb2⟩ := VecAt.hblk a1
  obtain ⟨db1, db2⟩ := a2.blk_u8 (d := r.d) rfl
  have keepT : ∀ (b : Nat) (cs : Array Value) (t : TypeId), W.heap[b]? = some (Obj.cells cs t (0, 0)) → t ≠ 53 → t ≠ 5 → W'.heap[b]? = W.heap[b]? := fun b cs t hb h1 h2 =>
    hf.block b (Array.getElem?_eq_some_iff.1 hb).1 (fun e => by
      rcases e with e | e
      · exact ne_of_types hb hb2 h1 e
      · exact ne_of_types hb db2 h2 e)
  refine ⟨m.n1, m.n2, m.z1, m.z2, by rw [List.length_set]; exact m.len, ?_, ?_, fun i s hs => ?_, fun i j s t hij hs ht => ?_, m.fm, m.fr⟩
  · rw [keepT gm _ _ m.head (by decide) (by decide), rankE_set hk (o' := some { r with X := X, l := l }) rfl]; exact m.head
  · obtain ⟨cs, h1, h2, h3⟩ := m.rows
    refine ⟨cs, (keepT gr _ _ h1 (by decide) (by decide)).trans h1, h2, fun i hi => ?_⟩
    have e := h3 i hi
    rw [getD_set _ _ _ _ hkl]
    by_cases hki : k = i
    · subst hki
      rw [if_pos rfl]
      have : rs.getD k none = some r := by rw [List.getD_eq_getElem?_getD, hk]; rfl
      rw [this] at e
      refine ⟨e.1, ?_⟩
      rw [e.2]
      unfold slcOf
      simp only [hl, a3]
    · rw [if_neg hki]; exact e
  · rcases get_set hs with ⟨_, e⟩ | ⟨hne, e⟩
    · injection e with e
      subst e
      exact ⟨hv, hd, hl, a4, a5, a6⟩
    · obtain ⟨b1, b2, b3, b4, b5, b6⟩ := m.at_ i s e
      obtain ⟨q1, q2⟩ := m.apart i k s r hne e hk
      obtain ⟨gc, hg⟩ := VecAt.gblk b1
      obtain ⟨hc, hh⟩ := VecAt.hblk b1
      refine ⟨b1.keep (keepT _ _ _ hg (by decide) (by decide)) (hf.block _ b1.lt.2 fun x => ?_), b2.keep fun b hb => ?_, b3, b4, b5, b6⟩
      · rcases x with x | x
        · exact q1 x
        · exact ne_of_types hh db2 (by decide) x
      · have hb : s.d = b := Option.some.inj hb
        subst hb
        obtain ⟨dc, hd2⟩ := b2.blk_u8 (d := s.d) rfl
        refine hf.block _ (b2.lt rfl) fun x => ?_
        rcases x with x | x
        · exact ne_of_types hd2 hb2 (by decide) x
        · exact q2 x
  · rcases get_set hs with ⟨hi, e⟩ | ⟨hi, e⟩ <;> rcases get_set ht with ⟨hj, e'⟩ | ⟨hj, e'⟩
    · exact absurd (hi.trans hj.symm) hij
    · injection e with e
      subst e hi
      exact m.apart i j r t hij hk e'
    · injection e' with e'
      subst e' hj
      exact m.apart i j s r hij e hk
    · exact m.apart i j s t hij e e'
/-- the world in which a row was put: its two cells, and the count -/
def putW (W : World) (gm gr f g d z c R : Nat) : World := ((W.setCell ⟨gr, f * 2, none⟩ (.pointer (some ⟨g, 0, none⟩))).setCell ⟨gr, f * 2 + 1, none⟩ (.slice (some ⟨d, 0, none⟩) z c)).setCell ⟨gm, 3, none⟩ (.int .i64 (R : Int))
theorem putW_other (W : World) (gm gr f g d z c R : Nat) {b : Nat} (h1 : b ≠ gr) (h2 : b ≠ gm) : (putW W gm gr f g d z c R).heap[b]? = W.heap[b]? := by
  unfold putW
  rw [heap_setCell_other _ _ _ _ h2, heap_setCell_other _ _ _ _ h1, heap_setCell_other _ _ _ _ h1]
/-- a row of its own blocks becomes row f -/
theorem MatAt.put (m : MatAt W F gm gr n z rs) {f g h d c X : Nat} {l : List UInt8} (hf : rs[f]? = some none) (hv : VecAt W g h n X) (hd : DatAt W (some ⟨d, 0, none⟩) c l) (hl : l.length = z)
    (hap : ∀ (i : Nat) (r : ER), rs[i]? = some (some r) → r.h ≠ h ∧ r.d ≠ d) :
    MatAt (putW W gm gr f g d z c (rankE rs + 1)) (fun b => F b ∨ b = g ∨ b = h ∨ b = d) gm gr n z (rs.set f (some ⟨g, h, d, c, X, l⟩)) := by
  have hfl : f < rs.length := (List.getElem?_eq_some_iff.1 hf).1
  have hfn : f < n := by rw [← m.len]; exact hfl
  obtain ⟨cs, hr, hsz, hcs⟩ := m.rows
  have hne : gm ≠ gr := ne_of_types m.head hr (by decide)
  have keepT : ∀ (b : Nat) (cs : Array Value) (t : TypeId), W.heap[b]? = some (Obj.cells cs t (0, 0)) → t ≠ 91 → t ≠ 88 → (putW W gm gr f g d z c (rankE rs + 1)).heap[b]? = W.heap[b]? := fun b cs' t hb h1 h2 =>
    putW_other W gm gr f g d z c _ (ne_of_types hb hr h1) (ne_of_types hb m.head h2)
  have keepV : ∀ {g1 h1 X1 : Nat}, VecAt W g1 h1 n X1 → VecAt (putW W gm gr f g d z c (rankE rs + 1)) g1 h1 n X1 := fun v => by
    obtain ⟨a1, a2⟩ := VecAt.gblk v
    obtain ⟨b1, b2⟩ := VecAt.hblk v
    exact v.keep (keepT _ _ _ a2 (by decide) (by decide)) (keepT _ _ _ b2 (by decide) (by decide))
  have keepD : ∀ {d1 c1 : Nat} {l1 : List UInt8}, DatAt W (some ⟨d1, 0, none⟩) c1 l1 → DatAt (putW W gm gr f g d z c (rankE rs + 1)) (some ⟨d1, 0, none⟩) c1 l1 := fun v => v.keep fun b hb => by
    obtain ⟨a1, a2⟩ := v.blk_u8 hb
    exact keepT _ _ _ a2 (by decide) (by decide)
  refine ⟨m.n1, m.n2, m.z1, m.z2, by rw [List.length_set]; exact m.len, ?_, ?_, fun i s hs => ?_, fun i j s t hij hs ht => ?_, .inl m.fm, .inl m.fr⟩
  · rw [rankE_add hf]
    unfold putW
    have h0 : ((W.setCell ⟨gr, f * 2, none⟩ (.pointer (some ⟨g, 0, none⟩))).setCell ⟨gr, f * 2 + 1, none⟩ (.slice (some ⟨d, 0, none⟩) z c)).heap[gm]? = some (.cells #[.int .i64 (n : Int), .int .i64 (z : Int), .slice (some ⟨gr, 0, none⟩) n n, .int .i64 (rankE rs : Int)] 88 (0, 0)) := by
      rw [heap_setCell_other _ _ _ _ hne, heap_setCell_other _ _ _ _ hne]; exact m.head
    exact heap_setCell_same _ gm 3 _ _ _ h0
  · have r1 : (W.setCell ⟨gr, f * 2, none⟩ (.pointer (some ⟨g, 0, none⟩))).heap[gr]? = some (.cells (cs.setIfInBounds (f * 2) (.pointer (some ⟨g, 0, none⟩))) 91 (0, 0)) := heap_setCell_same _ gr _ _ _ _ hr
    have r2 := heap_setCell_same _ gr (f * 2 + 1) _ _ (.slice (some ⟨d, 0, none⟩) z c) r1
    refine ⟨(cs.setIfInBounds (f * 2) (.pointer (some ⟨g, 0, none⟩))).setIfInBounds (f * 2 + 1) (.slice (some ⟨d, 0, none⟩) z c), ?_, ?_, fun i hi => ?_⟩
    · unfold putW
      rw [heap_setCell_other _ _ _ _ (fun e => hne e.symm)]
      exact r2
    · simp [hsz]
    · obtain ⟨e1, e2⟩ := hcs i hi
      rw [getD_set _ _ _ _ hfl, Array.getElem?_setIfInBounds, Array.getElem?_setIfInBounds, Array.getElem?_setIfInBounds, Array.getElem?_setIfInBounds]
      by_cases hfi : f = i
      · subst hfi
        rw [if_pos rfl]
        refine ⟨?_, ?_⟩
        · rw [if_neg (by omega), if_pos rfl, if_pos (by omega)]; rfl
        · rw [if_pos rfl, if_pos (by simp; omega), if_pos rfl]
          show some (Value.slice (some ⟨d, 0, none⟩) z c) = some (Value.slice (some ⟨d, 0, none⟩) l.length c)
          rw [hl]
      · rw [if_neg hfi]
        refine ⟨?_, ?_⟩
        · rw [if_neg (by omega), if_neg (by omega)]; exact e1
        · rw [if_neg (by omega), if_neg (by omega)]; exact e2
  · rcases get_set hs with ⟨_, e⟩ | ⟨_, e⟩
    · injection e with e
      subst e
      exact ⟨keepV hv, keepD hd, hl, .inr (.inl rfl), .inr (.inr (.inl rfl)), .inr (.inr (.inr rfl))⟩
    · obtain ⟨b1, b2, b3, b4, b5, b6⟩ := m.at_ i s e
      exact ⟨keepV b1, keepD b2, b3, .inl b4, .inl b5, .inl b6⟩
  · rcases get_set hs with ⟨hi, e⟩ | ⟨hi, e⟩ <;> rcases get_set ht with ⟨hj, e'⟩ | ⟨hj, e'⟩
    · exact absurd (hi.trans hj.symm) hij
    · injection e with e
      subst e
      obtain ⟨q1, q2⟩ := hap j t e'
      exact ⟨fun x => q1 x.symm, fun x => q2 x.symm⟩
    · injection e' with e'
      subst e'
      exact hap i s e
    · exact m.apart i j s t hij e e'
end
end Go.Proofs.YtpmmolamdlcmnaaGreatDoor.El
namespace Go.Proofs.YtpmmolamdlcmnaaGreatDoor.El
open Go.RowKit
open VecM Vc
def chgE (X : Nat) (l : List UInt8) (f : Nat) (o : Option ER) : Option ER := o.map fun r => if r.X.testBit f then { r with X := r.X ^^^ X, l := xorL r.l l } else r
/-- the first k rows are changed -/
def chgTo (X : Nat) (l : List UInt8) (f : Nat) (rs : List (Option ER)) (k : Nat) : List (Option ER) := (rs.take k).map (chgE X l f) ++ rs.drop k
theorem chgTo_zero (X : Nat) (l : List UInt8) (f : Nat) (rs : List (Option ER)) : chgTo X l f rs 0 = rs := by simp [chgTo]
theorem chgTo_all (X : Nat) (l : List UInt8) (f : Nat) (rs : List (Option ER)) : chgTo X l f rs rs.length = rs.map (chgE X l f) := by simp [chgTo]
theorem chgTo_length (X : Nat) (l : List UInt8) (f : Nat) (rs : List (Option ER)) (k : Nat) : (chgTo X l f rs k).length = rs.length := by
  simp [chgTo]; omega
theorem chgTo_get (X : Nat) (l : List UInt8) (f : Nat) (rs : List (Option ER)) (k i : Nat) : (chgTo X l f rs k)[i]? = if i < k then rs[i]?.map (chgE X l f) else rs[i]? := by
  unfold chgTo
  by_cases h : i < k
  · rw [if_pos h]
    by_cases h2 : i < rs.length
    · rw [List.getElem?_append_left (by simp; omega), List.getElem?_map, List.getElem?_take_of_lt h]
    · rw [List.getElem?_eq_none (by simp; omega), List.getElem?_eq_none (by omega)]; rfl
  · rw [if_neg h]
    by_cases h2 : k ≤ rs.length
    · rw [List.getElem?_append_right (by simp; omega), List.getElem?_drop]
      congr 1
      simp; omega
    · rw [List.getElem?_eq_none (by simp; omega), List.getElem?_eq_none (by omega)]
theorem chgTo_next (X : Nat) (l : List UInt8) (f : Nat) (rs : List (Option ER)) (k : Nat) {o : Option ER} (hk : rs[k]? = some o) : chgTo X l f rs (k + 1) = (chgTo X l f rs k).set k (chgE X l f o) := by
  have hlt : k < rs.length := (List.getElem?_eq_some_iff.1 hk).1
  apply List.ext_getElem?
  intro i
  rw [List.getElem?_set, chgTo_get, chgTo_get, chgTo_length]
  by_cases e : k = i
  · subst e
    rw [if_pos (by omega), if_pos rfl, if_pos hlt, hk]; rfl
  · rw [if_neg e]
    by_cases h : i < k
    · rw [if_pos (by omega), if_pos h]
    · rw [if_neg (by omega), if_neg h]
theorem chgTo_same (X : Nat) (l : List UInt8) (f : Nat) (rs : List (Option ER)) (k : Nat) {o : Option ER} (hk : rs[k]? = some o) (ho : chgE X l f o = o) : chgTo X l f rs (k + 1) = chgTo X l f rs k := by
  rw [chgTo_next X l f rs k hk, ho]
  apply List.ext_getElem?
  intro i
  rw [List.getElem?_set]
  by_cases e : k = i
  · subst e
    rw [if_pos rfl, chgTo_length, if_pos (List.getElem?_eq_some_iff.1 hk).1, chgTo_get, if_neg (Nat.lt_irrefl _), hk]
  · rw [if_neg e]
theorem absM_chg (X : Nat) (l : List UInt8) (f : Nat) (rs : List (Option ER)) : absM (rs.map (chgE X l f)) = (absM rs).map (chgD X l f) := by
  unfold absM
  rw [List.map_map, List.map_map]
  apply List.map_congr_left
  intro o _
  cases o with
  | none => rfl
  | some r =>
    show some _ = some _
    simp only 
    split <;> simp_all
theorem absM_set (rs : List (Option ER)) (f : Nat) (r : ER) : absM (rs.set f (some r)) = (absM rs).set f (some (r.X, r.l)) := by
  unfold absM; rw [List.map_set]; rfl
set_option maxRecDepth 100000 in
theorem add64_any (g k : Nat) (x : Int) (w : World) (hc : w.cell? ⟨g, k, none⟩ = some (.int .i64 x)) (hz : w.frozen? ⟨g, k, none⟩ = false) (hx : 0 ≤ x ∧ x ≤ 1000000) : Calls Tryz.prog 31 #[.pointer (some ⟨g, k, none⟩), .int .i64 1] w fun e w' => e = .returned (.int .i64 (x + 1)) ∧ w' = w.setCell ⟨g, k, none⟩ (.int .i64 (x + 1)) := by
  have hs : (Op.intArith .add .i64 x 1).run Tryz.prog w = .ok (.int .i64 (x + 1)) w := by
    have e : IntKind.i64.wrap (x + 1) = x + 1 := by rw [IntKind.wrap_i64]; omega
    simp [go_sem, e]
  have hd := run_call_add (P := Tryz.prog) Tryz.func55 (by kernel_rfl) (by kernel_rfl) (by kernel_rfl) .i64 (by kernel_rfl) hc hz hs
  clear hs
  go_enter Tryz.func31, Tryz.ntmps31
  go_wp2
  go_ret
  exact ⟨rfl, rfl⟩
end Go.Proofs.YtpmmolamdlcmnaaGreatDoor.El
namespace Go.Proofs.YtpmmolamdlcmnaaGreatDoor.El
open Go.RowKit
open VecM Vc
/-- between two rows of Add's loop -/
structure AddAt (w : World) (F : Nat → Prop) (gm gr n z : Nat) (g h d c Z : Nat) (q : List UInt8) (b7 : Nat) (rs : List (Option ER)) (wr : World) : Prop where
  m : MatAt wr F gm gr n z rs
  v : VecAt wr g h n Z
  dat : DatAt wr (some ⟨d, 0, none⟩) c q
  bx : wr.heap[b7]? = some (.cells #[.pointer (some ⟨g, 0, none⟩), .slice (some ⟨d, 0, none⟩) z c] 91 (0, 0))
  fr : Fr w wr F
section
variable {w wr w' : World} {F : Nat → Prop} {gm gr n z g h d c Z b7 : Nat} {q : List UInt8} {rs : List (Option ER)}
theorem AddAt.below (a : AddAt w F gm gr n z g h d c Z q b7 rs wr) (hb : Below wr.heap.size wr w') : AddAt w F gm gr n z g h d c Z q b7 rs w' :=
  ⟨a.m.below hb, a.v.below hb, a.dat.keep fun b he => hb.block b (a.dat.lt he), (hb.block _ (Array.getElem?_eq_some_iff.1 a.bx).1).trans a.bx, a.fr.trans (Fr.of_below hb) fun _ _ h => h⟩
theorem AddAt.change (a : AddAt w F gm gr n z g h d c Z q b7 rs wr) {k : Nat} {r : ER} (hk : rs[k]? = some (some r)) (hrw : r.h < w.heap.size ∧ r.d < w.heap.size) (hgw : w.heap.size ≤ g ∧ w.heap.size ≤ h ∧ w.heap.size ≤ d ∧ w.heap.size ≤ b7)
    {X' : Nat} {l' : List UInt8} (hv : VecAt w' r.g r.h n X') (hd : DatAt w' (some ⟨r.d, 0, none⟩) r.c l') (hl : l'.length = z) (hf : Fr wr w' (fun b => b = r.h ∨ b = r.d)) : AddAt w F gm gr n z g h d c Z q b7 (rs.set k (some { r with X := X', l := l' })) w' := by
  obtain ⟨_, _, _, _, a5, a6⟩ := a.m.at_ k r hk
  refine ⟨a.m.upd hk hf hv hd hl, a.v.keep (hf.block _ a.v.lt.1 (by omega)) (hf.block _ a.v.lt.2 (by omega)), a.dat.keep fun b he => ?_, (hf.block _ (Array.getElem?_eq_some_iff.1 a.bx).1 (by omega)).trans a.bx, a.fr.trans hf fun b _ hb => ?_⟩
  · have he2 : d = b := Option.some.inj he
    exact hf.block _ (a.dat.lt he) (by omega)
  · rcases hb with rfl | rfl
    · exact a5
    · exact a6
end
def AddOk (F : Nat → Prop) (gm gr n z : Nat) (M : Mx) (w : World) (e : Ending) (w' : World) : Prop :=
  ∃ rs, e = .returned (.bool true) ∧ absM rs = M ∧ Hid (MatAt w' (fun b => F b ∨ (w.heap.size ≤ b ∧ b < w'.heap.size)) gm gr n z rs) ∧ Hid (Fr w w' F)
theorem redM_lt {w : World} {F : Nat → Prop} {gm gr n z : Nat} {rs : List (Option ER)} (m : MatAt w F gm gr n z rs) {X : Nat} (hX : X < 2 ^ n) (l : List UInt8) (k : Nat) : (redM (absM rs) X l k).1 < 2 ^ n := by
  induction k with
  | zero => exact hX
  | succ k ih =>
    cases h : (absM rs).getD k none with
    | none => rw [redM_none h]; exact ih
    | some r =>
      rw [redM_some h]
      split
      · refine Nat.xor_lt_two_pow ih ?_
        rw [absM_getD] at h
        cases h2 : rs.getD k none with
        | none => rw [h2] at h; cases h
        | some s =>
          rw [h2] at h
          injection h with h
          subst h
          exact (m.at_ k s (getD_get h2)).1.2.1
      · exact ih
theorem drew_heap (w : World) : w.drew.heap = w.heap := rfl
set_option maxRecDepth 100000 in
set_option maxHeartbeats 1600000 in
theorem add_no (F : Nat → Prop) (gm gr n z : Nat) (rs : List (Option ER)) (g0 h0 X c0 : Nat) (A : Option Addr) (l : List UInt8) (w : World) (m : MatAt w F gm gr n z rs) (v : VecAt w g0 h0 n X) (hr : Row w w.heap.size A l.length (bv l)) (hl : l.length = z) (ht : DTab w) (hz : (redM (absM rs) X l n).1 = 0) :
    Calls Tryz.prog 19 #[.pointer (some ⟨gm, 0, none⟩), .pointer (some ⟨g0, 0, none⟩), .slice A z c0] w fun e w' => e = .returned (.bool false) ∧ Hid (Below w.heap.size w w') := by
  have HM := Lib.hid m
  have HV := Lib.hid v
  have HT := Lib.hid ht
  have HR := Lib.hid hr
  have HL := Lib.hid hl
  have HZ := Lib.hid hz
  have hne : ((n : Int) != (n : Int)) = false := by simp
  have hnz : ((z : Int) != (z : Int)) = false := by simp
  obtain ⟨c0', c1, _⟩ := m.cells
  clear m v ht hr hl hz
  go_enter Tryz.func19, Tryz.ntmps19
  go_wp2_with fail
  go_quiet ((first
    | (go_at_call 37; with_reducible exact Calls.quiet_of_same (sameC (empty_no F gm gr n z rs _ (HM.out.drewN _))))
    | (go_at_call 38; with_reducible exact Calls.quiet_of_same (sameC (len_any g0 h0 n X _ (HV.out.drewN _))))))
  have HB := Lib.hid (drew_below w nq)
  have HMq := Lib.hid (HM.out.drewN nq)
  have HVq := Lib.hid (HV.out.drewN nq)
  have HTq := Lib.hid (HT.out.grow (drew_below w nq))
  have HRq := Lib.hid (HR.out.drewN nq)
  rw [show w.heap.size = (w.drewN nq).heap.size from rfl] at HRq
  clear c0' c1 HM HV HT hne hnz HR
  generalize w.drewN nq = wq at *
  go_wp2_with fail
  refine (reduced_any F gm gr n z rs g0 h0 X c0 A l wq HMq.out HVq.out HRq.out HL.out).mono ?_
  rintro e w1 ⟨g, h, d, c, rfl, _, _, _, hv1, _, hb1⟩
  rw [HZ.out] at hv1
  have hq := (redM_len (absM rs) X l n).trans HL.out
  rw [hq]
  clear hq
  go_upto_region 4 with fail
  have hba : Below w1.heap.size w1 (w1.alloc (.cells #[.pointer (some ⟨g, 0, none⟩), .slice (some ⟨d, 0, none⟩) z c] 91)) := (Below.refl _ _).alloc (Nat.le_refl _) _
  have hx := heap_alloc_new w1 (.cells #[.pointer (some ⟨g, 0, none⟩), .slice (some ⟨d, 0, none⟩) z c] 91)
  generalize w1.alloc (.cells #[.pointer (some ⟨g, 0, none⟩), .slice (some ⟨d, 0, none⟩) z c] 91) = wa at *
  have c1 : wa.cell? ⟨w1.heap.size, 0, none⟩ = some (.pointer (some ⟨g, 0, none⟩)) := by rw [cell_of_row wa _ 0 _ _ (0, 0) hx]; rfl
  have HB1 := Lib.hid (HB.out.trans ((hb1.out.trans (hba.mono hb1.out.size)).mono HB.out.size))
  have HT1 := Lib.hid ((HTq.out.grow hb1.out).grow hba)
  have HV1 := Lib.hid (hv1.out.below hba)
  clear hx hba hb1 hv1 HMq HVq HTq HRq HB
  go_wp2_with fail
  refine (first_any g h n 0 wa HV1.out HT1.out).mono ?_
  rintro e w2 ⟨rfl, rfl⟩
  rw [firstI_zero]
  go_wp2_with fail
  go_ret
  exact ⟨rfl, HB1⟩
/-- data of another length -/
theorem add_len (F : Nat → Prop) (gm gr n z : Nat) (rs : List (Option ER)) (g0 h0 X c0 : Nat) (A : Option Addr) (k : Nat) (w : World) (m : MatAt w F gm gr n z rs) (v : VecAt w g0 h0 n X) (hk : k ≠ z) :
    Calls Tryz.prog 19 #[.pointer (some ⟨gm, 0, none⟩), .pointer (some ⟨g0, 0, none⟩), .slice A k c0] w fun e w' => e = .returned (.bool false) ∧ Hid (Below w.heap.size w w') := by
  have HM := Lib.hid m
  have HV := Lib.hid v
  have hne : ((n : Int) != (n : Int)) = false := by simp
  have hnz : ((k : Int) != (z : Int)) = true := by simp; omega
  obtain ⟨c0', c1, _⟩ := m.cells
  clear m v hk
  go_enter Tryz.func19, Tryz.ntmps19
  go_wp2_with fail
  go_quiet ((first
    | (go_at_call 37; with_reducible exact Calls.quiet_of_same (sameC (empty_no F gm gr n z rs _ (HM.out.drewN _))))
    | (go_at_call 38; with_reducible exact Calls.quiet_of_same (sameC (len_any g0 h0 n X _ (HV.out.drewN _))))))
  have HB := Lib.hid (drew_below w nq)
  generalize w.drewN nq = wq at *
  go_wp2_with fail
  go_ret
  exact ⟨rfl, HB⟩
/-- no row -/
theorem add_nilv (F : Nat → Prop) (gm gr n z : Nat) (rs : List (Option ER)) (c0 : Nat) (A : Option Addr) (k : Nat) (w : World) (m : MatAt w F gm gr n z rs) :
    Calls Tryz.prog 19 #[.pointer (some ⟨gm, 0, none⟩), .pointer none, .slice A k c0] w fun e w' => e = .returned (.bool false) ∧ Hid (Below w.heap.size w w') := by
  have HM := Lib.hid m
  have h1 := m.n1
  have hne : ((0 : Int) != (n : Int)) = true := by simp; omega
  obtain ⟨c0', c1, _⟩ := m.cells
  clear m
  go_enter Tryz.func19, Tryz.ntmps19
  go_wp2_with fail
  go_quiet ((first
    | (go_at_call 37; with_reducible exact Calls.quiet_of_same (sameC (empty_no F gm gr n z rs _ (HM.out.drewN _))))
    | (go_at_call 38; with_reducible exact Calls.quiet_of_same (sameC (len_nil _)))))
  have HB := Lib.hid (drew_below w nq)
  generalize w.drewN nq = wq at *
  go_wp2_with fail
  go_ret
  exact ⟨rfl, HB⟩
/-- no matrix -/
theorem add_nilm (p : Option Addr) (A : Option Addr) (k c0 : Nat) (w : World) :
    Calls Tryz.prog 19 #[.pointer none, .pointer p, .slice A k c0] w fun e w' => e = .returned (.bool false) ∧ Hid (Below w.heap.size w w') := by
  go_enter Tryz.func19, Tryz.ntmps19
  go_wp2_with fail
  go_quiet ((first
    | (go_at_call 37; with_reducible exact Calls.quiet_of_same (sameC (empty_nil _)))))
  have HB := Lib.hid (drew_below w nq)
  generalize w.drewN nq = wq at *
  go_wp2_with fail
  go_ret
  exact ⟨rfl, HB⟩
set_option maxRecDepth 100000 in
set_option maxHeartbeats 3200000 in
theorem add_yes (F : Nat → Prop) (gm gr n z : Nat) (rs : List (Option ER)) (g0 h0 X c0 : Nat) (A : Option Addr) (l : List UInt8) (w : World) (m : MatAt w F gm gr n z rs) (v : VecAt w g0 h0 n X) (hr : Row w w.heap.size A l.length (bv l)) (hl : l.length = z) (ht : DTab w) (Z : Nat) (q : List UInt8) (hz : redM (absM rs) X l n = (Z, q)) (f : Nat) (hf : f < n) (hbit : Z.testBit f = true) (hlow : ∀ j, j < f → Z.testBit j = false) (hnone : rs[f]? = some none) :
    Calls Tryz.prog 19 #[.pointer (some ⟨gm, 0, none⟩), .pointer (some ⟨g0, 0, none⟩), .slice A z c0] w (AddOk F gm gr n z (addM (absM rs) Z q f) w) := by
  have HM := Lib.hid m
  have HV := Lib.hid v
  have HT := Lib.hid ht
  have HR := Lib.hid hr
  have HL := Lib.hid hl
  have HZ := Lib.hid hz
  have hne : ((n : Int) != (n : Int)) = false := by simp
  have hnz : ((z : Int) != (z : Int)) = false := by simp
  obtain ⟨c0', c1, _⟩ := m.cells
  have HF := Lib.hid hf
  have HBIT := Lib.hid (And.intro hbit hlow)
  have HNO := Lib.hid hnone
  have hn2 : (n : Int) ≤ 256 := by have := m.n2; omega
  have HN2 := Lib.hid m.n2
  clear m v ht hr hl hz hf hbit hlow hnone
  go_enter Tryz.func19, Tryz.ntmps19
  go_wp2_with fail
  go_quiet ((first
    | (go_at_call 37; with_reducible exact Calls.quiet_of_same (sameC (empty_no F gm gr n z rs _ (HM.out.drewN _))))
    | (go_at_call 38; with_reducible exact Calls.quiet_of_same (sameC (len_any g0 h0 n X _ (HV.out.drewN _))))))
  have HB := Lib.hid (drew_below w nq)
  have HMq := Lib.hid (HM.out.drewN nq)
  have HVq := Lib.hid (HV.out.drewN nq)
  have HTq := Lib.hid (HT.out.grow (drew_below w nq))
  have HRq := Lib.hid (HR.out.drewN nq)
  rw [show w.heap.size = (w.drewN nq).heap.size from rfl] at HRq
  clear c0' c1 HM HV HT hne hnz HR
  have HWQ : Hid ((w.drewN nq).heap.size = w.heap.size) := Lib.hid rfl
  generalize w.drewN nq = wq at *
  go_wp2_with fail
  refine (reduced_any F gm gr n z rs g0 h0 X c0 A l wq HMq.out HVq.out HRq.out HL.out).mono ?_
  rintro e w1 ⟨g, h, d, c, rfl, hg, hh, hd, hv1, hd1, hb1⟩
  rw [HZ.out] at hv1 hd1 ⊢
  have hq := redM_len (absM rs) X l n
  rw [HZ.out, HL.out] at hq
  simp only at hq hv1 hd1 ⊢
  rw [hq]
  have HQ := Lib.hid hq
  clear hq
  go_upto_region 4 with fail
  have hba : Below w1.heap.size w1 (w1.alloc (.cells #[.pointer (some ⟨g, 0, none⟩), .slice (some ⟨d, 0, none⟩) z c] 91)) := (Below.refl _ _).alloc (Nat.le_refl _) _
  have hx := heap_alloc_new w1 (.cells #[.pointer (some ⟨g, 0, none⟩), .slice (some ⟨d, 0, none⟩) z c] 91)
  generalize w1.alloc (.cells #[.pointer (some ⟨g, 0, none⟩), .slice (some ⟨d, 0, none⟩) z c] 91) = wa at *
  have c1 : wa.cell? ⟨w1.heap.size, 0, none⟩ = some (.pointer (some ⟨g, 0, none⟩)) := by rw [cell_of_row wa _ 0 _ _ (0, 0) hx]; rfl
  have hB1 := hb1.out.trans (hba.mono hb1.out.size)
  have HB1 := Lib.hid (HB.out.trans (hB1.mono HB.out.size))
  have HT1 := Lib.hid ((HTq.out.grow hb1.out).grow hba)
  have HGW : Hid (w.heap.size ≤ g ∧ w.heap.size ≤ h ∧ w.heap.size ≤ d ∧ w.heap.size ≤ w1.heap.size) := Lib.hid (by have := HB.out.size; have := hb1.out.size; omega)
  have HA : Hid (AddAt w F gm gr n z g h d c Z q w1.heap.size (chgTo Z q f rs 0) wa) := Lib.hid (by
    rw [chgTo_zero]
    exact ⟨HMq.out.below hB1, hv1.out.below hba, hd1.out.keep fun b he => hba.block b (hd1.out.lt he), hx, Fr.of_below HB1.out⟩)
  clear hx hba hb1 hv1 hd1 HVq HTq HRq HB hB1 hg hh hd
  go_wp2_with fail
  refine (first_any g h n Z wa HA.out.v HT1.out).mono ?_
  rintro e w2 ⟨rfl, rfl⟩
  rw [show firstI (Ls Z) = (f : Int) from firstI_low (by have := HF.out; have := HN2.out; omega) HBIT.out.1 HBIT.out.2]
  have hf0 : (0 : Int) ≤ (f : Int) := by omega
  obtain ⟨_, _, m2, _⟩ := HA.out.m.cells
  clear c1
  go_wp2_with fail
  clear m2
  have HMW := Lib.hid (And.intro HMq.out HB1.out)
  go_loopw [46] (fun x wr => ∃ k : Nat, k ≤ n ∧ x = .int .i64 k ∧ Hid (AddAt w F gm gr n z g h d c Z q w1.heap.size (chgTo Z q f rs k) wr)) (fun x _ => n - (intOf x).toNat)
  case atStart => exact ⟨0, by omega, rfl, HA⟩
  case round =>
    obtain ⟨k, hk, rfl, ha⟩ := hrel
    clear HA HT1
    by_cases hlt : k < n
    · have hki : (k : Int) < (n : Int) := by omega
      obtain ⟨r1, r2⟩ := ha.out.m.row hlt
      have hgr : gr < wr.heap.size := ha.out.m.lt.2
      have hlk : k < rs.length := by rw [HMq.out.len]; exact hlt
      have hck : (chgTo Z q f rs k)[k]? = rs[k]? := by rw [chgTo_get, if_neg (Nat.lt_irrefl _)]
      have hrk : rs[k]? = some (rs.getD k none) := by rw [List.getD_eq_getElem?_getD, List.getElem?_eq_getElem hlk]; rfl
      have hdk : (chgTo Z q f rs k).getD k none = rs.getD k none := by rw [List.getD_eq_getElem?_getD, List.getD_eq_getElem?_getD, hck]
      rw [hdk] at r1 r2
      have HRK := Lib.hid hrk
      have HCK := Lib.hid hck
      clear hck hrk hdk hlk
      cases hro : rs.getD k none with
      | none =>
        rw [hro] at r1 r2 HRK
        unfold ptrOf at r1
        unfold slcOf at r2
        simp only at r1 r2
        clear hro
        have HS : Hid (AddAt w F gm gr n z g h d c Z q w1.heap.size (chgTo Z q f rs (k + 1)) (wr.alloc (.cells #[.pointer none, .slice none 0 0] 91))) := Lib.hid (by
          rw [chgTo_same Z q f rs k HRK.out rfl]
          exact ha.out.below ((Below.refl _ _).alloc (Nat.le_refl _) _))
        clear ha
        go_wp2_with fail
        refine (has_no none _ _ (within_nil _ _)).mono ?_
        rintro e w3 ⟨rfl, rfl⟩
        go_wp2_with fail
        go_roundw
        case rel => exact ⟨k + 1, by omega, by go_num, HS⟩
        case measure => simp [intOf]; omega
      | some r =>
        rw [hro] at r1 r2 HRK
        obtain ⟨e1, e2, e3, e4, e5, e6⟩ := HMq.out.at_ k r HRK.out
        unfold ptrOf at r1
        unfold slcOf at r2
        simp only [e3] at r1 r2
        obtain ⟨v1, v2, v3, _⟩ := ha.out.m.at_ k r (HCK.out.trans HRK.out)
        have HE := Lib.hid (And.intro e1 (And.intro e2 e3))
        clear hro e1 e2 e3 e4 e5 e6 v1 v2 v3
        go_upto_region 10 with fail
        have hra := ha.out.below (w' := wr.alloc (.cells #[.pointer (some ⟨r.g, 0, none⟩), .slice (some ⟨r.d, 0, none⟩) z r.c] 91)) ((Below.refl _ _).alloc (Nat.le_refl _) _)
        have hxa := heap_alloc_new wr (.cells #[.pointer (some ⟨r.g, 0, none⟩), .slice (some ⟨r.d, 0, none⟩) z r.c] 91)
        have HRA := Lib.hid hra
        have HXA := Lib.hid hxa
        generalize wr.alloc (.cells #[.pointer (some ⟨r.g, 0, none⟩), .slice (some ⟨r.d, 0, none⟩) z r.c] 91) = wb at *
        clear hra hxa r1 r2 hgr ha
        have c1 : wb.cell? ⟨w1.heap.size, 0, none⟩ = some (.pointer (some ⟨g, 0, none⟩)) := by rw [cell_of_row wb _ 0 _ _ (0, 0) HRA.out.bx]; rfl
        have c2 : wb.cell? ⟨w1.heap.size, 1, none⟩ = some (.slice (some ⟨d, 0, none⟩) z c) := by rw [cell_of_row wb _ 1 _ _ (0, 0) HRA.out.bx]; rfl
        have c3 : wb.cell? ⟨wr.heap.size, 0, none⟩ = some (.pointer (some ⟨r.g, 0, none⟩)) := by rw [cell_of_row wb _ 0 _ _ (0, 0) HXA.out]; rfl
        have c4 : wb.cell? ⟨wr.heap.size, 1, none⟩ = some (.slice (some ⟨r.d, 0, none⟩) z r.c) := by rw [cell_of_row wb _ 1 _ _ (0, 0) HXA.out]; rfl
        obtain ⟨y1, y2, y3, _⟩ := HRA.out.m.at_ k r (HCK.out.trans HRK.out)
        have Y1 := Lib.hid y1
        have Y2 := Lib.hid y2
        have Y3 := Lib.hid y3
        clear y1 y2 y3
        go_wp2_with fail
        refine (has_in r.g r.h n r.X f wb Y1.out HF.out).mono ?_
        rintro e w3 ⟨rfl, rfl⟩
        cases hb2 : r.X.testBit f with
        | false =>
          have HS : Hid (AddAt w F gm gr n z g h d c Z q w1.heap.size (chgTo Z q f rs (k + 1)) wb) := Lib.hid (by
            rw [chgTo_same Z q f rs k HRK.out (by unfold chgE; simp [hb2])]
            exact HRA.out)
          clear hb2
          go_wp2_with fail
          go_roundw
          case rel => exact ⟨k + 1, by omega, by go_num, HS⟩
          case measure => simp [intOf]; omega
        | true =>
          have HN : Hid (chgTo Z q f rs (k + 1) = (chgTo Z q f rs k).set k (some { r with X := r.X ^^^ Z, l := xorL r.l q })) := Lib.hid (by
            rw [chgTo_next Z q f rs k HRK.out]
            unfold chgE
            simp [hb2])
          clear hb2
          go_wp2_with fail
          have hrw : r.h < w.heap.size ∧ r.d < w.heap.size := by rw [← HWQ.out]; exact ⟨HE.out.1.lt.2, HE.out.2.1.lt rfl⟩
          refine (change_any r.g r.h n r.X r.d r.c z g h Z d c r.l q wb Y1.out Y2.out HRA.out.v HRA.out.dat (by have := HGW.out; omega) (by have := HGW.out; omega) Y3.out HQ.out (by have := HMq.out.z2; omega)).mono ?_
          rintro e w5 ⟨rfl, hv5, hd5, hf5⟩
          have HF5 : Hid (AddAt w F gm gr n z g h d c Z q w1.heap.size (chgTo Z q f rs (k + 1)) w5) := Lib.hid (by
            rw [HN.out]
            exact HRA.out.change (HCK.out.trans HRK.out) hrw HGW.out hv5.out hd5.out (by rw [xorL_length]; exact Y3.out) hf5.out)
          clear hrw hv5 hd5 hf5 c1 c2 c3 c4
          go_wp2_with fail
          go_roundw
          case rel => exact ⟨k + 1, by omega, by go_num, HF5⟩
          case measure => simp [intOf]; omega
    · obtain rfl : n = k := by omega
      have hlen := HMq.out.len
      have HAF : Hid (AddAt w F gm gr n z g h d c Z q w1.heap.size (rs.map (chgE Z q f)) wr) := Lib.hid (by
        have := ha.out
        rw [← hlen, chgTo_all] at this
        rw [← hlen]
        exact this)
      have HNF : Hid ((rs.map (chgE Z q f))[f]? = some none) := Lib.hid (by rw [List.getElem?_map, HNO.out]; rfl)
      have hdf : (rs.map (chgE Z q f)).getD f none = none := by rw [List.getD_eq_getElem?_getD, HNF.out]; rfl
      clear ha hlen
      obtain ⟨_, _, m2, m3⟩ := HAF.out.m.cells
      obtain ⟨r1, r2⟩ := HAF.out.m.row HF.out
      rw [hdf] at r1 r2
      unfold ptrOf at r1
      unfold slcOf at r2
      simp only at r1 r2
      have f1 := (HAF.out.m.frozen (f * 2)).1
      have f2 := (HAF.out.m.frozen (f * 2 + 1)).1
      have c1 : wr.cell? ⟨w1.heap.size, 0, none⟩ = some (.pointer (some ⟨g, 0, none⟩)) := by rw [cell_of_row wr _ 0 _ _ (0, 0) HAF.out.bx]; rfl
      have c2 : wr.cell? ⟨w1.heap.size, 1, none⟩ = some (.slice (some ⟨d, 0, none⟩) z c) := by rw [cell_of_row wr _ 1 _ _ (0, 0) HAF.out.bx]; rfl
      have hfi : (f : Int) < (n : Int) := by have := HF.out; omega
      clear hdf
      go_wp2_with fail
      go_region
      have hne : gm ≠ gr := by
        obtain ⟨cs, hr, _⟩ := HAF.out.m.rows
        exact ne_of_types HAF.out.m.head hr (by decide)
      have h3 : (((wr.setCell ⟨gr, f * 2, none⟩ (.pointer (some ⟨g, 0, none⟩))).setCell ⟨gr, f * 2 + 1, none⟩ (.slice (some ⟨d, 0, none⟩) z c)).drew).heap[gm]? = some (.cells #[.int .i64 (n : Int), .int .i64 (z : Int), .slice (some ⟨gr, 0, none⟩) n n, .int .i64 (rankE (rs.map (chgE Z q f)) : Int)] 88 (0, 0)) := by
        rw [drew_heap, heap_setCell_other _ _ _ _ hne, heap_setCell_other _ _ _ _ hne]; exact HAF.out.m.head
      have HFIN : Hid (∀ W', W' = (((wr.setCell ⟨gr, f * 2, none⟩ (.pointer (some ⟨g, 0, none⟩))).setCell ⟨gr, f * 2 + 1, none⟩ (.slice (some ⟨d, 0, none⟩) z c)).drew).setCell ⟨gm, 3, none⟩ (.int .i64 ((rankE (rs.map (chgE Z q f)) : Int) + 1)) → AddOk F gm gr n z (addM (absM rs) Z q f) w (.returned (.bool true)) W') := Lib.hid (fun W' hW' => by
        have hP := HAF.out.m.put HNF.out HAF.out.v HAF.out.dat HQ.out (fun i r hr => by
          rw [List.getElem?_map] at hr
          cases hi : rs[i]? with
          | none => rw [hi] at hr; cases hr
          | some o =>
            rw [hi] at hr
            injection hr with hr
            cases o with
            | none => cases hr
            | some s =>
              have hs := HMq.out.at_ i s hi
              have e : r.h = s.h ∧ r.d = s.d := by
                unfold chgE at hr
                simp only [Option.map] at hr
                injection hr with hr
                rw [← hr]
                split <;> exact ⟨rfl, rfl⟩
              have l1 := hs.1.lt.2
              have l2 := hs.2.1.lt (d := s.d) rfl
              have hG := HGW.out
              rw [HWQ.out] at l1 l2
              omega)
        have hh : W'.heap = (putW wr gm gr f g d z c (rankE (rs.map (chgE Z q f)) + 1)).heap := by rw [hW']; rfl
        have hsz : (putW wr gm gr f g d z c (rankE (rs.map (chgE Z q f)) + 1)).heap.size = wr.heap.size := by unfold putW; simp
        have hvl := HAF.out.v.lt
        have hdl := HAF.out.dat.lt (d := d) rfl
        refine ⟨_, rfl, ?_, (hP.keep (W' := W') fun b _ _ => by rw [hh]).more fun b hb => ?_, HAF.out.fr.trans (F' := fun b => b = gr ∨ b = gm) ⟨?_, ?_, ?_, ?_, fun b _ hb => ?_⟩ fun b _ hb => ?_⟩
        · rw [absM_set, absM_chg]; rfl
        · rcases hb with hb | hb | hb | hb
          · exact .inl hb
          all_goals (right; subst hb; rw [hh, hsz]; have := HGW.out; omega)
        · rw [hW']; rfl
        · rw [hW']; rfl
        · rw [hW']; rfl
        · rw [hh, hsz]; exact Nat.le_refl _
        · rw [hh]; exact putW_other _ _ _ _ _ _ _ _ _ (fun e => hb (.inl e)) (fun e => hb (.inr e))
        · rcases hb with rfl | rfl
          · exact HAF.out.m.fr
          · exact HAF.out.m.fm)
      have hrk : (0 : Int) ≤ (rankE (rs.map (chgE Z q f)) : Int) ∧ (rankE (rs.map (chgE Z q f)) : Int) ≤ 1000000 := by
        have h1 : rankE (rs.map (chgE Z q f)) ≤ (rs.map (chgE Z q f)).length := List.length_filter_le _ _
        rw [List.length_map, HMq.out.len] at h1
        have := HMq.out.n2
        omega
      have HRK := Lib.hid hrk
      clear hne hrk m2 m3 r1 r2 f1 f2 c1 c2
      generalize (((wr.setCell ⟨gr, f * 2, none⟩ (.pointer (some ⟨g, 0, none⟩))).setCell ⟨gr, f * 2 + 1, none⟩ (.slice (some ⟨d, 0, none⟩) z c)).drew) = W2 at *
      have k3 : W2.cell? ⟨gm, 3, none⟩ = some (.int .i64 (rankE (rs.map (chgE Z q f)) : Int)) := by rw [cell_of_row W2 _ 3 _ _ (0, 0) h3]; rfl
      have k4 := frozen_of_row W2 gm 3 _ _ h3
      have K3 := Lib.hid k3
      have K4 := Lib.hid k4
      clear h3 k3 k4
      go_wp2_with fail
      refine (add64_any gm 3 _ W2 K3.out K4.out HRK.out).mono ?_
      rintro e w5 ⟨rfl, rfl⟩
      have hf := HFIN.out _ rfl
      have HFF := Lib.hid hf
      clear hf HFIN
      go_wp2_with fail
      go_ret
      exact HFF.out
end Go.Proofs.YtpmmolamdlcmnaaGreatDoor.El
namespace Go.Proofs.YtpmmolamdlcmnaaGreatDoor.El
open Go.RowKit
open VecM Vc
/-- a row, as bytes -/
def rowB (n : Nat) : Option (Nat × List UInt8) → List UInt8
  | none => []
  | some r => bl r.1 n ++ r.2
def hdr (n z R : Nat) : List UInt8 := [UInt8.ofNat (n - 1), UInt8.ofNat z, UInt8.ofNat (R / 256), UInt8.ofNat (R % 256)]
/-- the head, and the first k rows -/
def bytesTo (n z R : Nat) (M : Mx) (k : Nat) : List UInt8 := hdr n z R ++ (M.take k).flatMap (rowB n)
def rankM (M : Mx) : Nat := (M.filter Option.isSome).length
def bytesM (n z : Nat) (M : Mx) : List UInt8 := bytesTo n z (rankM M) M n
theorem rankM_abs (rs : List (Option ER)) : rankM (absM rs) = rankE rs := by
  unfold rankM rankE absM
  induction rs with
  | nil => rfl
  | cons x t ih =>
    rw [List.map_cons, List.filter_cons, List.filter_cons]
    cases x with
    | none => simpa using ih
    | some r => simpa using ih
theorem bytesTo_next (n z R : Nat) (M : Mx) (k : Nat) : bytesTo n z R M (k + 1) = bytesTo n z R M k ++ rowB n (M.getD k none) := by
  unfold bytesTo
  rw [List.append_assoc]
  congr 1
  by_cases h : k < M.length
  · rw [List.take_succ_eq_append_getElem h, List.flatMap_append, List.getD_eq_getElem?_getD, List.getElem?_eq_getElem h]
    simp
  · rw [List.take_of_length_le (by omega), List.take_of_length_le (by omega), List.getD_eq_getElem?_getD, List.getElem?_eq_none (by omega)]
    simp [rowB]
theorem bytesTo_zero (n z R : Nat) (M : Mx) : bytesTo n z R M 0 = hdr n z R := by simp [bytesTo]
/-- a row of one's own, told so far -/
structure OwnAt (w : World) (l : List UInt8) (v : Value) (wr : World) : Prop where
  own : wr.ownsRow w.heap.size 5 1 v l.length (bv l)
  b : Below w.heap.size w wr
theorem OwnAt.below {w wr w' : World} {l : List UInt8} {v : Value} (h : OwnAt w l v wr) (hb : Below wr.heap.size wr w') : OwnAt w l v w' := by
  refine ⟨?_, h.b.trans (hb.mono h.b.size)⟩
  obtain ⟨A, cap, rfl, _, _, _⟩ := own_slice h.own
  exact own_keep h.own fun b he => hb.block b (by
    rcases h.own.2 with ⟨h0, _⟩ | ⟨g, cap, cur, hv, _, hg, _⟩
    · injection h0 with e1; rw [e1] at he; cases he
    · injection hv with e1
      rw [e1] at he
      have he : g = b := Option.some.inj he
      subst he
      exact (Array.getElem?_eq_some_iff.1 hg).1)
theorem OwnAt.app {w wr w' : World} {l m : List UInt8} {v v' : Value} {j : Nat} (h : OwnAt w l v wr) (hj : j = m.length) (ho : w'.ownsRow w.heap.size 5 1 v' (l.length + j) (bv l ++ bv m)) (hg : wr.grownBy w' v.ownBlock) : OwnAt w (l ++ m) v' w' := by
  subst hj
  refine ⟨?_, below_app h.b h.b.size h.own (Nat.le_refl _) hg⟩
  rw [List.length_append, bv_append]
  exact ho
def TellB (l : List UInt8) (w : World) (e : Ending) (w' : World) : Prop := ∃ A c, e = .returned (.slice A l.length c) ∧ Hid (w'.ownsRow w.heap.size 5 1 (.slice A l.length c) l.length (bv l)) ∧ Hid (Below w.heap.size w w')
theorem u8_of (x : Nat) (h : x < 256) : ((UInt8.ofNat x).toNat : Int) = (x : Int) := by
  rw [UInt8.toNat_ofNat']; congr 1; exact Nat.mod_eq_of_lt h
theorem wpList_appNil {P : Program} {w : World} {ops : Array Oper} {rest : List Oper} {o : Oper} {a : Act} {Q : Exit → Act → World → Prop} (hgd : o.guard = none) (s x : Operand) (t : TypeId)
    (ho : o.op = .call { callee := .builtin .append, args := #[s, x], argTypes := #[t, t] }) (base : Nat) (e : TypeId) (i : TypeInfo) (ht : P.underlying t = some (.slice e)) (hi : P.info? e = some i)
    (v : Value) (n : Nat) (xs : List Value) (hs : a.eval s = v) (hown : w.ownsRow base e 1 v n xs) (c : Nat) (hx : a.eval x = .slice none 0 c)
    (h : wpList P ops Q rest (a.put o.dst v) w) : wpList P ops Q (o :: rest) a w :=
  wpList_plain hgd fun _ hK => by
    have hrun := app_nil (P := P) w base t o.type e i ht hi v n xs hown c
    unfold Oper.wp execOp
    simp only [ho, resolve, invoke, builtin, Sem.run_bind, Sem.run_pure, Result.andThen_ok, List.map_toArray, List.map_cons, List.map_nil, hs, hx, hrun]
    exact hK _ _ h
end Go.Proofs.YtpmmolamdlcmnaaGreatDoor.El
